/- Safe by the program, beside leavers, where nobody moves: out of the loop, and home. -/
import Derived.Test.YtmfjakieahkacaaGreatDoorJ41
import Derived.Test.YtmfjakieahkacaaGreatDoorJ40
import Derived.Test.YtmfjakieahkacaaGreatDoorJ17
set_option maxRecDepth 100000
set_option maxHeartbeats 4000000
namespace Go.Proofs.YtmfjakieahkacaaGreatDoor
open Go.Conc Go.ConcN Go.RowKit Go.Conc.Lib Go.ConcR.Gen Go.ConcN.Gen
open Go.ConcR (KK wgBlock WgAt stA smA rd wr mk Payload DC0)
theorem Ij{Shun:Loc->Prop}{a:Addr}{B0:Nat}(hM:a.block<B0)(hs:¬Shun (.cell a)):EvL Shun B0 ⟨.cell a,true,false⟩:=by
 refine⟨λx hx h=>?_,by simp,by simp,hM⟩;simp only[Go.ConcR.ofEvent_cell,MemAct.touch?,Option.some.injEq] at hx;subst hx;exact absurd h hs
theorem NG(T:Array Value)(d l:Nat)(v:Value):(cO T d l).finish v=bO.at ⟨T,XZ d⟩ (.endRangeFunc l::.inBlock 0::[.code Jj]):=rfl
theorem Kf{P:Program}{main:Bool}{b:Frame}{a:Act}{todo:List Item}{c:Frame}{cs:List Frame}{w:World}{fn:Func}{q q2:Tmp}{T T2:TypeId}{r r2:Addr}{x y:Value}(hn:b.kind=.normal)(hd:a.defers=[])(hf:P.funcs[b.fn]?=some fn)(hres:fn.results=#[.cell q T,.cell q2 T2])
  (ht:a.tmps.getD q undef=.pointer (some r)) (ht2:a.tmps.getD q2 undef=.pointer (some r2)) (hL:(loadVar T r).run P w=.ok x w) (hE:∀es,(loadVar T r).events P w es=es.push ⟨.cell r,false,false⟩) (hL2:(loadVar T2 r2).run P w=.ok y w) (hE2:∀es,(loadVar T2 r2).events P w es=es.push ⟨.cell r2,false,false⟩) :
  ∃es,stepG P main (G {b.at a todo with mode:=.returning} (c::cs)) w=.go (G (c.finish (.tuple #[x,y])) cs) w es/\∀e∈es,e=⟨.cell r,false,false⟩∨e=⟨.cell r2,false,false⟩:=by
 have ht':a.tmps[q]?.getD undef=.pointer (some r):=by simpa using ht
 have ht2':a.tmps[q2]?.getD undef=.pointer (some r2):=by simpa using ht2
 have hr:(results fn a.tmps).runT P w #[]=(.ok (.tuple #[x,y]) w,#[⟨.cell r,false,false⟩,⟨.cell r2,false,false⟩]):=by
  have ha:(asAddr (.pointer (some r))).run P w=.ok r w:=by simp[go_sem]
  have ha2:(asAddr (.pointer (some r2))).run P w=.ok r2 w:=by simp[go_sem]
  have hb:∀es,(asAddr (.pointer (some r))).events P w es=es:=λes=>by simp[go_sem]
  have hb2:∀es,(asAddr (.pointer (some r2))).events P w es=es:=λes=>by simp[go_sem]
  simp only[results,hres];simp[Sem.run_bind,Result.andThen,Result.evThen,ht',ht2',ha,ha2,hb,hb2,hL,hL2,hE,hE2]
 refine⟨seen P b.fn #[⟨.cell r,false,false⟩,⟨.cell r2,false,false⟩],?_,λe he=>?_⟩
 ·simp only[G,stepG,unwind,doReturn,Frame.at,hn,hd,hf,hr,GStep.after];simp
 ·have:=mem_seen he;simpa using this
theorem Lx(P:Program)(w:World)(es:Array Event)(a:Addr)(m:Mode)(x:Option Addr)(n c:Nat):(store a (.slice x n c) m).events P w es=storedEv P w es a (.slice x n c) m:=events_store P w es a _ m rfl
theorem Ly(P:Program)(w:World)(es:Array Event)(a:Addr)(m:Mode)(s:Bool):(store a (.bool s) m).events P w es=storedEv P w es a (.bool s) m:=events_store P w es a _ m rfl
theorem PZ{s:GStep}{g:Goroutine}{w:World}{K:Goroutine->World->Array Event->Prop}{Q:Array Event->Prop}(h:∃es,s=.go g w es/\Q es)(hk:∀es,Q es->K g w es):s.goes K:=by
 obtain⟨es,rfl,ho⟩:=h;exact hk es ho
theorem Do(W:World)(l:Nat)(o:Obj):W.grownBy (W.putObj l o) (some l):=⟨rfl,rfl,rfl,by rw[World.putObj_size];exact A3 _,λi _ hi=>World.putObj_heap_other λe=>hi (by rw[e])⟩
noncomputable def V8(V:World)(TO:Array Value)(l dl p2 p3:Nat):World :=
 (((V.putObj l (.loop {Y2 TO dl with state:=.exhausted})).setCell ⟨p2,0,none⟩ (.slice none 0 0)).setCell ⟨p3,0,none⟩ (.bool false)).putObj dl (.deferred none)
section
variable {X:Nat->Prop} {Shun:Loc->Prop} {c:Frame} {cs:List Frame}
end
theorem Si(T:Array Value)(h:T.size=11):∃v0 v1 v2 v3 v4 v5 v6 v7 v8 v9 v10:Value,T=#[v0,v1,v2,v3,v4,v5,v6,v7,v8,v9,v10]:=by
 obtain⟨l⟩:=T;simp only[List.size_toArray] at h;match l,h with
 | [v0,v1,v2,v3,v4,v5,v6,v7,v8,v9,v10],_=>exact⟨_,_,_,_,_,_,_,_,_,_,_,rfl⟩
theorem MA{X:Nat->Prop}{W w:World}(hb:N9 X W)(hsz:W.heap.size<=w.heap.size)(hX:∀b,X b->w.heap[b]?=W.heap[b]?)(hp:NV w):N9 X w :=
 ⟨λb h=>A1 (hb.old b h) hsz,λb h=>by rw[hX b h];exact hb.cov b h,hp⟩
theorem GK{w:World}(h:NV w){l:Nat}{o:Obj}(ho:∀c t,o≠.pending c t):NV (w.putObj l o):=by
 intro b c t hx;by_cases e:b=l
 ·subst e;by_cases hl:b<w.heap.size
  ·rw[World.putObj_heap_same hl] at hx;exact absurd (A5 hx) (ho c t)
  ·rw[Array.getElem?_eq_none (by rw[World.putObj_size];omega)] at hx;cases hx
 ·rw[World.putObj_heap_other e] at hx;exact h b c t hx
theorem Qa{w:World}(h:NV w){o:Obj}(ho:∀c t,o≠.pending c t):NV (w.alloc o):=by
 intro b c t hx;rcases Nat.lt_trichotomy b w.heap.size with h1|rfl|h1
 ·rw[Below.heap_alloc w o b h1] at hx;exact h b c t hx
 ·rw[World.alloc_heap_new] at hx;exact absurd (A5 hx) (ho c t)
 ·rw[Array.getElem?_eq_none (by rw[World.size_alloc];omega)] at hx;cases hx
theorem FU{X:Nat->Prop}{V w:World}{τ τ':Nat->Question->Nat}{d d' B k:Nat}(h:Below B (E0 X V τ d) (E0 X w τ' d'))(hk:k<B)(hx:¬X k):w.heap[k]?=V.heap[k]?:=by
 have h1:(pz X w).heap[k]?=(pz X V).heap[k]?:=h.block k hk;rw[Cz,Cz] at h1;have e:∀o:Option Obj,o.map (BQ X k)=o:=λo=>by cases o<;>simp[BQ,hx]
 rwa [e,e] at h1
theorem MB(V:World)(T:Array Value):(V1 V T).heap.size=V.heap.size+2:=by simp[V1,World.size_alloc]
theorem Wm(V:World)(T:Array Value)(b:Nat)(h:b<V.heap.size):(V1 V T).heap[b]?=V.heap[b]?:=by
 rw[V1,Below.heap_alloc _ _ _ (by rw[World.size_alloc];omega),Below.heap_alloc _ _ _ h]
theorem Aae(V:World)(T:Array Value):(V1 V T).heap[V.heap.size+1]?=some (.loop (Y2 T V.heap.size)):=by
 have:=World.alloc_heap_new (V.alloc (.deferred (some []))) (.loop (Y2 T V.heap.size));rwa [World.size_alloc] at this
theorem Abt(V:World)(T:Array Value):(V1 V T).heap[V.heap.size]?=some (.deferred (some [])):=by
 rw[V1,Below.heap_alloc _ _ _ (by rw[World.size_alloc];omega)];exact World.alloc_heap_new V _
theorem Aaf{X:Nat->Prop}{V:World}(h:N9 X V)(T:Array Value):N9 X (V1 V T) :=
 MA h (by rw[MB];omega) (λb hb=>Wm V T b (h.old b hb)) (Qa (Qa h.pend (by intro c t e;cases e)) (by intro c t e;cases e))
theorem Sj(V:World)(TO:Array Value)(l dl p2 p3:Nat):(V8 V TO l dl p2 p3).heap.size=V.heap.size:=by
 rw[V8,World.putObj_size,(aside_setCell _ _ _).size,(aside_setCell _ _ _).size,World.putObj_size]
theorem Qb{V:World}{TO:Array Value}{l dl p2 p3 b:Nat}(h1:b≠l)(h2:b≠dl)(h3:b≠p2)(h4:b≠p3):(V8 V TO l dl p2 p3).heap[b]?=V.heap[b]?:=by
 rw[V8,World.putObj_heap_other h2,(aside_setCell _ _ _).block b h4,(aside_setCell _ _ _).block b h3,World.putObj_heap_other h1]
theorem Aag{X:Nat->Prop}{V:World}(h:N9 X V){TO:Array Value}{l dl p2 p3:Nat}(h1:¬X l)(h2:¬X dl)(h3:¬X p2)(h4:¬X p3):N9 X (V8 V TO l dl p2 p3) :=
 MA h (by rw[Sj];exact A3 _) (λb hb=>Qb (λe=>h1 (e ▸ hb)) (λe=>h2 (e ▸ hb)) (λe=>h3 (e ▸ hb)) (λe=>h4 (e ▸ hb)))
  (GK (FM (FM (GK h.pend (by intro c t e;cases e)) _ _) _ _) (by intro c t e;cases e))
theorem YJ(V:World)(TO:Array Value)(l dl p2 p3:Nat):(V8 V TO l dl p2 p3).os=V.os/\(V8 V TO l dl p2 p3).output=V.output:=⟨rfl,rfl⟩
section
variable {X:Nat->Prop} {Shun:Loc->Prop} {c:Frame} {cs:List Frame}
theorem Abu(hX:AH Shun X){T:Array Value}{w:World}{bx:Nat}{s1 s2:Value}(hT:T.size=11)(t1:T[1]?=some (.pointer (some ⟨bx,0,none⟩))){τ:Nat->Question->Nat}{d:Nat}(hc0:(E0 X w τ d).cell? ⟨bx,0,none⟩=some s1)(hc1:(E0 X w τ d).cell? ⟨bx,1,none⟩=some s2):
  Go.Conc.Goes Tryz.prog true AtRel (DE (EvL Shun w.heap.size)) (λg w'=>(∃T',g=G (Frame.enter Tryz.prog 29 #[.agg #[s1,s2]] .normal) (bA.at ⟨T',[]⟩ (.inRegion Lv [1,2,3,4,5,6]::[.code Wf])::c::cs)/\T'.size=11)/\AtRel w w') 20 (G (bA.at ⟨T,[]⟩ [.code NF]) (c::cs)) w:=by
 obtain⟨hc0,hx⟩:=Dm hc0;obtain⟨hc1,-⟩:=Dm hc1;have hlt:=World.block_lt_of_cell? w _ hc0;have hns:∀o,¬Shun (.cell ⟨bx,o,none⟩):=λo h=>by obtain⟨a,e,ha⟩:=hX _ h;cases e;exact hx ha
 obtain⟨v0,v1,v2,v3,v4,v5,v6,v7,v8,v9,v10,rfl⟩:=Si T hT;simp only[List.getElem?_toArray,List.getElem?_cons_succ,List.getElem?_cons_zero,Option.some.injEq] at t1;subst t1;simp only[NF,Wf,Lv,Fk,Tryz.f10,Option.getD_some];have rl:∀{V w w₁:World},AtRel V w->AtRel w w₁->AtRel V w₁:=λh r=>atRel_trans _ _ _ h r;have hF:AtRel w w:=atRel_refl w;u_c stepG_seq rl hF
 u_reg rl hF
 u_in rl hF
 refine goes_oper_k rfl rfl (by k_ne) (λK hK=>?_);have hc':(‹World›).cell? ⟨bx,0,none⟩=some s1:=(by obtain⟨d,rfl⟩:=hF;exact hc0);have hc'':(‹World›).cell? ⟨bx,1,none⟩=some s2:=(by obtain⟨d,rfl⟩:=hF;exact hc1);go_simp;refine hK _ _ ⟨(λe he=>by have hm:=mem_listed he;simp[go_sem, *] at hm;rcases hm with rfl|rfl<;>exact BG hlt (hns _)),?_⟩;clear hK K hc' hc'';try walk_nrm
 u_in rl hF
 refine TL #[.agg #[s1,s2]] rfl rfl (by k_ne) rfl Tryz.func29 (by kernel_rfl) rfl (by simp[Act.eval]) ⟨λe he=>by simp at he,?_⟩;exact Go.Conc.Goes.stop λw₁ r=>⟨⟨_,rfl,rfl⟩,rl hF r⟩
end
theorem Abv(b:Bk)(a:Act):P4 (AtA b (λ_=>True) a):=λ_ _ _ h=>h
theorem Abw(b:Bk)(lo:Nat)(a:Act):P4 (AtO b lo (λ_=>True) a):=λ_ _ _ h=>h
theorem Abx:Fk=AM [Sd] NF:=by simp only[AM,Sd,NF,Fk,Tryz.f10,Option.getD_some]
theorem Aby:Bw=AM [Ji,Iw] (.seq (.seq Lw Eu) Jj):=by simp only[AM,Ji,Iw,Lw,Eu,Jj,Bw,Tryz.f29,Option.getD_some]
theorem Abz:Dn=AM [Sf,Sg] LF:=by simp only[AM,Sf,Sg,LF,Dn,Tryz.f69,Option.getD_some]
theorem Sk:∀r∈[Sd,Ji,Iw,Lw,Sf,Sg],N7 Tryz.prog (λg=>EN.contains g) r=true:=by
 intro r hr;simp only[List.mem_cons,List.not_mem_nil,or_false] at hr;rcases hr with rfl|rfl|rfl|rfl|rfl|rfl<;>kernel_rfl
theorem frA:CC Tryz.prog bA:=⟨rfl,_,Tryz.func10⟩
theorem frO:CC Tryz.prog bO:=⟨rfl,_,Tryz.func29⟩
theorem frF:CC Tryz.prog bF:=⟨rfl,_,Tryz.func69⟩
theorem Jk{w w':World}{b:Nat}{cs:List Value}(h:CB w b cs)(hb:w'.heap[b]?=w.heap[b]?)(hz:w.heap.size<=w'.heap.size):CB w' b cs:=by
 refine⟨λj v hv=>?_,λj hj=>?_,A1 h.2.2 hz⟩
 ·rw[C2 (w:=w) (a:=⟨b,0+j,none⟩) hb];exact h.1 j v hv
 ·rw[C2 (w:=w) (a:=⟨b,0+j,none⟩) hb,World.frozen?_of_block (w:=w) (a:=⟨b,0+j,none⟩) hb];exact h.2.1 j hj
theorem Sl{X:Nat->Prop}{w:World}{τ:Nat->Question->Nat}{d b:Nat}{cs:List Value}(h:CB (E0 X w τ d) b cs)(hx:¬X b):CB w b cs:=by
 refine Jk (w:=E0 X w τ d) h ?_ (by rw[K5];exact A3 _);show w.heap[b]?=(pz X w).heap[b]?
 rw[Cz];cases w.heap[b]?<;>simp[BQ,hx]
noncomputable def Qc:Code:=match Gl with | .seq _ b=>b|_=>.skip
section
variable {P:Program} {main:Bool} {b:Frame} {a:Act} {k:List Item} {cs:List Frame} {w:World} {l:Nat}
theorem Aah(hb:b.roundOf=some l)(hk:b.kind=.normal){r:Loop}(h:w.heap[l]?=some (.loop r)){c:Frame}:
  ∃es,stepG P main (G (b.atR a (.code .ret::k)) (c::cs)) w=.go (G (c.finish (.bool false)) cs) (w.putObj l (.loop {r with state:=.done,pending:=some .ret})) es/\DB l es:=by
 have hrun:=run_endRound (P:=P) (some .ret) h;refine⟨seen P b.fn ((Instr.endRound l (some .ret)).events P w #[]),?_,Dd (FQ (RY _) w)⟩;simp at hrun;simp[G,stepG,stepG.exec,Frame.atR,hb,hk,hrun,GStep.after,doReturn]
theorem Wn{r:Loop}(h:w.heap[l]?=some (.loop r))(hr:r.state≠.busy){j:Code}(hp:r.pending=some j):
  ∃es,stepG P main (G (b.at a (.endRangeFunc l::k)) cs) w=.go (G (b.at a (.code j::k)) cs) (w.putObj l (.loop {r with state:=.exhausted})) es/\DB l es:=by
 have hrun:=run_endLoop (P:=P) h hr;refine⟨seen P b.fn ((Instr.endLoop l).events P w #[]),?_,Dd (FQ PQ w)⟩;simp[G,stepG,stepG.exec,Frame.at,hrun,hp,GStep.after]
end
section
variable {X:Nat->Prop} {Shun:Loc->Prop} {c:Frame} {cs:List Frame}
theorem AdS(hX:AH Shun X){V:World}{T TO:Array Value}{tb bx l dl n g:Nat}{a2 ag:Option Addr}{c2 cg:Nat}(hg:g≠n)(hT:T.size=33)(hTO:TO.size=18)(t0:T[0]?=some (.func (.yield l) #[] #[]))(t3:T[3]?=some (.pointer (some ⟨tb,0,none⟩)))(t4:T[4]?=some (.slice ag g cg))
  (o1:TO[1]?=some (.pointer (some ⟨bx,0,none⟩))) (hl:V.heap[l]?=some (.loop (Y2 TO dl))) (hc1:V.cell? ⟨bx,1,none⟩=some (.slice a2 n c2)) (hx:¬X bx) :
  Go.Conc.Goes Tryz.prog true AtRel (DE (EvL Shun V.heap.size)) (λg' w'=>(∃T',g'=G (bF.at ⟨T',[]⟩ [.code Qc,.inLoop Gl,.inBlock 0]) (c::cs)/\T'.size=33/\T'[0]?=some (.func (.yield l) #[] #[])/\T'[3]?=some (.pointer (some ⟨tb,0,none⟩))/\T'[4]?=some (.slice ag g cg))/\AtRel V w') 60 (G (bF.at ⟨T,[]⟩ [.code Gl,.inLoop Gl,.inBlock 0]) (c::cs)) V:=by
 have hll:l<V.heap.size:=(C9.1 hl).1;have hbl:bx≠l:=λe=>by subst e;simp[World.cell?,hl] at hc1
 have hlt:=World.block_lt_of_cell? V _ hc1;have hns:¬Shun (.cell ⟨bx,1,none⟩):=λh=>by obtain⟨a,e,ha⟩:=hX _ h;cases e;exact hx ha
 have hq:((g:Int)==(n:Int))=false:=by rw[beq_eq_false_iff_ne];omega
 obtain⟨v0,v1,v2,v3,v4,v5,v6,v7,v8,v9,v10,v11,v12,v13,v14,v15,v16,v17,v18,v19,v20,v21,v22,v23,v24,v25,v26,v27,v28,v29,v30,v31,v32,rfl⟩:=Mz T hT;obtain⟨u0,u1,u2,u3,u4,u5,u6,u7,u8,u9,u10,u11,u12,u13,u14,u15,u16,u17,rfl⟩:=JJ TO hTO;simp only[List.getElem?_toArray,List.getElem?_cons_succ,List.getElem?_cons_zero,Option.some.injEq] at t0 t3 t4 o1;subst t0 t3 t4 o1;simp only[Qc,Gl,LF,Dn,Tryz.f69,Option.getD_some];have rl:∀{V w w₁:World},AtRel V w->AtRel w w₁->AtRel V w₁:=λh r=>atRel_trans _ _ _ h r;have hF:AtRel V V:=atRel_refl V;u_c stepG_seq rl hF
 u_c stepG_seq rl hF
 u_reg rl hF
 u_op rl hF
 u_op rl hF
 u_in rl hF
 obtain⟨d,rfl⟩:=hF;refine CH (Lm (w:=V.at d) (l:=l) (vs:=#[.slice ag g cg]) rfl rfl rfl rfl rfl (by simp[Act.eval]) hl rfl) λes ho=>⟨λe he=>CG hX hll (ho e he),?_⟩;clear ho es;have hF:AtRel V (V.at d):=⟨d,rfl⟩;simp only[Y2,Wj,List.setIfInBounds_toArray,List.set_cons_zero,List.set_cons_succ];rw[PY];simp only[Wh,Wi,Eu,Bw,Tryz.f29,Option.getD_some];u_in rl hF;rw[Ee];simp only[goes_go,List.size_toArray,List.length_cons,List.length_nil,Nat.zero_add,List.range,List.range.loop];refine⟨by u_nil,?_⟩
 u_in rl hF;refine S1 rfl rfl (by intro h;cases h) (by intro c h;cases h) (λK hK=>?_);go_simp;refine hK _ _ ⟨(λe he=>by have hm:=mem_listed he;simp[go_sem, *] at hm),?_⟩;clear hK K;(try walk_nrm)
 u_c Co rl hF
 u_in rl hF
 obtain⟨d2,rfl⟩:=hF;refine CH (NA (w:=V.at d2) (l:=l) rfl rfl hl rfl) λes ho=>⟨λe he=>CG hX hll (ho e he),?_⟩;clear ho es;have hh2:(V.putObj l (.loop {Y2 #[u0,.pointer (some ⟨bx,0,none⟩),u2,u3,u4,u5,u6,u7,u8,u9,u10,u11,u12,u13,u14,u15,u16,u17] dl with state:=.busy})).heap[l]?=some (.loop {Y2 #[u0,.pointer (some ⟨bx,0,none⟩),u2,u3,u4,u5,u6,u7,u8,u9,u10,u11,u12,u13,u14,u15,u16,u17] dl with state:=.busy}):=World.putObj_heap_same hll;have hback:=XY (V:=V) (l:=l) (o':=.loop {Y2 #[u0,.pointer (some ⟨bx,0,none⟩),u2,u3,u4,u5,u6,u7,u8,u9,u10,u11,u12,u13,u14,u15,u16,u17] dl with state:=.busy}) hl;have hc2:(V.putObj l (.loop {Y2 #[u0,.pointer (some ⟨bx,0,none⟩),u2,u3,u4,u5,u6,u7,u8,u9,u10,u11,u12,u13,u14,u15,u16,u17] dl with state:=.busy})).cell? ⟨bx,1,none⟩=some (.slice a2 n c2):=(PX hbl).trans hc1;have hF:AtRel (V.putObj l (.loop {Y2 #[u0,.pointer (some ⟨bx,0,none⟩),u2,u3,u4,u5,u6,u7,u8,u9,u10,u11,u12,u13,u14,u15,u16,u17] dl with state:=.busy})) ((V.at d2).putObj l (.loop {Y2 #[u0,.pointer (some ⟨bx,0,none⟩),u2,u3,u4,u5,u6,u7,u8,u9,u10,u11,u12,u13,u14,u15,u16,u17] dl with state:=.busy})):=⟨d2,rfl⟩;u_c Ny rl hF
 u_c Mv rl hF
 u_in rl hF;rw[Ee];simp only[goes_go,List.size_toArray,List.length_cons,List.length_nil,Nat.reduceAdd,Nat.zero_add,List.range,List.range.loop];refine⟨by u_nil,?_⟩
 u_in rl hF;refine S1 rfl rfl (by intro h;cases h) (by intro c h;cases h) (λK hK=>?_);go_simp;refine hK _ _ ⟨(λe he=>by have hm:=mem_listed he;simp[go_sem, *] at hm),?_⟩;clear hK K;(try walk_nrm)
 u_in rl hF;refine S1 rfl rfl (by intro h;cases h) (by intro c h;cases h) (λK hK=>?_);go_simp;refine hK _ _ ⟨(λe he=>by have hm:=mem_listed he;simp[go_sem,Builtin.len_, *] at hm),?_⟩;clear hK K;(try walk_nrm)
 u_in rl hF;refine S1 rfl rfl (by intro h;cases h) (by intro c h;cases h) (λK hK=>?_);go_simp;refine hK _ _ ⟨(λe he=>by have hm:=mem_listed he;simp[go_sem, *] at hm),?_⟩;clear hK K;(try walk_nrm)
 u_in rl hF
 refine S1 rfl rfl (by intro h;cases h) (by intro c h;cases h) (λK hK=>?_);have hc':(‹World›).cell? ⟨bx,1,none⟩=some (.slice a2 n c2):=(by obtain⟨d,rfl⟩:=hF;exact hc2);go_simp;refine hK _ _ ⟨(λe he=>by have hm:=mem_listed he;simp[go_sem, *] at hm;subst hm;exact BG hlt hns),?_⟩;clear hK K hc';try walk_nrm
 u_in rl hF;refine S1 rfl rfl (by intro h;cases h) (by intro c h;cases h) (λK hK=>?_);go_simp;refine hK _ _ ⟨(λe he=>by have hm:=mem_listed he;simp[go_sem,Builtin.len_, *] at hm),?_⟩;clear hK K;(try walk_nrm)
 u_in rl hF;refine S1 rfl rfl (by intro h;cases h) (by intro c h;cases h) (λK hK=>?_);go_simp;refine hK _ _ ⟨(λe he=>by have hm:=mem_listed he;simp[go_sem, *] at hm),?_⟩;clear hK K;(try walk_nrm)
 u_c Co rl hF
 u_in rl hF
 rw[PR (t:=false) (by simp[Act.eval])];simp only[goes_go,Bool.false_eq_true,↓reduceIte];refine⟨by u_nil,?_⟩;u_c XO rl hF
 u_c Rh rl hF
 u_in rl hF
 obtain⟨d3,rfl⟩:=hF;refine CH (ZZ (l:=l) rfl rfl (w:=World.at (V.putObj l _) d3) hh2) λes ho=>⟨λe he=>CG hX hll (ho e he),?_⟩;clear ho es;refine TS (congrArg (λW=>World.at W d3) hback) ?_;clear hback hh2 hc2;have hF:AtRel V (V.at d3):=⟨d3,rfl⟩;rw[Frame.finish_at];walk_nrm
 u_c stepG_region_end rl hF
 u_cond true rl hF
 u_c stepG_skip rl hF
 exact Go.Conc.Goes.stop λw₁ r=>⟨⟨_,rfl,rfl,rfl,rfl,rfl⟩,rl hF r⟩
noncomputable def V9(V:World)(TO:Array Value)(l dl p2 p3:Nat)(u:Value):World :=
 ((((( V.putObj l (.loop {Y2 TO dl with state:=.busy})).setCell ⟨p2,0,none⟩ u).setCell ⟨p3,0,none⟩ (.bool true)).putObj l (.loop {Y2 TO dl with state:=.done,pending:=some .ret})).putObj l (.loop {Y2 TO dl with state:=.exhausted,pending:=some .ret})).putObj dl (.deferred none)
theorem full(hX:AH Shun X){V:World}{T TO:Array Value}{bx l dl n p2 p3:Nat}{a2 ag:Option Addr}{c2 cg:Nat}{x2 x3:Value}(hT:T.size=33)(hTO:TO.size=18)(t0:T[0]?=some (.func (.yield l) #[] #[]))(t4:T[4]?=some (.slice ag n cg))
  (o1:TO[1]?=some (.pointer (some ⟨bx,0,none⟩))) (o2:TO[2]?=some (.pointer (some ⟨p2,0,none⟩))) (o3:TO[3]?=some (.pointer (some ⟨p3,0,none⟩))) (hl:V.heap[l]?=some (.loop (Y2 TO dl))) (hdl:V.heap[dl]?=some (.deferred (some []))) (hc1:V.cell? ⟨bx,1,none⟩=some (.slice a2 n c2)) (hx:¬X bx) (k2:CB V p2 [x2]) (k3:CB V p3 [x3]) (hne:p2≠p3) (hx2:¬X p2) (hx3:¬X p3) :
  Go.Conc.Goes Tryz.prog true AtRel (DE (EvL Shun V.heap.size)) (λg' w'=>g'=G (c.finish (.tuple #[.slice ag n cg,.bool true])) cs/\AtRel (V9 V TO l dl p2 p3 (.slice ag n cg)) w') 80 (G (bF.at ⟨T,[]⟩ [.code Gl,.inLoop Gl,.inBlock 0]) (cO TO dl l::c::cs)) V:=by
 have hll:l<V.heap.size:=(C9.1 hl).1;have hdd:dl<V.heap.size:=(C9.1 hdl).1;have hbl:bx≠l:=λe=>by subst e;simp[World.cell?,hl] at hc1
 have hlt:=World.block_lt_of_cell? V _ hc1;have hns:¬Shun (.cell ⟨bx,1,none⟩):=λh=>by obtain⟨a,e,ha⟩:=hX _ h;cases e;exact hx ha
 have hns2:¬Shun (.cell ⟨p2,0,none⟩):=λh=>by obtain⟨a,e,ha⟩:=hX _ h;cases e;exact hx2 ha
 have hns3:¬Shun (.cell ⟨p3,0,none⟩):=λh=>by obtain⟨a,e,ha⟩:=hX _ h;cases e;exact hx3 ha
 have hq:((n:Int)==(n:Int))=true:=by simp
 have hl2:p2≠l:=λe=>by have:=k2.1 0 _ rfl;subst e;simp[World.cell?,hl] at this
 have hl3:p3≠l:=λe=>by have:=k3.1 0 _ rfl;subst e;simp[World.cell?,hl] at this
 have hd2:p2≠dl:=λe=>by have:=k2.1 0 _ rfl;subst e;simp[World.cell?,hdl] at this
 have hd3:p3≠dl:=λe=>by have:=k3.1 0 _ rfl;subst e;simp[World.cell?,hdl] at this
 have hld:dl≠l:=λe=>by subst e;rw[hl] at hdl;cases hdl
 have hp2:=k2.2.2;have hp3:=k3.2.2;obtain⟨v0,v1,v2,v3,v4,v5,v6,v7,v8,v9,v10,v11,v12,v13,v14,v15,v16,v17,v18,v19,v20,v21,v22,v23,v24,v25,v26,v27,v28,v29,v30,v31,v32,rfl⟩:=Mz T hT;obtain⟨u0,u1,u2,u3,u4,u5,u6,u7,u8,u9,u10,u11,u12,u13,u14,u15,u16,u17,rfl⟩:=JJ TO hTO;simp only[List.getElem?_toArray,List.getElem?_cons_succ,List.getElem?_cons_zero,Option.some.injEq] at t0 t4 o1 o2 o3;subst t0 t4 o1 o2 o3;simp only[Gl,LF,Dn,Tryz.f69,Option.getD_some];have rl:∀{V w w₁:World},AtRel V w->AtRel w w₁->AtRel V w₁:=λh r=>atRel_trans _ _ _ h r;have hF:AtRel V V:=atRel_refl V;u_c stepG_seq rl hF
 u_c stepG_seq rl hF
 u_reg rl hF
 u_op rl hF
 u_op rl hF
 u_in rl hF
 obtain⟨d,rfl⟩:=hF;refine CH (Lm (w:=V.at d) (l:=l) (vs:=#[.slice ag n cg]) rfl rfl rfl rfl rfl (by simp[Act.eval]) hl rfl) λes ho=>⟨λe he=>CG hX hll (ho e he),?_⟩;clear ho es;have hF:AtRel V (V.at d):=⟨d,rfl⟩;simp only[Y2,Wj,List.setIfInBounds_toArray,List.set_cons_zero,List.set_cons_succ];rw[PY];simp only[Wh,Wi,Eu,Bw,Tryz.f29,Option.getD_some];u_in rl hF;rw[Ee];simp only[goes_go,List.size_toArray,List.length_cons,List.length_nil,Nat.zero_add,List.range,List.range.loop];refine⟨by u_nil,?_⟩
 u_in rl hF;refine S1 rfl rfl (by intro h;cases h) (by intro c h;cases h) (λK hK=>?_);go_simp;refine hK _ _ ⟨(λe he=>by have hm:=mem_listed he;simp[go_sem, *] at hm),?_⟩;clear hK K;(try walk_nrm)
 u_c Co rl hF
 u_in rl hF
 obtain⟨d2,rfl⟩:=hF;refine CH (NA (w:=V.at d2) (l:=l) rfl rfl hl rfl) λes ho=>⟨λe he=>CG hX hll (ho e he),?_⟩;clear ho es;have hV9:V9 V #[u0,.pointer (some ⟨bx,0,none⟩),.pointer (some ⟨p2,0,none⟩),.pointer (some ⟨p3,0,none⟩),u4,u5,u6,u7,u8,u9,u10,u11,u12,u13,u14,u15,u16,u17] l dl p2 p3 (.slice ag n cg)=((((( V.putObj l (.loop {Y2 #[u0,.pointer (some ⟨bx,0,none⟩),.pointer (some ⟨p2,0,none⟩),.pointer (some ⟨p3,0,none⟩),u4,u5,u6,u7,u8,u9,u10,u11,u12,u13,u14,u15,u16,u17] dl with state:=.busy})).setCell ⟨p2,0,none⟩ (.slice ag n cg)).setCell ⟨p3,0,none⟩ (.bool true)).putObj l (.loop {Y2 #[u0,.pointer (some ⟨bx,0,none⟩),.pointer (some ⟨p2,0,none⟩),.pointer (some ⟨p3,0,none⟩),u4,u5,u6,u7,u8,u9,u10,u11,u12,u13,u14,u15,u16,u17] dl with state:=.done,pending:=some .ret})).putObj l (.loop {Y2 #[u0,.pointer (some ⟨bx,0,none⟩),.pointer (some ⟨p2,0,none⟩),.pointer (some ⟨p3,0,none⟩),u4,u5,u6,u7,u8,u9,u10,u11,u12,u13,u14,u15,u16,u17] dl with state:=.exhausted,pending:=some .ret})).putObj dl (.deferred none):=rfl;rw[hV9];clear hV9;have hh2:(V.putObj l (.loop {Y2 #[u0,.pointer (some ⟨bx,0,none⟩),.pointer (some ⟨p2,0,none⟩),.pointer (some ⟨p3,0,none⟩),u4,u5,u6,u7,u8,u9,u10,u11,u12,u13,u14,u15,u16,u17] dl with state:=.busy})).heap[l]?=some (.loop {Y2 #[u0,.pointer (some ⟨bx,0,none⟩),.pointer (some ⟨p2,0,none⟩),.pointer (some ⟨p3,0,none⟩),u4,u5,u6,u7,u8,u9,u10,u11,u12,u13,u14,u15,u16,u17] dl with state:=.busy}):=World.putObj_heap_same hll;have hc2:(V.putObj l (.loop {Y2 #[u0,.pointer (some ⟨bx,0,none⟩),.pointer (some ⟨p2,0,none⟩),.pointer (some ⟨p3,0,none⟩),u4,u5,u6,u7,u8,u9,u10,u11,u12,u13,u14,u15,u16,u17] dl with state:=.busy})).cell? ⟨bx,1,none⟩=some (.slice a2 n c2):=(PX hbl).trans hc1;have hdl6:(V.putObj l (.loop {Y2 #[u0,.pointer (some ⟨bx,0,none⟩),.pointer (some ⟨p2,0,none⟩),.pointer (some ⟨p3,0,none⟩),u4,u5,u6,u7,u8,u9,u10,u11,u12,u13,u14,u15,u16,u17] dl with state:=.busy})).heap[dl]?=some (.deferred (some [])):=(World.putObj_heap_other hld).trans hdl;have hs6:(V.putObj l (.loop {Y2 #[u0,.pointer (some ⟨bx,0,none⟩),.pointer (some ⟨p2,0,none⟩),.pointer (some ⟨p3,0,none⟩),u4,u5,u6,u7,u8,u9,u10,u11,u12,u13,u14,u15,u16,u17] dl with state:=.busy})).heap.size=V.heap.size:=World.putObj_size ..;have hgr:=Do V l (.loop {Y2 #[u0,.pointer (some ⟨bx,0,none⟩),.pointer (some ⟨p2,0,none⟩),.pointer (some ⟨p3,0,none⟩),u4,u5,u6,u7,u8,u9,u10,u11,u12,u13,u14,u15,u16,u17] dl with state:=.busy});have k2:=k2.kept hgr (by simp;exact hl2);have k3:=k3.kept hgr (by simp;exact hl3);change Go.Conc.Goes _ _ _ _ _ _ _ (World.at (V.putObj l (.loop {Y2 #[u0,.pointer (some ⟨bx,0,none⟩),.pointer (some ⟨p2,0,none⟩),.pointer (some ⟨p3,0,none⟩),u4,u5,u6,u7,u8,u9,u10,u11,u12,u13,u14,u15,u16,u17] dl with state:=.busy})) d2)
 generalize V.putObj l (.loop {Y2 #[u0,.pointer (some ⟨bx,0,none⟩),.pointer (some ⟨p2,0,none⟩),.pointer (some ⟨p3,0,none⟩),u4,u5,u6,u7,u8,u9,u10,u11,u12,u13,u14,u15,u16,u17] dl with state:=.busy})=W6 at *;have hF:AtRel W6 (W6.at d2):=⟨d2,rfl⟩;clear hgr hl hdl hc1;u_c Ny rl hF
 u_c Mv rl hF
 u_in rl hF;rw[Ee];simp only[goes_go,List.size_toArray,List.length_cons,List.length_nil,Nat.reduceAdd,Nat.zero_add,List.range,List.range.loop];refine⟨by u_nil,?_⟩
 u_in rl hF;refine S1 rfl rfl (by intro h;cases h) (by intro c h;cases h) (λK hK=>?_);go_simp;refine hK _ _ ⟨(λe he=>by have hm:=mem_listed he;simp[go_sem, *] at hm),?_⟩;clear hK K;(try walk_nrm)
 u_in rl hF;refine S1 rfl rfl (by intro h;cases h) (by intro c h;cases h) (λK hK=>?_);go_simp;refine hK _ _ ⟨(λe he=>by have hm:=mem_listed he;simp[go_sem,Builtin.len_, *] at hm),?_⟩;clear hK K;(try walk_nrm)
 u_in rl hF;refine S1 rfl rfl (by intro h;cases h) (by intro c h;cases h) (λK hK=>?_);go_simp;refine hK _ _ ⟨(λe he=>by have hm:=mem_listed he;simp[go_sem, *] at hm),?_⟩;clear hK K;(try walk_nrm)
 u_in rl hF
 refine S1 rfl rfl (by intro h;cases h) (by intro c h;cases h) (λK hK=>?_);have hc':(‹World›).cell? ⟨bx,1,none⟩=some (.slice a2 n c2):=(by obtain⟨d,rfl⟩:=hF;exact hc2);go_simp;refine hK _ _ ⟨(λe he=>by have hm:=mem_listed he;simp[go_sem, *] at hm;subst hm;exact BG hlt hns),?_⟩;clear hK K hc';try walk_nrm
 u_in rl hF;refine S1 rfl rfl (by intro h;cases h) (by intro c h;cases h) (λK hK=>?_);go_simp;refine hK _ _ ⟨(λe he=>by have hm:=mem_listed he;simp[go_sem,Builtin.len_, *] at hm),?_⟩;clear hK K;(try walk_nrm)
 u_in rl hF;refine S1 rfl rfl (by intro h;cases h) (by intro c h;cases h) (λK hK=>?_);go_simp;refine hK _ _ ⟨(λe he=>by have hm:=mem_listed he;simp[go_sem, *] at hm),?_⟩;clear hK K;(try walk_nrm)
 u_c Co rl hF
 u_in rl hF
 rw[PR (t:=true) (by simp[Act.eval])];simp only[goes_go,↓reduceIte];refine⟨by u_nil,?_⟩;have c2:=k2.1 0 _ rfl;have f2:=(k2.2.1 0 (by simp)).2;have k3':=k3.other (q:=p2) (j:=0) (u:=.slice ag n cg) (λe=>hne e.symm);have c3:=k3'.1 0 _ rfl;have f3:=(k3'.2.1 0 (by simp)).2;u_c Mv rl hF
 u_in rl hF;rw[Ee];simp only[goes_go,List.size_toArray,List.length_cons,List.length_nil,Nat.reduceAdd,Nat.zero_add,List.range,List.range.loop];refine⟨by u_nil,?_⟩
 u_in rl hF;refine S1 rfl rfl (by intro h;cases h) (by intro c h;cases h) (λK hK=>?_);go_simp;refine hK _ _ ⟨(λe he=>by have hm:=mem_listed he;simp[go_sem, *] at hm),?_⟩;clear hK K;(try walk_nrm)
 u_in rl hF
 obtain⟨d4,rfl⟩:=hF;refine S1 rfl rfl (by intro h;cases h) (by intro c h;cases h) (λK hK=>?_);have hc:(W6.at d4).cell? ⟨p2,0,none⟩=some x2:=c2;have hf:(W6.at d4).frozen? ⟨p2,0,none⟩=false:=f2;go_simp;refine hK _ _ ⟨(λe he=>by have hm:=mem_listed he;simp[go_sem,Lx, *] at hm;subst hm;exact Ij hp2 hns2),?_⟩;clear hK K hc hf;have hF:AtRel (W6.setCell ⟨p2,0,none⟩ (.slice ag n cg)) ((W6.at d4).setCell ⟨p2,0,none⟩ (.slice ag n cg)):=⟨d4,rfl⟩;try walk_nrm
 u_in rl hF
 obtain⟨d5,rfl⟩:=hF;refine S1 rfl rfl (by intro h;cases h) (by intro c h;cases h) (λK hK=>?_);have hc:(World.at (W6.setCell ⟨p2,0,none⟩ (.slice ag n cg)) d5).cell? ⟨p3,0,none⟩=some x3:=c3;have hf:(World.at (W6.setCell ⟨p2,0,none⟩ (.slice ag n cg)) d5).frozen? ⟨p3,0,none⟩=false:=f3;go_simp;refine hK _ _ ⟨(λe he=>by have hm:=mem_listed he;simp[go_sem,Ly, *] at hm;subst hm;exact Ij hp3 hns3),?_⟩;clear hK K hc hf;have hF:AtRel ((W6.setCell ⟨p2,0,none⟩ (.slice ag n cg)).setCell ⟨p3,0,none⟩ (.bool true)) ((World.at (W6.setCell ⟨p2,0,none⟩ (.slice ag n cg)) d5).setCell ⟨p3,0,none⟩ (.bool true)):=⟨d5,rfl⟩;have k2':=(k2.set (j:=0) (u:=.slice ag n cg) (by simp)).other (q:=p3) (j:=0) (u:=.bool true) hne;have k3'':=k3'.set (j:=0) (u:=.bool true) (by simp);have hdl7:((W6.setCell ⟨p2,0,none⟩ (.slice ag n cg)).setCell ⟨p3,0,none⟩ (.bool true)).heap[dl]?=some (.deferred (some [])):=((aside_setCell _ _ _).block dl λe=>hd3 e.symm).trans (((aside_setCell _ _ _).block dl λe=>hd2 e.symm).trans hdl6);have hl7:((W6.setCell ⟨p2,0,none⟩ (.slice ag n cg)).setCell ⟨p3,0,none⟩ (.bool true)).heap[l]?=_:=((aside_setCell _ _ _).block l λe=>hl3 e.symm).trans (((aside_setCell _ _ _).block l λe=>hl2 e.symm).trans hh2);have hsz7:((W6.setCell ⟨p2,0,none⟩ (.slice ag n cg)).setCell ⟨p3,0,none⟩ (.bool true)).heap.size=V.heap.size:=by rw[(aside_setCell _ _ _).size,(aside_setCell _ _ _).size];exact hs6
 generalize (W6.setCell ⟨p2,0,none⟩ (.slice ag n cg)).setCell ⟨p3,0,none⟩ (.bool true)=W7 at *;clear k2 k3 k3' c2 c3 f2 f3 hdl6 hh2 hc2;try walk_nrm
 u_c Co rl hF
 u_in rl hF
 obtain⟨d6,rfl⟩:=hF;refine CH (Aah (l:=l) rfl rfl (w:=W7.at d6) hl7) λes ho=>⟨λe he=>CG hX hll (ho e he),?_⟩;clear ho es;have hll7:l<W7.heap.size:=by rw[hsz7];exact hll
 have hg:=Do W7 l (.loop {Y2 #[u0,.pointer (some ⟨bx,0,none⟩),.pointer (some ⟨p2,0,none⟩),.pointer (some ⟨p3,0,none⟩),u4,u5,u6,u7,u8,u9,u10,u11,u12,u13,u14,u15,u16,u17] dl with state:=.done,pending:=some .ret});have k2:=k2'.kept hg (by simp;exact hl2);have k3:=k3''.kept hg (by simp;exact hl3);have hl8:(W7.putObj l (.loop {Y2 #[u0,.pointer (some ⟨bx,0,none⟩),.pointer (some ⟨p2,0,none⟩),.pointer (some ⟨p3,0,none⟩),u4,u5,u6,u7,u8,u9,u10,u11,u12,u13,u14,u15,u16,u17] dl with state:=.done,pending:=some .ret})).heap[l]?=some (.loop {Y2 #[u0,.pointer (some ⟨bx,0,none⟩),.pointer (some ⟨p2,0,none⟩),.pointer (some ⟨p3,0,none⟩),u4,u5,u6,u7,u8,u9,u10,u11,u12,u13,u14,u15,u16,u17] dl with state:=.done,pending:=some .ret}):=World.putObj_heap_same hll7;have hdl8:(W7.putObj l (.loop {Y2 #[u0,.pointer (some ⟨bx,0,none⟩),.pointer (some ⟨p2,0,none⟩),.pointer (some ⟨p3,0,none⟩),u4,u5,u6,u7,u8,u9,u10,u11,u12,u13,u14,u15,u16,u17] dl with state:=.done,pending:=some .ret})).heap[dl]?=some (.deferred (some [])):=(World.putObj_heap_other hld).trans hdl7;change Go.Conc.Goes _ _ _ _ _ _ _ (World.at (W7.putObj l (.loop {Y2 #[u0,.pointer (some ⟨bx,0,none⟩),.pointer (some ⟨p2,0,none⟩),.pointer (some ⟨p3,0,none⟩),u4,u5,u6,u7,u8,u9,u10,u11,u12,u13,u14,u15,u16,u17] dl with state:=.done,pending:=some .ret})) d6)
 generalize W7.putObj l (.loop {Y2 #[u0,.pointer (some ⟨bx,0,none⟩),.pointer (some ⟨p2,0,none⟩),.pointer (some ⟨p3,0,none⟩),u4,u5,u6,u7,u8,u9,u10,u11,u12,u13,u14,u15,u16,u17] dl with state:=.done,pending:=some .ret})=W8 at *;clear hg k2' k3'' hdl7 hl7;have hF:AtRel W8 (W8.at d6):=⟨d6,rfl⟩;rw[Frame.finish_at];walk_nrm
 u_c stepG_region_end rl hF
 u_cond false rl hF
 u_in rl hF
 rw[stepG_exit (k':=[]) rfl];simp only[goes_go];refine⟨by u_nil,?_⟩;u_c stepG_end rl hF
 u_in rl hF
 rw[stepG_leave (b:=bF) rfl rfl Tryz.func69 (results_none rfl _ _ _) (events_results_none rfl _ _),NG];simp only[goes_go];refine⟨by u_nil,?_⟩;u_in rl hF
 obtain⟨d7,rfl⟩:=hF;refine CH (Wn (w:=W8.at d7) (l:=l) hl8 (by simp) rfl) λes ho=>⟨λe he=>CG hX hll (ho e he),?_⟩;clear ho es;have hg:=Do W8 l (.loop {Y2 #[u0,.pointer (some ⟨bx,0,none⟩),.pointer (some ⟨p2,0,none⟩),.pointer (some ⟨p3,0,none⟩),u4,u5,u6,u7,u8,u9,u10,u11,u12,u13,u14,u15,u16,u17] dl with state:=.exhausted,pending:=some .ret});have k2:=k2.kept hg (by simp;exact hl2);have k3:=k3.kept hg (by simp;exact hl3);have hdl9:(W8.putObj l (.loop {Y2 #[u0,.pointer (some ⟨bx,0,none⟩),.pointer (some ⟨p2,0,none⟩),.pointer (some ⟨p3,0,none⟩),u4,u5,u6,u7,u8,u9,u10,u11,u12,u13,u14,u15,u16,u17] dl with state:=.exhausted,pending:=some .ret})).heap[dl]?=some (.deferred (some [])):=(World.putObj_heap_other hld).trans hdl8;change Go.Conc.Goes _ _ _ _ _ _ _ (World.at (W8.putObj l (.loop {Y2 #[u0,.pointer (some ⟨bx,0,none⟩),.pointer (some ⟨p2,0,none⟩),.pointer (some ⟨p3,0,none⟩),u4,u5,u6,u7,u8,u9,u10,u11,u12,u13,u14,u15,u16,u17] dl with state:=.exhausted,pending:=some .ret})) d7)
 generalize W8.putObj l (.loop {Y2 #[u0,.pointer (some ⟨bx,0,none⟩),.pointer (some ⟨p2,0,none⟩),.pointer (some ⟨p3,0,none⟩),u4,u5,u6,u7,u8,u9,u10,u11,u12,u13,u14,u15,u16,u17] dl with state:=.exhausted,pending:=some .ret})=W9 at *;clear hg hl8 hdl8;have hF:AtRel W9 (W9.at d7):=⟨d7,rfl⟩;u_c stepG_ret' rl hF
 u_in rl hF
 obtain⟨d8,rfl⟩:=hF;refine CH (Ll (w:=W9.at d8) (l:=dl) hdl9 rfl) λes ho=>⟨λe he=>CG hX hdd (ho e he),?_⟩;clear ho es;have hF:AtRel (W9.putObj dl (.deferred none)) ((W9.at d8).putObj dl (.deferred none)):=⟨d8,rfl⟩;have hg:=Do W9 dl (.deferred none);have k2:=k2.kept hg (by simp;exact hd2);have k3:=k3.kept hg (by simp;exact hd3);have c2:=k2.1 0 _ rfl;have c3:=k3.1 0 _ rfl;u_in rl hF
 obtain⟨d9,rfl⟩:=hF;have c2':(World.at (W9.putObj dl (.deferred none)) d9).cell? ⟨p2,0,none⟩=some (.slice ag n cg):=c2;have c3':(World.at (W9.putObj dl (.deferred none)) d9).cell? ⟨p3,0,none⟩=some (.bool true):=c3;refine PZ (Kf (b:=bO) (w:=World.at (W9.putObj dl (.deferred none)) d9) (r:=⟨p2,0,none⟩) (r2:=⟨p3,0,none⟩) (x:=.slice ag n cg) (y:=.bool true) rfl rfl Tryz.func29 Tryz.results29 rfl rfl (by simp[loadVar,isAgg,go_sem,c2']) (λes=>by simp[loadVar,isAgg,go_sem,c2'];rfl) (by simp[loadVar,isAgg,go_sem,c3']) (λes=>by simp[loadVar,isAgg,go_sem,c3'];rfl)) λes ho=>⟨λe he=>?_,?_⟩
 ·rcases ho e he with rfl|rfl
  ·exact BG hp2 hns2
  ·exact BG hp3 hns3
 exact Go.Conc.Goes.stop λw₁ r=>⟨rfl,rl (V:=W9.putObj dl (.deferred none)) ⟨d9,rfl⟩ r⟩
end
end Go.Proofs.YtmfjakieahkacaaGreatDoor
namespace Go.Proofs.YtmfjakieahkacaaGreatDoor
open Go.RowKit
def Ab2(b:Bk)(y:Value)(lo:Nat)(R:World->Prop)(a:Act)(u:World):Prop :=
 ∃T tb,a=⟨T,[]⟩/\T.size=33/\T[0]?=some y/\T[3]?=some (.pointer (some ⟨tb,0,none⟩))/\T[4]?=some (.slice none 0 0)/\AK u tb b.tg (V6 b.bs b.bs.length)/\lo<=tb/\R u
theorem Aai(b:Bk)(y:Value)(lo:Nat)(a:Act):P4 (Ab2 b y lo (λ_=>True) a):=λ_ _ _ h=>h
theorem Ab3(b:Bk)(y:Value)(a1 a2:Option Addr)(c1 c2 q:Nat)(w:World)(kQ:CB w q [.slice a1 b.tg.length c1,.slice a2 b.bs.length c2])(h:K0 w (.agg #[.slice a1 b.tg.length c1,.slice a2 b.bs.length c2]) b)(hok:J0 b){lo:Nat}(hlo:lo<=w.heap.size){R:World->Prop}(HR:Hid (∀u,Below w.heap.size w u->R u)):
  Bb Tryz.prog [Sf,Sg] (λe a u=>e=.normal/\Ab2 b y lo R a u) ⟨YI y (.pointer (some ⟨q,0,none⟩)),[]⟩ w:=by
 simp only[Sf,Sg,YI,Dn,Tryz.f69,Option.getD_some];obtain⟨e0,e1⟩:=kQ.c2';have Hok:Hid (J0 b):=hok;clear hok;apply Y1;intro K hK
 go_wp2_with fail;refine (Gv b _ _ h Hok.out).mono ?_;rintro e w2 ⟨⟨tb,rfl,hT,htb⟩,hb2⟩;clear e0 e1;go_wp2_with fail;try clear hK
 try clear K
 apply Y1;intro K hK
 go_wp2_with fail;exact⟨rfl,_,tb,rfl,rfl,rfl,rfl,rfl,hT,by omega,HR.out _ hb2⟩
theorem Aaj(b:Bk)(tb:Nat)(ts:List Tr)(gone:List ByteArray)(ag:Option Addr)(cg:Nat)(v0 v1 v2 v5 v6 v7 v8 v9 v10 v11 v12 v13 v14 v15 v16 v17 v18 v19 v20 v21 v22 v23 v24 v25 v26 v27 v28 v29 v30 v31 v32:Value)(w:World)(hT:AK w tb b.tg ts)(hok:J0 b)(hfst:ts.map (·.1)=b.bs)(hG:Cl ts gone)(hnx:Y6 b.bs gone (-1)){R:Value->World->Prop}(HR:Hid (∀v u,Below w.heap.size w u->R v u)):
  Qc.wp Tryz.prog (ET Tryz.prog Tryz.f69 R) ⟨#[v0,v1,v2,.pointer (some ⟨tb,0,none⟩),.slice ag gone.length cg,v5,v6,v7,v8,v9,v10,v11,v12,v13,v14,v15,v16,v17,v18,v19,v20,v21,v22,v23,v24,v25,v26,v27,v28,v29,v30,v31,v32],[]⟩ w:=by
 simp only[Qc,Gl,LF,Dn];generalize hfn:ET Tryz.prog Tryz.f69 R=QQ
 have hQQ:∀a u,a.defers=[]->Below w.heap.size w u->QQ .ret a u:=λa u hd hb=>by
  subst hfn;exact Ft (results_none rfl _ _ _) hd (HR.out _ _ hb)
 have HQ:Hid (∀a u,a.defers=[]->Below w.heap.size w u->QQ .ret a u):=hQQ;clear hQQ hfn;simp only[Tryz.f69,Option.getD_some];have Hnx:Hid (Y6 b.bs gone (-1)):=hnx;clear hnx;go_wp2_with fail;refine (Nj tb b ts gone _ hT hok hfst hG).mono ?_;rintro e w2 ⟨⟨k,rfl,hn⟩|⟨rfl,-⟩,hb2⟩
 ·exfalso
  have:=Hnx.out.uniq hn;omega
 go_wp2_with fail
 (try simp only[Exit.inBlock,Exit.then])
 exact HQ.out _ _ rfl hb2
def AtB(b:Bk)(v0:Value)(tb lo:Nat)(gone:List ByteArray)(x:Ba)(ts:List Tr)(w:World)(a:Act)(u:World):Prop :=
 ∃T ag cg,a=⟨T,[]⟩/\T.size=33/\T[0]?=some v0/\T[3]?=some (.pointer (some ⟨tb,0,none⟩))/\T[4]?=some (.slice ag (gone.length+1) cg)/\E5 u (tb+1) (.slice ag (gone.length+1) cg) (gone++[x.nm])/\AK u tb b.tg ts/\Below lo w u
theorem Aak(b:Bk)(tb lo:Nat)(hlo:lo<=tb)(ts:List Tr)(gone:List ByteArray)(ag:Option Addr)(cg:Nat)(v0 v1 v2 v5 v6 v7 v8 v9 v10 v11 v12 v13 v14 v15 v16 v17 v18 v19 v20 v21 v22 v23 v24 v25 v26 v27 v28 v29 v30 v31 v32:Value)(w:World)(hT:AK w tb b.tg ts)(hown:E5 w (tb+1) (.slice ag gone.length cg) gone)(hok:J0 b)(hfst:ts.map (·.1)=b.bs)(hG:Cl ts gone)(hgl:gone.length<b.bs.length){k:Nat}(hnx:Y6 b.bs gone (k:Int)){p:Tr}(hpt:ts[k]?=some p)(hg0:p.2=false):
  Bb Tryz.prog [Qc] (λe a u=>e=.normal/\AtB b v0 tb lo gone p.1 (ts.set k (p.1,true)) w a u) ⟨#[v0,v1,v2,.pointer (some ⟨tb,0,none⟩),.slice ag gone.length cg,v5,v6,v7,v8,v9,v10,v11,v12,v13,v14,v15,v16,v17,v18,v19,v20,v21,v22,v23,v24,v25,v26,v27,v28,v29,v30,v31,v32],[]⟩ w:=by
 obtain⟨ii,hi,iz0,iz1,iz2⟩:=info_parts Z0;have hn5:=hok.2.1
 have hl5:ts.length<=5:=by
  have:=congrArg List.length hfst;simp at this;omega
 have hp2:(ts.set k (p.1,true))[k]?=some (p.1,true):=by rw[List.getElem?_set,if_pos rfl,if_pos (A2.1 hpt).1]
 have hl2:(ts.set k (p.1,true)).length<=5:=by rw[List.length_set];exact hl5
 have Hnx:Hid (Y6 b.bs gone (k:Int)):=hnx;have Hok:Hid (J0 b):=hok;have Hfst:Hid (ts.map (·.1)=b.bs):=hfst;have HG:Hid (Cl ts gone):=hG;clear hnx hok hfst hG;simp only[Qc,Gl,LF,Dn,Tryz.f69,Option.getD_some];apply Y1;intro K hK
 go_wp2_with fail;refine (Nj tb b ts gone _ hT Hok.out Hfst.out HG.out).mono ?_;rintro e w2 ⟨⟨k',rfl,hn⟩|⟨rfl,hn⟩,hb2⟩;rotate_left
 ·exfalso
  have:=Hnx.out.uniq hn;omega
 obtain rfl:k=k':=by have:=Hnx.out.uniq hn;omega
 have hT2:=hT.up hb2;have hown2:=P8 hown hb2;have hz2:=hb2.size;have htw:=hT.lt;have hB2:Below lo w w2:=hb2.mono (by omega);clear hb2 hT hown hn;go_wp2_with fail;refine (Nk tb k b.tg ts p b.bs _ hT2 Hok.out.1.1 hpt hg0 Hfst.out Hok.out.2.2.2.2.2 hl5).mono ?_;rintro e w3 ⟨⟨v7,rfl⟩,hT3,hb3,hO3⟩;have hown3:=hO3 _ _ _ hown2 (by omega);have hB3:=hB2.trans (hb3.mono (by omega));have hz3:=hb3.size;clear hO3 hb3 hT2 hown2 hB2 hpt hg0 hl5;generalize ts.set k (p.1,true)=ts2 at *;obtain⟨rv,kT,hrw⟩:=hT3;have hi2:=(A2.1 hp2).1;obtain⟨g,cap,rfl⟩:=T7 hrw (by omega);obtain⟨r0,-,-,-⟩:=DM hrw hp2;simp only at r0;obtain⟨t0,t1⟩:=kT.c2';have htl:=kT.2.2;generalize p.1=px at *;have hownA:=P8 hown3 ((A4 w3.heap.size w3).alloc (A3 _) (.cells #[.string px.nm] 9));have hrwA:=P8 hrw ((A4 w3.heap.size w3).alloc (A3 _) (.cells #[.string px.nm] 9));have kTA:=kT.up ((A4 w3.heap.size w3).alloc (A3 _) (.cells #[.string px.nm] 9)) htl;have hBA:=hB3.alloc (by omega) (.cells #[.string px.nm] 9);go_wp2_with (at_builtin;refine wpList_append_own _ rfl _ _ 23 rfl (tb+1) 9 ii _ 1 16 Tryz.underlying23 hi iz0 iz1 iz2 rfl (by decide) _ _ _ rfl hownA ⟨w3.heap.size,0,none⟩ 1 1 [.string px.nm] rfl rfl (Z1 _ _ _) (CJ _) (by unfold maxLen;omega) (by omega) (by simp;omega) ?_)
 intro v8 w8 hown8 hgr8 _;have hT8:AK w8 tb b.tg ts2:=⟨_,kTA.kept hgr8 (R3 hownA (by omega)),Pk hrwA hgr8 (MY hrwA hownA (by decide))⟩;have hB8:Below lo w w8:=⟨hgr8.os.trans hBA.os,hgr8.tape.trans hBA.tape,hgr8.output.trans hBA.output,B3 hBA.size hgr8.size,λi hi=>(hgr8.block i (by have:=hBA.size;omega) (R3 hownA (by omega))).trans (hBA.block i hi)⟩;have ho8:E5 w8 (tb+1) v8 (gone++[px.nm]):=by unfold E5;rw[A8,List.map_append];exact hown8
 obtain⟨a8,c8,rfl⟩:∃a c,v8=.slice a (gone.length+1) c:=by simpa using ho8.lst.shape
 clear hownA hrwA kTA hBA hown8 hgr8 hown3 hrw kT t0 t1 r0 hB3;go_wp2_with fail;exact⟨rfl,_,a8,c8,rfl,rfl,rfl,rfl,rfl,ho8,hT8,hB8⟩
end Go.Proofs.YtmfjakieahkacaaGreatDoor
namespace Go.Proofs.YtmfjakieahkacaaGreatDoor
open Go.Conc Go.ConcN Go.RowKit Go.Conc.Lib Go.ConcR.Gen Go.ConcN.Gen
open Go.ConcR (KK wgBlock WgAt stA smA rd wr mk Payload DC0)
section
variable {X:Nat->Prop} {Shun:Loc->Prop} {c:Frame} {cs:List Frame}
theorem AdT(hX:AH Shun X){V:World}{TO:Array Value}{l dl p2 p3:Nat}{x2 x3:Value}(hTO:TO.size=18)(o2:TO[2]?=some (.pointer (some ⟨p2,0,none⟩)))(o3:TO[3]?=some (.pointer (some ⟨p3,0,none⟩)))
  (hl:V.heap[l]?=some (.loop (Y2 TO dl))) (hdl:V.heap[dl]?=some (.deferred (some []))) (k2:CB V p2 [x2]) (k3:CB V p3 [x3]) (hne:p2≠p3) (hx2:¬X p2) (hx3:¬X p3) :
  Go.Conc.Goes Tryz.prog true AtRel (DE (EvL Shun V.heap.size)) (λg w'=>g=G (c.finish (.tuple #[.slice none 0 0,.bool false])) cs/\AtRel (V8 V TO l dl p2 p3) w') 60
   (G (bO.at ⟨TO,XZ dl⟩ (.endRangeFunc l::.inBlock 0::[.code Jj])) (c::cs)) V:=by
 have hll:l<V.heap.size:=(C9.1 hl).1;have hdd:dl<V.heap.size:=(C9.1 hdl).1;have hns2:¬Shun (.cell ⟨p2,0,none⟩):=λh=>by obtain⟨a,e,ha⟩:=hX _ h;cases e;exact hx2 ha
 have hns3:¬Shun (.cell ⟨p3,0,none⟩):=λh=>by obtain⟨a,e,ha⟩:=hX _ h;cases e;exact hx3 ha
 have rl:∀{V w w₁:World},AtRel V w->AtRel w w₁->AtRel V w₁:=λh r=>atRel_trans _ _ _ h r;have hF:AtRel V V:=atRel_refl V;u_in rl hF
 obtain⟨d,rfl⟩:=hF;refine CH (VS (w:=V.at d) (l:=l) hl (by simp[Y2]) rfl) λes ho=>⟨λe he=>CG hX hll (ho e he),?_⟩;clear ho es;have hl2:p2≠l:=λe=>by have:=k2.1 0 _ rfl;subst e;simp[World.cell?,hl] at this
 have hl3:p3≠l:=λe=>by have:=k3.1 0 _ rfl;subst e;simp[World.cell?,hl] at this
 have hd2:p2≠dl:=λe=>by have:=k2.1 0 _ rfl;subst e;simp[World.cell?,hdl] at this
 have hd3:p3≠dl:=λe=>by have:=k3.1 0 _ rfl;subst e;simp[World.cell?,hdl] at this
 have hld:dl≠l:=λe=>by subst e;rw[hl] at hdl;cases hdl
 have hp2:=k2.2.2;have hp3:=k3.2.2;have hg:=Do V l (.loop {Y2 TO dl with state:=.exhausted});have k2:=k2.kept hg (by simp;exact hl2);have k3:=k3.kept hg (by simp;exact hl3);have hdl6:(V.putObj l (.loop {Y2 TO dl with state:=.exhausted})).heap[dl]?=some (.deferred (some [])):=(World.putObj_heap_other hld).trans hdl;have hV8:V8 V TO l dl p2 p3=(((V.putObj l (.loop {Y2 TO dl with state:=.exhausted})).setCell ⟨p2,0,none⟩ (.slice none 0 0)).setCell ⟨p3,0,none⟩ (.bool false)).putObj dl (.deferred none):=rfl;rw[hV8];clear hV8;change Go.Conc.Goes _ _ _ _ _ _ _ (World.at (V.putObj l (.loop {Y2 TO dl with state:=.exhausted})) d)
 generalize V.putObj l (.loop {Y2 TO dl with state:=.exhausted})=W6 at *;have hF:AtRel W6 (W6.at d):=⟨d,rfl⟩;clear hg hl hdl;obtain⟨u0,u1,u2,u3,u4,u5,u6,u7,u8,u9,u10,u11,u12,u13,u14,u15,u16,u17,rfl⟩:=JJ TO hTO;simp only[List.getElem?_toArray,List.getElem?_cons_succ,List.getElem?_cons_zero,Option.some.injEq] at o2 o3;subst o2 o3;have c2:=k2.1 0 _ rfl;have f2:=(k2.2.1 0 (by simp)).2;have k3':=k3.other (q:=p2) (j:=0) (u:=.slice none 0 0) (λe=>hne e.symm);have c3:=k3'.1 0 _ rfl;have f3:=(k3'.2.1 0 (by simp)).2;simp only[Jj,Bw,Tryz.f29,Option.getD_some];u_c stepG_inBlock rl hF
 u_c stepG_seq rl hF
 u_reg rl hF
 u_in rl hF
 obtain⟨d1,rfl⟩:=hF;refine goes_oper_k rfl rfl (by k_ne) (λK hK=>?_);have hc:(W6.at d1).cell? ⟨p2,0,none⟩=some x2:=c2;have hf:(W6.at d1).frozen? ⟨p2,0,none⟩=false:=f2;go_simp;refine hK _ _ ⟨(λe he=>by have hm:=mem_listed he;simp[go_sem,Lx, *] at hm;subst hm;exact Ij hp2 hns2),?_⟩;clear hK K hc hf;have hF:AtRel (W6.setCell ⟨p2,0,none⟩ (.slice none 0 0)) ((W6.at d1).setCell ⟨p2,0,none⟩ (.slice none 0 0)):=⟨d1,rfl⟩;try walk_nrm
 u_in rl hF
 obtain⟨d2,rfl⟩:=hF;refine goes_oper_k rfl rfl (by k_ne) (λK hK=>?_);have hc:(World.at (W6.setCell ⟨p2,0,none⟩ (.slice none 0 0)) d2).cell? ⟨p3,0,none⟩=some x3:=c3;have hf:(World.at (W6.setCell ⟨p2,0,none⟩ (.slice none 0 0)) d2).frozen? ⟨p3,0,none⟩=false:=f3;go_simp;refine hK _ _ ⟨(λe he=>by have hm:=mem_listed he;simp[go_sem,Ly, *] at hm;subst hm;exact Ij hp3 hns3),?_⟩;clear hK K hc hf;have hF:AtRel ((W6.setCell ⟨p2,0,none⟩ (.slice none 0 0)).setCell ⟨p3,0,none⟩ (.bool false)) ((World.at (W6.setCell ⟨p2,0,none⟩ (.slice none 0 0)) d2).setCell ⟨p3,0,none⟩ (.bool false)):=⟨d2,rfl⟩;have k2':=(k2.set (j:=0) (u:=.slice none 0 0) (by simp)).other (q:=p3) (j:=0) (u:=.bool false) hne;have k3'':=k3'.set (j:=0) (u:=.bool false) (by simp);have hdl7:((W6.setCell ⟨p2,0,none⟩ (.slice none 0 0)).setCell ⟨p3,0,none⟩ (.bool false)).heap[dl]?=some (.deferred (some [])):=((aside_setCell _ _ _).block dl λe=>hd3 e.symm).trans (((aside_setCell _ _ _).block dl λe=>hd2 e.symm).trans hdl6);generalize (W6.setCell ⟨p2,0,none⟩ (.slice none 0 0)).setCell ⟨p3,0,none⟩ (.bool false)=W7 at *;try walk_nrm
 u_c stepG_region_end rl hF
 u_c stepG_ret' rl hF
 u_in rl hF
 obtain⟨d3,rfl⟩:=hF;refine CH (Ll (w:=W7.at d3) (l:=dl) hdl7 rfl) λes ho=>⟨λe he=>CG hX hdd (ho e he),?_⟩;clear ho es;have hF:AtRel (W7.putObj dl (.deferred none)) ((W7.at d3).putObj dl (.deferred none)):=⟨d3,rfl⟩;have hg:=Do W7 dl (.deferred none);have k2:=k2'.kept hg (by simp;exact hd2);have k3:=k3''.kept hg (by simp;exact hd3);have c2:=k2.1 0 _ rfl;have c3:=k3.1 0 _ rfl;u_in rl hF
 obtain⟨d4,rfl⟩:=hF;have c2':(World.at (W7.putObj dl (.deferred none)) d4).cell? ⟨p2,0,none⟩=some (.slice none 0 0):=c2;have c3':(World.at (W7.putObj dl (.deferred none)) d4).cell? ⟨p3,0,none⟩=some (.bool false):=c3;refine PZ (Kf (b:=bO) (w:=World.at (W7.putObj dl (.deferred none)) d4) (r:=⟨p2,0,none⟩) (r2:=⟨p3,0,none⟩) (x:=.slice none 0 0) (y:=.bool false) rfl rfl Tryz.func29 Tryz.results29 rfl rfl (by simp[loadVar,isAgg,go_sem,c2']) (λes=>by simp[loadVar,isAgg,go_sem,c2'];rfl) (by simp[loadVar,isAgg,go_sem,c3']) (λes=>by simp[loadVar,isAgg,go_sem,c3'];rfl)) λes ho=>⟨λe he=>?_,?_⟩
 ·rcases ho e he with rfl|rfl
  ·exact BG hp2 hns2
  ·exact BG hp3 hns3
 exact Go.Conc.Goes.stop λw₁ r=>⟨rfl,rl (V:=W7.putObj dl (.deferred none)) ⟨d4,rfl⟩ r⟩
theorem AcN{T:Array Value}{w:World}{u:Value}{ok:Bool}(hT:T.size=11):
  Go.Conc.Goes Tryz.prog true AtRel (DE λ_=>False) (λg w'=>g=G (c.finish (.bool ok)) cs/\AtRel w w') 30 (G ((bA.at ⟨T,[]⟩ (.inRegion Lv [1,2,3,4,5,6]::[.code Wf])).finish (.tuple #[u,.bool ok])) (c::cs)) w:=by
 obtain⟨v0,v1,v2,v3,v4,v5,v6,v7,v8,v9,v10,rfl⟩:=Si T hT;rw[Frame.finish_at];simp only[NF,Wf,Lv,Fk,Tryz.f10,Option.getD_some];have rl:∀{V w w₁:World},AtRel V w->AtRel w w₁->AtRel V w₁:=λh r=>atRel_trans _ _ _ h r;have hF:AtRel w w:=atRel_refl w;walk_nrm
 u_op rl hF
 u_op rl hF
 u_op rl hF
 u_op rl hF
 u_op rl hF
 u_c stepG_region_end rl hF
 u_c stepG_seq rl hF
 u_reg rl hF
 u_op rl hF
 u_op rl hF
 u_c stepG_region_end rl hF
 u_c stepG_ret' rl hF
 u_in rl hF
 rw[stepG_leave (b:=bA) rfl rfl Tryz.func10 (results_tmp rfl _ _ _) (events_results_tmp rfl _ _)];simp only[goes_go];refine⟨by u_nil,?_⟩;exact Go.Conc.Goes.stop λw₁ r=>⟨rfl,rl hF r⟩
end
def Ab4(b:Bk)(lo:Nat)(R:World->Prop)(a:Act)(u:World):Prop :=
 ∃T bx p2 p3 a1 c1 a2 c2,a=⟨T,[]⟩/\T.size=18/\T[1]?=some (.pointer (some ⟨bx,0,none⟩))/\T[2]?=some (.pointer (some ⟨p2,0,none⟩))/\T[3]?=some (.pointer (some ⟨p3,0,none⟩))/\
  CB u bx [.slice a1 b.tg.length c1,.slice a2 b.bs.length c2]/\CB u p2 [.slice none 0 0]/\CB u p3 [.bool false]/\K0 u (.agg #[.slice a1 b.tg.length c1,.slice a2 b.bs.length c2]) b/\p2≠p3/\bx≠p2/\bx≠p3/\lo<=p2/\lo<=p3/\R u
theorem Aal(b:Bk)(lo:Nat)(a:Act):P4 (Ab4 b lo (λ_=>True) a):=λ_ _ _ h=>h
theorem Ab5(b:Bk)(bv:Value)(w:World)(h:K0 w bv b){lo:Nat}(hlo:lo<=w.heap.size){R:World->Prop}(HR:Hid (∀u,Below w.heap.size w u->R u)):
  Bb Tryz.prog [Ji] (λe a u=>e=.normal/\Ab4 b lo R a u) ⟨Se bv,[]⟩ w:=by
 obtain⟨a1,c1,a2,c2,rfl,h1,h2⟩:=h.parts;clear h1 h2;simp only[Ji,Se,Bw,Tryz.f29,Option.getD_some];obtain⟨W1,hW1,kA,k2,k3,hB1,hs1⟩:=cbE3 w [.slice a1 b.tg.length c1,.slice a2 b.bs.length c2] 26 [.slice none 0 0] 23 [.bool false] 4;apply Y1;intro K hK
 go_wp2_with fail;try clear hK
 try clear K
 try rw[hW1]
 clear hW1;exact⟨rfl,_,w.heap.size,w.heap.size+1,w.heap.size+2,a1,c1,a2,c2,rfl,rfl,rfl,rfl,rfl,kA,k2,k3,h.up hB1,by omega,by omega,by omega,by omega,by omega,HR.out _ hB1⟩
theorem AdU(b:Bk)(lo bx p2 p3:Nat)(a1 a2:Option Addr)(c1 c2:Nat)(u0 u4 u5 u6 u7 u8 u9 u10 u11 u12 u13 u14 u15 u16 u17:Value)(w:World)(h:K0 w (.agg #[.slice a1 b.tg.length c1,.slice a2 b.bs.length c2]) b)(hbk:I1 b=false)(kA:CB w bx [.slice a1 b.tg.length c1,.slice a2 b.bs.length c2])(k2:CB w p2 [.slice none 0 0])(k3:CB w p3 [.bool false])(hne:p2≠p3)(hlo2:lo<=p2)(hlo3:lo<=p3)(hlow:lo<=w.heap.size)
  {R:Value->World->Prop} (HR:Hid (∀u,Below lo w u->R (.tuple #[.slice none 0 0,.bool false]) u)) :
  Iw.wp Tryz.prog (ET Tryz.prog Tryz.f29 R) ⟨#[u0,.pointer (some ⟨bx,0,none⟩),.pointer (some ⟨p2,0,none⟩),.pointer (some ⟨p3,0,none⟩),u4,u5,u6,u7,u8,u9,u10,u11,u12,u13,u14,u15,u16,u17],[]⟩ w:=by
 generalize hfn:ET Tryz.prog Tryz.f29 R=QQ
 have HQ:Hid (∀(a:Act) u,a.defers=[]->a.tmps.getD 2 undef=.pointer (some ⟨p2,0,none⟩)->a.tmps.getD 3 undef=.pointer (some ⟨p3,0,none⟩)->CB u p2 [.slice none 0 0]->CB u p3 [.bool false]->Below lo w u->QQ .ret a u):=λa u hd q2 q3 x2 x3 hb=>by
  subst hfn;exact Ft (Tc (r:=p2) (r2:=p3) (x:=.slice none 0 0) (y:=.bool false) Tryz.results29 q2 q3 (Xm x2.c1'.1) (Xn x3.c1'.1)) hd (HR.out _ hb)
 clear hfn;simp only[Iw,Bw,Tryz.f29,Option.getD_some];obtain⟨e0,e1⟩:=kA.c2';go_wp2_with fail;refine (BK b _ _ h).mono ?_;rintro e w2 ⟨rfl,hb2⟩;have hB2:Below lo w w2:=hb2.mono hlow;have k2:=k2.up hb2 k2.2.2;have k3:=k3.up hb2 k3.2.2;clear hb2 e0 e1 kA h;obtain⟨x2,f2⟩:=k2.c1';obtain⟨x3,f3⟩:=k3.c1';have hne':¬p3=p2:=λe=>hne e.symm;rw[hbk];go_wp2_with fail
 (try simp only[Exit.inBlock,Exit.then])
 refine HQ.out _ _ rfl rfl rfl ?_ ?_ ?_
 ·exact (k2.set (j:=0) (u:=.slice none 0 0) (by simp)).other hne
 ·exact (k3.other (q:=p2) (j:=0) (u:=.slice none 0 0) (λe=>hne e.symm)).set (j:=0) (u:=.bool false) (by simp)
 ·exact (hB2.setCell (p:=⟨p2,0,none⟩) hlo2 _).setCell (p:=⟨p3,0,none⟩) hlo3 _
theorem Sm(bs:List Ba)(gone:List ByteArray):∀n:Nat,(∀k,k<n->¬Good bs gone k)∨∃k,k<n/\Good bs gone k/\∀j,j<k->¬Good bs gone j
 | 0=>.inl λk hk=>by omega
 | n+1=>by
  rcases Sm bs gone n with h|⟨k,hk,hg,hj⟩
  ·by_cases hg:Good bs gone n
   ·exact .inr ⟨n,by omega,hg,h⟩
   ·exact .inl (Ev h hg)
  ·exact .inr ⟨k,by omega,hg,hj⟩
theorem Aam(bs:List Ba)(gone:List ByteArray):Y6 bs gone (-1)∨∃k:Nat,Y6 bs gone (k:Int):=by
 rcases Sm bs gone bs.length with h|⟨k,hk,hg,hj⟩
 ·exact .inl (.inl ⟨rfl,h⟩)
 ·exact .inr ⟨k,.inr ⟨k,rfl,hk,hg,hj⟩⟩
theorem Sn(V:World)(TO:Array Value)(l dl p2 p3:Nat)(u:Value):(V9 V TO l dl p2 p3 u).heap.size=V.heap.size:=by
 rw[V9,World.putObj_size,World.putObj_size,World.putObj_size,(aside_setCell _ _ _).size,(aside_setCell _ _ _).size,World.putObj_size]
theorem Qd{V:World}{TO:Array Value}{l dl p2 p3 b:Nat}{u:Value}(h1:b≠l)(h2:b≠dl)(h3:b≠p2)(h4:b≠p3):(V9 V TO l dl p2 p3 u).heap[b]?=V.heap[b]?:=by
 rw[V9,World.putObj_heap_other h2,World.putObj_heap_other h1,World.putObj_heap_other h1,(aside_setCell _ _ _).block b h4,(aside_setCell _ _ _).block b h3,World.putObj_heap_other h1]
theorem NH(w:World)(l:Nat)(o:Obj):(w.putObj l o).os=w.os/\(w.putObj l o).output=w.output:=⟨rfl,rfl⟩
theorem Lz(w:World)(a:Addr)(v:Value):(w.setCell a v).os=w.os/\(w.setCell a v).output=w.output:=⟨rfl,rfl⟩
theorem YK(V:World)(TO:Array Value)(l dl p2 p3:Nat)(u:Value):(V9 V TO l dl p2 p3 u).os=V.os/\(V9 V TO l dl p2 p3 u).output=V.output:=by
 simp only[V9,(NH _ _ _).1,(NH _ _ _).2,(Lz _ _ _).1,(Lz _ _ _).2,and_self]
theorem Aan{X:Nat->Prop}{V:World}(h:N9 X V){TO:Array Value}{l dl p2 p3:Nat}{u:Value}(h1:¬X l)(h2:¬X dl)(h3:¬X p2)(h4:¬X p3):N9 X (V9 V TO l dl p2 p3 u) :=
 MA h (by rw[Sn];exact A3 _) (λb hb=>Qd (λe=>h1 (e ▸ hb)) (λe=>h2 (e ▸ hb)) (λe=>h3 (e ▸ hb)) (λe=>h4 (e ▸ hb)))
  (GK (GK (GK (FM (FM (GK h.pend (by intro c t e;cases e)) _ _) _ _) (by intro c t e;cases e)) (by intro c t e;cases e)) (by intro c t e;cases e))
attribute [local irreducible] V8 V9
theorem AcO:LF=.block 0 (.loop Gl):=by simp only[LF,Gl,Dn,Tryz.f69,Option.getD_some]
theorem okB:N7 Tryz.prog (λg=>EN.contains g) Qc=true:=by kernel_rfl
structure RI (X:Nat->Prop) (b:Bk) (l tb:Nat) (V0:World) (gone:List ByteArray) (T:Array Value) (w:World):Prop where
 size:T.size=33
 s0:T[0]?=some (.func (.yield l) #[] #[])
 s3:T[3]?=some (.pointer (some ⟨tb,0,none⟩))
 base:N9 X w
 goes:Ag b.bs gone.length gone
 le:gone.length<=b.bs.length
 tab:∃ag cg ts,T[4]?=some (.slice ag gone.length cg)/\ts.map (·.1)=b.bs/\Cl ts gone/\∀τ d,E5 (E0 X w τ d) (tb+1) (.slice ag gone.length cg) gone/\AK (E0 X w τ d) tb b.tg ts/\Below (l+1) (E0 X V0 τ d) (E0 X w τ d)
theorem RI.at{X:Nat->Prop}{b:Bk}{l tb:Nat}{V0:World}{gone:List ByteArray}{T:Array Value}{w:World}(h:RI X b l tb V0 gone T w)(d:Nat):RI X b l tb V0 gone T (w.at d):=⟨h.size,h.s0,h.s3,h.base.at d,h.goes,h.le,h.tab⟩
theorem Ab6{X:Nat->Prop}{Shun:Loc->Prop}{Post:Value->World->Prop}{c:Frame}{cs:List Frame}(hX:AH Shun X){b:Bk}(hok:J0 b){V0:World}{TO:Array Value}{l dl bx p2 p3 tb lo:Nat}{a2:Option Addr}{c2:Nat}{x2 x3:Value}(hTO:TO.size=18)(o1:TO[1]?=some (.pointer (some ⟨bx,0,none⟩)))(o2:TO[2]?=some (.pointer (some ⟨p2,0,none⟩)))(o3:TO[3]?=some (.pointer (some ⟨p3,0,none⟩)))
  (hl0:V0.heap[l]?=some (.loop (Y2 TO dl))) (hd0:V0.heap[dl]?=some (.deferred (some []))) (hc1:V0.cell? ⟨bx,1,none⟩=some (.slice a2 b.bs.length c2)) (k20:CB V0 p2 [x2]) (k30:CB V0 p3 [x3]) (hne:p2≠p3) (hxb:¬X bx) (hx2:¬X p2) (hx3:¬X p3) (hxl:¬X l) (hxd:¬X dl) (hbl:bx<l) (h2l:p2<l) (h3l:p3<l) (hdl:dl<l) (hlt:l<tb) (q2:lo<=p2) (q3:lo<=p3) (qd:lo<=dl)
  (kk:∀gs' w' sl' t' u ok ss,U4 b ss ok->K1 Tryz.prog Shun gs' (G (c.finish (.tuple #[u,.bool ok])) cs) t'->N9 X w'->(∀τ d,Below lo (E0 X V0 τ d) (E0 X w' τ d))->G4 Tryz.prog Post (crowd gs' w' sl') t') :
  ∀(m:Nat)(gone:List ByteArray)(T:Array Value)(w:World)(gs:Array Goroutine)(sl:Option (Nat×Nat)) (t:Trace),b.bs.length-gone.length=m->RI X b l tb V0 gone T w->K1 Tryz.prog Shun gs (G (bF.at ⟨T,[]⟩ [.code Gl,.inLoop Gl,.inBlock 0]) (cO TO dl l::c::cs)) t->G4 Tryz.prog Post (crowd gs w sl) t:=by
 intro m;induction m with
 | zero =>
  intro gone T w gs sl t hm hI hh;obtain⟨ag,cg,ts,s4,hfst,hG,hall⟩:=hI.tab;have hle:=hI.le;have hgl:gone.length=b.bs.length:=by omega
  have bk:∀k,k<l+1->¬X k->w.heap[k]?=V0.heap[k]?:=λk hk hx=>FU (hall (λ_ _=>0) 0).2.2 hk hx;have hz:V0.heap.size<=w.heap.size:=by have:=(hall (λ_ _=>0) 0).2.2.size;rwa [K5,K5] at this
  have hlw:=(bk l (by omega) hxl).trans hl0;have hdw:=(bk dl (by omega) hxd).trans hd0;have hcw:w.cell? ⟨bx,1,none⟩=some (.slice a2 b.bs.length c2):=(C2 (bk bx (by omega) hxb)).trans hc1;have k2:=Jk k20 (bk p2 (by omega) hx2) hz;have k3:=Jk k30 (bk p3 (by omega) hx3) hz;rw[hgl] at s4;refine X4 (D:=DE (EvL Shun w.heap.size)) (B0:=w.heap.size) (λ_ _ _ h=>h) hh (full hX hI.size hTO hI.s0 s4 o1 o2 o3 hlw hdw hcw hxb k2 k3 hne hx2 hx3) λgs' g' w' sl' t' hh' hst=>?_;obtain⟨rfl,d,rfl⟩:=hst;refine kk gs' _ sl' t' _ true gone (.inl ⟨rfl,hok,by have:=hI.goes;rwa [hgl] at this⟩) hh' ((Aan hI.base hxl hxd hx2 hx3).at d) λτ d=>?_;exact ((hall τ d).2.2.mono (by omega)).trans (Ie (W:=w) (w':=V9 w TO l dl p2 p3 (.slice ag b.bs.length cg)) (YK ..).1 (YK ..).2 (by rw[Sn];exact A3 _) (λb hb=>Qd (by omega) (by omega) (by omega) (by omega)) (λ_ _=>Iff.rfl) τ d)
 | succ m ih =>
  intro gone T w gs sl t hm hI hh;obtain⟨ag,cg,ts,s4,hfst,hG,hall⟩:=hI.tab;have hle:=hI.le;have hgl:gone.length<b.bs.length:=by omega
  have bk:∀k,k<l+1->¬X k->w.heap[k]?=V0.heap[k]?:=λk hk hx=>FU (hall (λ_ _=>0) 0).2.2 hk hx;have hz:V0.heap.size<=w.heap.size:=by have:=(hall (λ_ _=>0) 0).2.2.size;rwa [K5,K5] at this
  have hlw:=(bk l (by omega) hxl).trans hl0;have hcw:w.cell? ⟨bx,1,none⟩=some (.slice a2 b.bs.length c2):=(C2 (bk bx (by omega) hxb)).trans hc1;refine X4 (D:=DE (EvL Shun w.heap.size)) (B0:=w.heap.size) (λ_ _ _ h=>h) hh (AdS hX (by omega) hI.size hTO hI.s0 hI.s3 s4 o1 hlw hcw hxb) λgs1 g1 w1 sl1 t1 hh1 hst=>?_;obtain⟨⟨T1,rfl,hz1,u0,u3,u4⟩,d1,rfl⟩:=hst;obtain⟨v0,v1,v2,v3,v4,v5,v6,v7,v8,v9,v10,v11,v12,v13,v14,v15,v16,v17,v18,v19,v20,v21,v22,v23,v24,v25,v26,v27,v28,v29,v30,v31,v32,rfl⟩:=Mz T1 hz1;simp only[List.getElem?_toArray,List.getElem?_cons_succ,List.getElem?_cons_zero,Option.some.injEq] at u0 u3 u4;subst u0 u3 u4;rcases Aam b.bs gone with hnx|⟨k,hnx⟩
  ·refine Y8 hX hh1 (Jg R9 okB frF rfl Tryz.func69 (hI.base.at d1) (R:=λ_ u=>∃τ d,True/\Below w.heap.size (E0 X w τ d) u) (λτ d=>AG (hI.base.at d1) (λτ d=>Aaj b tb ts gone ag cg _ _ _ _ _ _ _ _ _ _ _ _ _ _ _ _ _ _ _ _ _ _ _ _ _ _ _ _ _ _ _ (E0 X w τ d) (hall τ d).2.1 hok hfst hG hnx (show Hid _ from λv u hu=>⟨τ,d,trivial,by rw[K5] at hu;exact hu⟩)) τ d) _ _ _) λgs2 g2 w2 sl2 t2 hh2 hst2=>?_;obtain⟨v,rfl,hb2,hR2⟩:=hst2;have hbel:∀τ d,Below w.heap.size (E0 X w τ d) (E0 X w2 τ d):=λτ d=>(U6 (Q:=λ_=>True) (λ_ _ _ h=>h) (hR2 τ d)).2;have hz2:w.heap.size<=w2.heap.size:=by have:=(hbel (λ_ _=>0) 0).size;rwa [K5,K5] at this
   have hlV:=(C9.1 hl0).1;have up2:∀τ d,Below (l+1) (E0 X V0 τ d) (E0 X w2 τ d):=λτ d=>(hall τ d).2.2.trans ((hbel τ d).mono (by omega));have bk2:∀k,k<l+1->¬X k->w2.heap[k]?=V0.heap[k]?:=λk hk hx=>FU (up2 (λ_ _=>0) 0) hk hx;rw[NG] at hh2;have k2:=Jk k20 (bk2 p2 (by omega) hx2) (by omega);have k3:=Jk k30 (bk2 p3 (by omega) hx3) (by omega);refine X4 (D:=DE (EvL Shun w2.heap.size)) (B0:=w2.heap.size) (λ_ _ _ h=>h) hh2 (AdT hX hTO o2 o3 ((bk2 l (by omega) hxl).trans hl0) ((bk2 dl (by omega) hxd).trans hd0) k2 k3 hne hx2 hx3) λgs3 g3 w3 sl3 t3 hh3 hst3=>?_;obtain⟨rfl,d3,rfl⟩:=hst3;refine kk gs3 _ sl3 t3 _ false [] (.inr ⟨rfl,rfl,.inr ⟨gone.length,gone,hgl,hI.goes,hnx⟩⟩) hh3 ((Aag hb2 hxl hxd hx2 hx3).at d3) λτ d=>?_;exact ((up2 τ d).mono (by omega)).trans (Ie (W:=w2) (w':=V8 w2 TO l dl p2 p3) (YJ ..).1 (YJ ..).2 (by rw[Sj];exact A3 _) (λb hb=>Qb (by omega) (by omega) (by omega) (by omega)) (λ_ _=>Iff.rfl) τ d)
  ·obtain⟨k',hkk,hkl,⟨x,hx,hmg,-⟩,-⟩:∃k':Nat,(k:Int)=(k':Int)/\k'<b.bs.length/\Good b.bs gone k'/\∀j,j<k'->¬Good b.bs gone j:=by
    rcases hnx with⟨h,-⟩|h
    ·omega
    ·exact h
   obtain rfl:k=k':=by omega
   obtain⟨p,hpt,hpb⟩:=UZ hfst hkl
   obtain rfl:x=p.1:=by
    rw[A0 hkl] at hx;rw[hpb];exact (A5 hx).symm
   have hg0:p.2=false:=by rw[hG k p hpt];exact hmg
   refine Y8 hX hh1 (EM R9 okB frF rfl (hI.base.at d1) (Q:=λa u=>∃τ d,AtB b (.func (.yield l) #[] #[]) tb (l+1) gone p.1 (ts.set k (p.1,true)) (E0 X w τ d) a u) (λτ d=>AG (hI.base.at d1) (λτ d=>wp_mono (Aak b tb (l+1) hlt ts gone ag cg (.func (.yield l) #[] #[]) _ _ _ _ _ _ _ _ _ _ _ _ _ _ _ _ _ _ _ _ _ _ _ _ _ _ _ _ _ _ (E0 X w τ d) (hall τ d).2.1 (hall τ d).1 hok hfst hG hgl hnx hpt hg0) ?_) τ d) _ _) λgs2 g2 w2 sl2 t2 hh2 hst2=>?_
   ·intro e a' u' hq;cases e with
    | normal=>exact⟨rfl,τ,d,hq.2⟩
    | _=>exact absurd hq.1 (by simp)
   obtain⟨a',rfl,hd',hb2,hQ⟩:=hst2
   have hQ':∀τ d,∃T ag cg,a'=⟨T,[]⟩/\T.size=33/\T[0]?=some (.func (.yield l) #[] #[])/\T[3]?=some (.pointer (some ⟨tb,0,none⟩))/\T[4]?=some (.slice ag (gone.length+1) cg)/\E5 (E0 X w2 τ d) (tb+1) (.slice ag (gone.length+1) cg) (gone++[p.1.nm])/\AK (E0 X w2 τ d) tb b.tg (ts.set k (p.1,true))/\Below (l+1) (E0 X w τ d) (E0 X w2 τ d):=λτ d=>by
    have h1:=U6 (X:=X) (X':=X) (W:=w) (w':=w2) (B:=l+1) (τ:=τ) (d:=d) (Q:=λu=>∃T ag cg,a'=⟨T,[]⟩/\T.size=33/\T[0]?=some (.func (.yield l) #[] #[])/\T[3]?=some (.pointer (some ⟨tb,0,none⟩))/\T[4]?=some (.slice ag (gone.length+1) cg)/\E5 u (tb+1) (.slice ag (gone.length+1) cg) (gone++[p.1.nm])/\AK u tb b.tg (ts.set k (p.1,true))) (λ_ _ _ h=>h)
     ((hQ τ d).imp λu h=>let ⟨τ0,d0,T,ag,cg,e1,e2,e3,e4,e5,e6,e7,e8⟩:=h;⟨τ0,d0,⟨T,ag,cg,e1,e2,e3,e4,e5,e6,e7⟩,e8⟩)
    obtain⟨⟨T,ag,cg,e1,e2,e3,e4,e5,e6,e7⟩,e8⟩:=h1;exact⟨T,ag,cg,e1,e2,e3,e4,e5,e6,e7,e8⟩
   obtain⟨T2,ag2,cg2,rfl,y1,y2,y3,y4,-⟩:=hQ' (λ_ _=>0) 0;refine O9 hh2 rfl (λw=>stepG_inLoop) λgs3 sl3 t3 d3 hh3=>?_;refine ih (gone++[p.1.nm]) T2 _ gs3 sl3 t3 (by simp;omega) ⟨y1,y2,y3,hb2.at d3,by rw[A8];exact .more hI.goes hnx hx,by simp;omega,ag2,cg2,ts.set k (p.1,true),by rw[A8];exact y4,RE hfst hpt,Nh hok.2.2.2.1 hfst hG hpt,λτ d=>?_⟩ hh3;obtain⟨T3,ag3,cg3,e1,e2,e3,e4,e5,e6,e7,e8⟩:=hQ' τ d;cases e1
   rw[y4] at e5;cases e5
   exact⟨by rw[A8];exact e6,e7,(hall τ d).2.2.trans e8⟩
theorem Ab7:Bw=AM [Ji] (.seq Iw (.seq (.seq Lw Eu) Jj)):=by simp only[AM,Ji,Iw,Lw,Eu,Jj,Bw,Tryz.f29,Option.getD_some]
theorem LA{X:Nat->Prop}{Shun:Loc->Prop}{W:World}{b:Bk}{bv:Value}(hX:AH Shun X)(hbW:N9 X W)(hB:∀τ d,K0 (E0 X W τ d) bv b):
  CD Tryz.prog 10 #[bv] X Shun W λv _=>∃ss ok,v=.bool ok/\U4 b ss ok:=by
 intro Post c cs gs sl t hh k;rw[Abq,Abx] at hh;have hR:∀(V:World)(τ:Nat->Question->Nat)(d:Nat),Hid (∀u,Below (E0 X V τ d).heap.size (E0 X V τ d) u->∃τ d,True/\Below V.heap.size (E0 X V τ d) u):=λV τ d u hu=>⟨τ,d,trivial,by rw[K5] at hu;exact hu⟩;refine Y8 hX hh (Es R9 frA NF [] (c::cs) [Sd] (λr hr=>Sk r (by simp at hr;simp[hr])) rfl hbW (λτ d=>AG hbW (λτ d=>Abp b bv _ (hB τ d) (hR W τ d)) τ d)) λgs1 g1 w1 sl1 t1 hh1 hst=>?_;obtain⟨a,rfl,hd,hb1,hQ⟩:=hst;have hbel1:∀τ d,Below W.heap.size (E0 X W τ d) (E0 X w1 τ d):=λτ d=>(U6 (Q:=λ_=>True) (λ_ _ _ h=>h) ((hQ τ d).imp λu h=>let ⟨_,_,_,_,_,_,_,_,_,_,_,h⟩:=h;h)).2;obtain⟨T1,bx1,a1,c1,a2,c2,rfl,hT1,s1,kA1,hk1,-⟩:=Aq.out (Abv b a) ((hQ (λ_ _=>0) 0).imp λu h=>let ⟨T,bx,a1,c1,a2,c2,h1,h2,h3,h4,h5,_⟩:=h;⟨T,bx,a1,c1,a2,c2,h1,h2,h3,h4,h5,trivial⟩);have hsz1:W.heap.size<=w1.heap.size:=by have:=(hbel1 (λ_ _=>0) 0).size;rwa [K5,K5] at this
 clear hQ hd;refine X4 (D:=DE (EvL Shun w1.heap.size)) (B0:=w1.heap.size) (λ_ _ _ h=>h) hh1 (Abu hX hT1 s1 (kA1.1 0 _ rfl) (kA1.1 1 _ rfl)) λgs2 g2 w2 sl2 t2 hh2 hst2=>?_;obtain⟨⟨T2,rfl,hT2⟩,d2,rfl⟩:=hst2
 have home:∀gs' w' sl' t' u ok ss,U4 b ss ok->K1 Tryz.prog Shun gs' (G ((bA.at ⟨T2,[]⟩ (.inRegion Lv [1,2,3,4,5,6]::[.code Wf])).finish (.tuple #[u,.bool ok])) (c::cs)) t'->N9 X w'->(∀τ d,Below w1.heap.size (E0 X w1 τ d) (E0 X w' τ d))->G4 Tryz.prog Post (crowd gs' w' sl') t':=λgs' w' sl' t' u ok ss ho hh' hb' hbel'=>by
  refine X4 (D:=DE λ_=>False) (B0:=0) (λ_ _ _ h e he=>(h e he).elim) hh' (AcN (w:=w') hT2) λgs9 g9 w9 sl9 t9 hh9 hst9=>?_;obtain⟨rfl,d9,rfl⟩:=hst9;exact k X Shun gs9 _ sl9 t9 _ hX (λb hb=>.inl hb) hh9 (hb'.at d9) λτ d=>⟨⟨ss,ok,rfl,ho⟩,(hbel1 τ d).trans ((hbel' τ d).mono hsz1)⟩
 rw[Abr] at hh2;cases hbk:I1 b with
 | false =>
  rw[Ab7] at hh2;refine Y8 hX hh2 (Es R9 frO (.seq Iw (.seq (.seq Lw Eu) Jj)) [] _ [Ji] (λr hr=>Sk r (by simp at hr;simp[hr])) rfl (hb1.at d2) (λτ d=>AG (hb1.at d2) (λτ d=>Ab5 b _ _ (show K0 (E0 X (w1.at d2) τ d) _ b from hk1) (lo:=w1.heap.size) (by rw[K5];exact A3 _) (hR (w1.at d2) τ d)) τ d)) λgs3 g3 w3 sl3 t3 hh3 hst3=>?_;obtain⟨a,rfl,hd,hb3,hQ⟩:=hst3;have hbel3:∀τ d,Below w1.heap.size (E0 X w1 τ d) (E0 X w3 τ d):=λτ d=>(U6 (Q:=λ_=>True) (λ_ _ _ h=>h) ((hQ τ d).imp λu h=>let ⟨_,_,_,_,_,_,_,_,_,_,_,_,_,_,_,_,_,_,_,_,_,_,h⟩:=h;h)).2;have hQ':=λτ d=>Aq.out (Aal b w1.heap.size a) ((hQ τ d).imp λu h=>let ⟨T,bx,p2,p3,a1,c1,a2,c2,h1,h2,h3,h4,h5,h6,h7,h8,h9,h10,h11,h12,h13,h14,_⟩:=h;⟨T,bx,p2,p3,a1,c1,a2,c2,h1,h2,h3,h4,h5,h6,h7,h8,h9,h10,h11,h12,h13,h14,trivial⟩);have hsz3:w1.heap.size<=w3.heap.size:=by have:=(hbel3 (λ_ _=>0) 0).size;rwa [K5,K5] at this
  refine O9 hh3 rfl (λw=>stepG_seq) λgs4 sl4 t4 d4 hh4=>?_;refine Y8 hX hh4 (Jg R9 (Sk Iw (by simp)) frO hd Tryz.func29 (hb3.at d4) (R:=λv u=>∃τ d,v=.tuple #[.slice none 0 0,.bool false]/\Below w1.heap.size (E0 X w1 τ d) u) (λτ d=>AG (hb3.at d4) (λτ d=>?_) τ d) _ _ _) λgs5 g5 w5 sl5 t5 hh5 hst5=>?_
  ·obtain⟨T,bx,p2,p3,a1,c1,a2,c2,rfl,hT,e1,e2,e3,kA,k2,k3,hbk3,hne,-,-,l2,l3,-⟩:=hQ' τ d;obtain⟨u0,u1,u2,u3,u4,u5,u6,u7,u8,u9,u10,u11,u12,u13,u14,u15,u16,u17,rfl⟩:=JJ T hT;simp only[List.getElem?_toArray,List.getElem?_cons_succ,List.getElem?_cons_zero,Option.some.injEq] at e1 e2 e3;subst e1 e2 e3;exact AdU b w1.heap.size bx p2 p3 a1 a2 c1 c2 _ _ _ _ _ _ _ _ _ _ _ _ _ _ _ (E0 X w3 τ d) hbk3 hbk kA k2 k3 hne l2 l3 (by rw[K5];exact hsz3) (show Hid _ from λu hu=>⟨τ,d,rfl,(hbel3 τ d).trans hu⟩)
  obtain⟨v,rfl,hb5,hR5⟩:=hst5;have hR5':=λτ d=>U6 (Q:=λ_=>v=.tuple #[.slice none 0 0,.bool false]) (λ_ _ _ h=>h) (hR5 τ d);obtain rfl:=(hR5' (λ_ _=>0) 0).1;exact home gs5 _ sl5 t5 _ false [] (.inr ⟨rfl,rfl,.inl (Bd.1 hbk)⟩) hh5 hb5 λτ d=>(hR5' τ d).2
 | true =>
  have hok:J0 b:=O7.1 hbk;rw[Aby] at hh2;refine Y8 hX hh2 (Ms R9 frO Lw Eu Jj (Sk _ (by simp)) [] _ [Ji,Iw] (λr hr=>Sk r (by simp at hr;rcases hr with rfl|rfl<;>simp)) rfl (hb1.at d2) (λτ d=>AG (hb1.at d2) (λτ d=>AcL b _ _ (show K0 (E0 X (w1.at d2) τ d) _ b from hk1) hbk (lo:=w1.heap.size) (by rw[K5];exact A3 _) (hR (w1.at d2) τ d)) τ d)) λgs3 g3 w3 sl3 t3 hh3 hst3=>?_;obtain⟨a,rfl,hd,hb3,hQ⟩:=hst3;have hbel3:∀τ d,Below w1.heap.size (E0 X w1 τ d) (E0 X w3 τ d):=λτ d=>(U6 (Q:=λ_=>True) (λ_ _ _ h=>h) ((hQ τ d).imp λu h=>let ⟨_,_,_,_,_,_,_,_,_,_,_,_,_,_,_,_,_,_,_,_,_,_,_,_,_,_,_,h⟩:=h;h)).2;obtain⟨TO,bx,p2,p3,q,a1,c1,a2,c2,x2,x3,rfl,hTO,o1,o2,o3,o9,kB,k2,k3,kQ,hk3,hne,hb2,hb3',hl2,hl3,-⟩:=Aq.out (Abw b _ a) ((hQ (λ_ _=>0) 0).imp λu h=>let ⟨T,bx,p2,p3,q,a1,c1,a2,c2,x2,x3,h1,h2,h3,h4,h5,h6,h7,h8,h9,h10,h11,h12,h13,h14,h15,h16,_⟩:=h;⟨T,bx,p2,p3,q,a1,c1,a2,c2,x2,x3,h1,h2,h3,h4,h5,h6,h7,h8,h9,h10,h11,h12,h13,h14,h15,h16,trivial⟩);clear hQ hd;have hsz3:w1.heap.size<=w3.heap.size:=by have:=(hbel3 (λ_ _=>0) 0).size;rwa [K5,K5] at this
  have hXs:∀b,X b->b<w3.heap.size:=hb3.old;have hx2:=(Dm (k2.1 0 _ rfl)).2;have hx3:=(Dm (k3.1 0 _ rfl)).2;have hxb:=(Dm (kB.1 0 _ rfl)).2;have hxl:¬X (w3.heap.size+1):=λh=>by have:=hXs _ h;omega
  have hxd:¬X w3.heap.size:=λh=>by have:=hXs _ h;omega
  have zz:(E0 X w3 (λ_ _=>0) 0).heap.size=w3.heap.size:=K5 _ _ _;have zb:=kB.2.2;have z2:=k2.2.2;have z3:=k3.2.2;rw[zz] at zb z2 z3;refine X4 (D:=DE λ_=>False) (B0:=0) (λ_ _ _ h e he=>(h e he).elim) hh3 (AcM (V:=w3) o9) λgs4 g4 w4 sl4 t4 hh4 hst4=>?_;obtain⟨rfl,d4,rfl⟩:=hst4;have hb4:=Aaf hb3 TO;have hbel4:∀τ d,Below w3.heap.size (E0 X w3 τ d) (E0 X (V1 w3 TO) τ d):=λτ d=>Ie (W:=w3) (w':=V1 w3 TO) rfl rfl (by rw[MB];omega) (λb hb=>Wm w3 TO b hb) (λ_ _=>Iff.rfl) τ d;have up4:∀τ d,Below (E0 X w3 τ d).heap.size (E0 X w3 τ d) (E0 X (V1 w3 TO) τ d):=λτ d=>by rw[K5];exact hbel4 τ d
  have kQ4:∀τ d,CB (E0 X (V1 w3 TO) τ d) q [.slice a1 b.tg.length c1,.slice a2 b.bs.length c2]:=λτ d=>CB.up (w:=E0 X w3 τ d) kQ (up4 τ d) kQ.2.2;have hk4:∀τ d,K0 (E0 X (V1 w3 TO) τ d) (.agg #[.slice a1 b.tg.length c1,.slice a2 b.bs.length c2]) b:=λτ d=>K0.up (w:=E0 X w3 τ d) hk3 (up4 τ d);have hz1:=MB w3 TO;rw[Abs,Abz] at hh4;refine Y8 hX hh4 (Es R9 frF LF [] _ [Sf,Sg] (λr hr=>Sk r (by simp at hr;rcases hr with rfl|rfl<;>simp)) rfl (hb4.at d4) (λτ d=>AG (hb4.at d4) (λτ d=>Ab3 b _ a1 a2 c1 c2 q _ (show CB (E0 X ((V1 w3 TO).at d4) τ d) _ _ from kQ4 τ d) (hk4 τ d) hok (lo:=w3.heap.size+2) (by rw[K5];exact Nat.le_of_eq hz1.symm) (hR ((V1 w3 TO).at d4) τ d)) τ d)) λgs5 g5 w5 sl5 t5 hh5 hst5=>?_;obtain⟨a,rfl,hd,hb5,hQ⟩:=hst5;have hbel5:∀τ d,Below (V1 w3 TO).heap.size (E0 X (V1 w3 TO) τ d) (E0 X w5 τ d):=λτ d=>(U6 (Q:=λ_=>True) (λ_ _ _ h=>h) ((hQ τ d).imp λu h=>let ⟨_,_,_,_,_,_,_,_,_,h⟩:=h;h)).2;have hQ':=λτ d=>Aq.out (Aai b _ (w3.heap.size+2) a) ((hQ τ d).imp λu h=>let ⟨T,tb,h1,h2,h3,h4,h5,h6,h7,_⟩:=h;⟨T,tb,h1,h2,h3,h4,h5,h6,h7,trivial⟩);obtain⟨T5,tb,rfl,hT5,f0,f3,f4,-,htb,-⟩:=hQ' (λ_ _=>0) 0
  have hTab:∀τ d,AK (E0 X w5 τ d) tb b.tg (V6 b.bs b.bs.length):=λτ d=>by
   obtain⟨T',tb',e1,-,-,e3,-,e5,-⟩:=hQ' τ d;cases e1
   rw[f3] at e3;cases e3
   exact e5
  clear hQ hd hQ';have hsz5:(V1 w3 TO).heap.size<=w5.heap.size:=by have:=(hbel5 (λ_ _=>0) 0).size;rwa [K5,K5] at this
  have hl5:w5.heap[w3.heap.size+1]?=some (.loop (Y2 TO w3.heap.size)):=(FU (hbel5 (λ_ _=>0) 0) (by omega) hxl).trans (Aae w3 TO);have hd5:w5.heap[w3.heap.size]?=some (.deferred (some [])):=(FU (hbel5 (λ_ _=>0) 0) (by omega) hxd).trans (Abt w3 TO);have up5:∀τ d,Below (E0 X w3 τ d).heap.size (E0 X w3 τ d) (E0 X w5 τ d):=λτ d=>by rw[K5];exact (hbel4 τ d).trans ((hbel5 τ d).mono (by omega))
  have kB5:=CB.up (w:=E0 X w3 (λ_ _=>0) 0) kB (up5 _ _) kB.2.2;have k25:=Sl (CB.up (w:=E0 X w3 (λ_ _=>0) 0) k2 (up5 _ _) k2.2.2) hx2;have k35:=Sl (CB.up (w:=E0 X w3 (λ_ _=>0) 0) k3 (up5 _ _) k3.2.2) hx3;rw[AcO] at hh5;refine O9 hh5 rfl (λw=>stepG_block) λgs6 sl6 t6 d6 hh6=>?_;refine O9 hh6 rfl (λw=>stepG_loop) λgs7 sl7 t7 d7 hh7=>?_;refine Ab6 hX hok (V0:=w5) (lo:=w1.heap.size) hTO o1 o2 o3 hl5 hd5 (Dm (kB5.1 1 _ rfl)).1 k25 k35 hne hxb hx2 hx3 hxl hxd (by omega) (by omega) (by omega) (by omega) (by omega) hl2 hl3 hsz3 (λgs' w' sl' t' u ok ss ho hh' hb' hbel'=>?_) _ [] T5 _ gs7 sl7 t7 rfl ⟨hT5,f0,f3,(hb5.at d6).at d7,.none,by simp,none,0,_,f4,by rw[Jv,List.take_length],Ni _ _,λτ d=>⟨⟨by simp,.inl ⟨rfl,rfl⟩⟩,hTab τ d,A4 _ _⟩⟩ hh7;refine home gs' w' sl' t' u ok ss ho hh' hb' λτ d=>?_;have e5:Below w1.heap.size (E0 X w3 τ d) (E0 X w5 τ d):=(up5 τ d).mono (by rw[K5];exact hsz3);exact (hbel3 τ d).trans (e5.trans (hbel' τ d))
end Go.Proofs.YtmfjakieahkacaaGreatDoor
