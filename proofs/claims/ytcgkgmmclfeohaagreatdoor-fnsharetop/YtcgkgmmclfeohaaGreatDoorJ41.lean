/- Frames walked beside leavers, 2: what is loaded; methods called. -/
import Derived.Test.YtcgkgmmclfeohaaGreatDoorJ39
import Derived.Test.YtcgkgmmclfeohaaGreatDoorJ38
import Derived.Test.YtcgkgmmclfeohaaGreatDoorJ32
set_option maxRecDepth 100000
set_option maxHeartbeats 4000000
namespace Go.Proofs.YtcgkgmmclfeohaaGreatDoor
open Go.Proofs.Tryz
open Go.Conc Go.ConcN Go.RowKit Go.Conc.Lib Go.ConcR.Gen Go.ConcN.Gen
open Go.ConcR (KK wgBlock WgAt stA smA rd wr mk Payload DC0)
section
variable {X0 X:Nat->Prop} {W0 V:World} {F:World->Prop} {Shun:Loc->Prop} {Post:Value->World->Prop} {f:Frame} {k:List Item} {cs:List Frame} {gs:Array Goroutine} {sl:Option (Nat×Nat)} {t:Trace} {n:Nat} {T:Array Value} {l:List (Nat×Value)} {ops:Array Oper} {i:Nat} {rest:List Nat} {o:Oper} {bx:Nat} {x1 x2:Value}
theorem X9{x:Operand}{d:Nat}(hI:F5 X0 W0 F X Shun V)(hh:G6 prog Shun gs (G (f.at ⟨T,[]⟩ (.inRegion ops (i::rest)::k)) cs) t)(hT:O1 n T l)(ho:ops[i]?=some o)(hw:Region.wanted o (yielded ops T)=true)(hk:f.kind=.normal)(hdst:o.dst=some d)(hop:o.op=.load 26 x)(hx:(⟨T,[]⟩:Act).eval x=Pz bx 0)(hc:∀u,F u->CB u bx [x1,x2])(hd:d<n)(hn:∀p∈l,p.1≠d)
  (kk:∀gs' sl' t' x T',G6 prog Shun gs' (G (f.at ⟨T',[]⟩ (.inRegion ops rest::k)) cs) t'->O1 n T' ((d,.agg #[x1,x2])::l)->E7 prog Post (crowd gs' (V.at x) sl') t'):E7 prog Post (crowd gs V sl) t:=by
 obtain⟨q0,q1,q2⟩:=hI.cell (a:=⟨bx,0,none⟩) (v:=x1) λu hu=>(hc u hu).1 0 _ rfl;obtain⟨p0,p1,p2⟩:=hI.cell (a:=⟨bx,1,none⟩) (v:=x2) λu hu=>(hc u hu).1 1 _ rfl;refine I6 V.heap.size hh hT ho hw hk hdst hd hn (λz=>?_) (λz e he=>?_) kk
 ·have c0:(V.at z).cell? ⟨bx,0,none⟩=some x1:=q0;have c1:(V.at z).cell? ⟨bx,1,none⟩=some x2:=p0;unfold execOp;rw[hop];simp only[hx];simp[go_sem,c0,c1]
 ·have c0:(V.at z).cell? ⟨bx,0,none⟩=some x1:=q0;have c1:(V.at z).cell? ⟨bx,1,none⟩=some x2:=p0;unfold execOp at he;rw[hop] at he;simp only[hx] at he;simp[go_sem,c0,c1] at he;rcases he with rfl|rfl
  ·exact X7 q1 q2
  ·exact X7 p1 p2
theorem AjV{x:Operand}{d:Nat}(hI:F5 X0 W0 F X Shun V)(hh:G6 prog Shun gs (G (f.at ⟨T,[]⟩ (.inRegion ops (i::rest)::k)) cs) t)(hT:O1 n T l)(ho:ops[i]?=some o)(hw:Region.wanted o (yielded ops T)=true)(hk:f.kind=.normal)(hdst:o.dst=some d)(hop:o.op=.load 60 x)(hx:(⟨T,[]⟩:Act).eval x=Pz bx 0)(hc:∀u,F u->CB u bx [x1,x2])(hd:d<n)(hn:∀p∈l,p.1≠d)
  (kk:∀gs' sl' t' x T',G6 prog Shun gs' (G (f.at ⟨T',[]⟩ (.inRegion ops rest::k)) cs) t'->O1 n T' ((d,.agg #[x1,x2])::l)->E7 prog Post (crowd gs' (V.at x) sl') t'):E7 prog Post (crowd gs V sl) t:=by
 obtain⟨q0,q1,q2⟩:=hI.cell (a:=⟨bx,0,none⟩) (v:=x1) λu hu=>(hc u hu).1 0 _ rfl;obtain⟨p0,p1,p2⟩:=hI.cell (a:=⟨bx,1,none⟩) (v:=x2) λu hu=>(hc u hu).1 1 _ rfl;refine I6 V.heap.size hh hT ho hw hk hdst hd hn (λz=>?_) (λz e he=>?_) kk
 ·have c0:(V.at z).cell? ⟨bx,0,none⟩=some x1:=q0;have c1:(V.at z).cell? ⟨bx,1,none⟩=some x2:=p0;unfold execOp;rw[hop];simp only[hx];simp[go_sem,c0,c1]
 ·have c0:(V.at z).cell? ⟨bx,0,none⟩=some x1:=q0;have c1:(V.at z).cell? ⟨bx,1,none⟩=some x2:=p0;unfold execOp at he;rw[hop] at he;simp only[hx] at he;simp[go_sem,c0,c1] at he;rcases he with rfl|rfl
  ·exact X7 q1 q2
  ·exact X7 p1 p2
variable {P:Program} {b:Frame} {a:Act}
theorem Zz(ρ:Operand->Value)(o:Oper){r:Operand}{name:String}{xs:Array Operand}{ats:Array TypeId}(hop:o.op=.call {callee:=.invoke r name,args:=xs,argTypes:=ats}):execOp ρ o=callMethod (ρ r) name ((#[ρ r]++xs.map ρ).extract 1 (#[ρ r]++xs.map ρ).size):=by
 unfold execOp;rw[hop];show (do let d ← resolve ρ _ o.type;invoke d.target d.args)=_
 have e:(#[ρ r]++xs.map ρ)[0]?=some (ρ r):=by rw[Array.getElem?_append_left (show 0 < #[ρ r].size from Nat.one_pos)];rfl
 show invoke (.fn (.method name) #[]) (#[ρ r]++xs.map ρ)=_
 unfold invoke;simp only[e]
theorem Ags{ops:Array Oper}{i:Nat}{rest:List Nat}{o:Oper}{r:Operand}{name:String}{xs:Array Operand}{ats:Array TypeId}{mf:FuncId}{vs:Array Value}(hh:G6 P Shun gs (G (b.at a (.inRegion ops (i::rest)::k)) cs) t)(ho:ops[i]?=some o)(hw:Region.wanted o (yielded ops a.tmps)=true)(hk:b.kind=.normal)(hop:o.op=.call {callee:=.invoke r name,args:=xs,argTypes:=ats})
  (hrun:∀w,(callMethod (a.eval r) name ((#[a.eval r]++xs.map a.eval).extract 1 (#[a.eval r]++xs.map a.eval).size)).runT P w #[]=(.ok (.enter mf vs) w,#[]))
  (kk:∀gs' sl' t' d,G6 P Shun gs' (G (Frame.enter P mf vs .normal) (b.at a (.inRegion ops (i::rest)::k)::cs)) t'->E7 P Post (crowd gs' (V.at d) sl') t'):E7 P Post (crowd gs V sl) t:=by
 have hs:∀w,stepG P true (G (b.at a (.inRegion ops (i::rest)::k)) cs) w=.go (G (Frame.enter P mf vs .normal) (b.at a (.inRegion ops (i::rest)::k)::cs)) w #[]:=λw=>by
  have h1:(execOp a.eval o).runT P w #[]=(.ok (.enter mf vs) w,#[]):=by rw[Zz _ _ hop];exact hrun w
  have h2:(execOp a.eval o).run P w=.ok (.enter mf vs) w:=by rw[← Sem.runT_fst P (execOp a.eval o) w #[],h1]
  rw[stepG_enter ho hw (by rw[hk];intro h;cases h) h2]
  have:listed P b.fn a o w=#[]:=by
   unfold listed Sem.events;rw[h1];exact seen_none P _
  rw[this]
 exact D9 hh rfl hs kk
theorem AjW{r:Operand}{name:String}{xs:Array Operand}{ats:Array TypeId}{mf:FuncId}{d:Nat}(vs:Array Value)(hh:G6 P Shun gs (G (b.at ⟨T,[]⟩ (.inRegion ops (i::rest)::k)) cs) t)(hT:O1 n T l)(ho:ops[i]?=some o)(hw:Region.wanted o (yielded ops T)=true)(hk:b.kind=.normal)(hdst:o.dst=some d)(hop:o.op=.call {callee:=.invoke r name,args:=xs,argTypes:=ats})
  (hrun:∀w,(callMethod (Act.eval ⟨T,[]⟩ r) name ((#[Act.eval ⟨T,[]⟩ r]++xs.map (Act.eval ⟨T,[]⟩)).extract 1 (#[Act.eval ⟨T,[]⟩ r]++xs.map (Act.eval ⟨T,[]⟩)).size)).runT P w #[]=(.ok (.enter mf vs) w,#[])) (hd:d<n) (hn:∀p∈l,p.1≠d) {R:Value->World->Prop}
  (hc:∀d,AB P mf vs X Shun (V.at d) R)
  (kk:∀X' Shun' gs' w' sl' t' v T',Y9 Shun' X'->(∀b,X' b->X b∨V.heap.size<=b)->G6 P Shun' gs' (G (b.at ⟨T',[]⟩ (.inRegion ops rest::k)) cs) t'->O1 n T' ((d,v)::l)->M1 X' w'->(∀τ d,R v (E0 X' w' τ d)/\Below V.heap.size (E0 X V τ d) (E0 X' w' τ d))->E7 P Post (crowd gs' w' sl') t'):E7 P Post (crowd gs V sl) t:=by
 refine Ags hh ho hw hk hop hrun λgs1 sl1 t1 d1 hh1=>?_;refine hc d1 Post _ cs gs1 sl1 t1 hh1 λX' Shun' gs' w' sl' t' v hX' hW' hh' hb' hR'=>?_;rw[Frame.finish_at,ho] at hh';simp only[Option.bind_some,hdst] at hh';exact kk X' Shun' gs' w' sl' t' v _ hX' hW' hh' (hT.put d v hd hn) hb' hR'
end
end Go.Proofs.YtcgkgmmclfeohaaGreatDoor
namespace Go.Proofs.YtcgkgmmclfeohaaGreatDoor
open Go.Proofs.Tryz
open Go.RowKit
theorem GF(T:Array Value)(h:T.size=53):∃v0 v1 v2 v3 v4 v5 v6 v7 v8 v9 v10 v11 v12 v13 v14 v15 v16 v17 v18 v19 v20 v21 v22 v23 v24 v25 v26 v27 v28 v29 v30 v31 v32 v33 v34 v35 v36 v37 v38 v39 v40 v41 v42 v43 v44 v45 v46 v47 v48 v49 v50 v51 v52:Value,T=#[v0,v1,v2,v3,v4,v5,v6,v7,v8,v9,v10,v11,v12,v13,v14,v15,v16,v17,v18,v19,v20,v21,v22,v23,v24,v25,v26,v27,v28,v29,v30,v31,v32,v33,v34,v35,v36,v37,v38,v39,v40,v41,v42,v43,v44,v45,v46,v47,v48,v49,v50,v51,v52]:=by
 obtain⟨l⟩:=T;simp only[List.size_toArray] at h;obtain⟨v0,l1,rfl,h1⟩:=E3 h;obtain⟨v1,l2,rfl,h2⟩:=E3 h1;obtain⟨v2,l3,rfl,h3⟩:=E3 h2;obtain⟨v3,l4,rfl,h4⟩:=E3 h3;obtain⟨v4,l5,rfl,h5⟩:=E3 h4;obtain⟨v5,l6,rfl,h6⟩:=E3 h5;obtain⟨v6,l7,rfl,h7⟩:=E3 h6;obtain⟨v7,l8,rfl,h8⟩:=E3 h7;obtain⟨v8,l9,rfl,h9⟩:=E3 h8;obtain⟨v9,e5,rfl,a0⟩:=E3 h9;obtain⟨v10,e6,rfl,a1⟩:=E3 a0;obtain⟨v11,e7,rfl,a2⟩:=E3 a1;obtain⟨v12,e8,rfl,a3⟩:=E3 a2;obtain⟨v13,e9,rfl,a4⟩:=E3 a3;obtain⟨v14,f0,rfl,a5⟩:=E3 a4;obtain⟨v15,f1,rfl,a6⟩:=E3 a5;obtain⟨v16,f2,rfl,a7⟩:=E3 a6;obtain⟨v17,f3,rfl,a8⟩:=E3 a7;obtain⟨v18,f4,rfl,a9⟩:=E3 a8;obtain⟨v19,f5,rfl,b0⟩:=E3 a9;obtain⟨v20,f6,rfl,b1⟩:=E3 b0;obtain⟨v21,f7,rfl,b2⟩:=E3 b1;obtain⟨v22,f8,rfl,b3⟩:=E3 b2;obtain⟨v23,f9,rfl,b4⟩:=E3 b3;obtain⟨v24,g0,rfl,b5⟩:=E3 b4;obtain⟨v25,g1,rfl,b6⟩:=E3 b5;obtain⟨v26,g2,rfl,b7⟩:=E3 b6;obtain⟨v27,g3,rfl,b8⟩:=E3 b7;obtain⟨v28,g4,rfl,b9⟩:=E3 b8;obtain⟨v29,g5,rfl,c1⟩:=E3 b9;obtain⟨v30,g6,rfl,c2⟩:=E3 c1;obtain⟨v31,g7,rfl,c3⟩:=E3 c2;obtain⟨v32,g8,rfl,c4⟩:=E3 c3;obtain⟨v33,g9,rfl,c5⟩:=E3 c4;obtain⟨v34,h0,rfl,c6⟩:=E3 c5;obtain⟨v35,i0,rfl,c7⟩:=E3 c6;obtain⟨v36,i1,rfl,c8⟩:=E3 c7;obtain⟨v37,i2,rfl,c9⟩:=E3 c8;obtain⟨v38,i3,rfl,d0⟩:=E3 c9;obtain⟨v39,i4,rfl,d1⟩:=E3 d0;obtain⟨v40,i5,rfl,d2⟩:=E3 d1;obtain⟨v41,i6,rfl,d3⟩:=E3 d2;obtain⟨v42,i7,rfl,d4⟩:=E3 d3;obtain⟨v43,i8,rfl,d5⟩:=E3 d4;obtain⟨v44,i9,rfl,d6⟩:=E3 d5;obtain⟨v45,j0,rfl,d7⟩:=E3 d6;obtain⟨v46,j1,rfl,d8⟩:=E3 d7;obtain⟨v47,j2,rfl,d9⟩:=E3 d8;obtain⟨v48,j3,rfl,e0⟩:=E3 d9;obtain⟨v49,j4,rfl,e1⟩:=E3 e0;obtain⟨v50,j5,rfl,e2⟩:=E3 e1;obtain⟨v51,j6,rfl,e3⟩:=E3 e2;obtain⟨v52,j7,rfl,e4⟩:=E3 e3;obtain rfl:=List.eq_nil_of_length_eq_zero e4;exact⟨_,_,_,_,_,_,_,_,_,_,_,_,_,_,_,_,_,_,_,_,_,_,_,_,_,_,_,_,_,_,_,_,_,_,_,_,_,_,_,_,_,_,_,_,_,_,_,_,_,_,_,_,_,rfl⟩
def pb(a:Act)(i:Nat):Nat:=match a.tmps[i]? with|some (.pointer (some p))=>p.block|_=>0
noncomputable def CW:Code:=Tryz.f144.body.getD .skip
noncomputable def Vn:Code:=match CW with | .seq r _=>r|_=>.skip
noncomputable def SW:Code:=match CW with | .seq _ (.seq r _)=>r|_=>.skip
noncomputable def SX:Code:=match CW with | .seq _ (.seq _ (.seq r _))=>r|_=>.skip
noncomputable def Br:Array Oper:=match CW with | .seq _ (.seq _ (.seq _ (.seq (.seq (.region _ o _) _) _)))=>o|_=>#[]
noncomputable def LW:Code:=match CW with | .seq _ (.seq _ (.seq _ (.seq (.seq _ r) _)))=>r|_=>.skip
noncomputable def JO:Code:=match CW with | .seq _ (.seq _ (.seq _ (.seq _ r)))=>r|_=>.skip
theorem Abq:CW=.seq Vn (.seq SW (.seq SX (.seq (.seq (.region 11 Br false) LW) JO))):=by simp only[Vn,SW,SX,Br,LW,JO,CW,Tryz.f144,Option.getD_some]
noncomputable def bQ:Frame:=Go.Conc.base 144
def slQ(av bv:Value):Array Value:=#[av,bv,undef,undef,undef,undef,undef,undef,undef,undef,undef,undef,undef,undef,undef,undef,undef,undef,undef,undef,undef,undef,undef,undef,undef,undef,undef,undef,undef,undef,undef,undef,undef,undef,undef,undef,undef,undef,undef,undef,undef,undef,undef,undef,undef,undef,undef,undef,undef,undef,undef,undef,undef]
theorem Agt(av bv:Value):Frame.enter prog 144 #[av,bv] .normal=bQ.at ⟨slQ av bv,[]⟩ [.code CW]:=by
 simp[Frame.enter,Frame.at,func144,bQ,Go.Conc.base,slQ,CW,Tryz.f144]
theorem SY:Cm prog bQ:=⟨rfl,_,func144⟩
theorem SZ:∀r∈[Vn,SW,SX,LW,JO],O0 prog (λg=>Fm.contains g) r=true:=by
 intro r hr;simp only[List.mem_cons,List.not_mem_nil,or_false] at hr;rcases hr with rfl|rfl|rfl|rfl|rfl<;>kernel_rfl
def Qb(av bvs:List Value)(a:Act)(u:World):Prop:=a.tmps.size=53/\a.tmps[2]?=some (.pointer (some ⟨pb a 2,0,none⟩))/\a.tmps[3]?=some (.pointer (some ⟨pb a 3,0,none⟩))/\CB u (pb a 2) av/\CB u (pb a 3) bvs
theorem Ta(av bvs:List Value)(a:Act):N6 (Qb av bvs a):=λ_ _ _ h=>h
section
variable {b:Bk} {nm:BA} {ls:List BA} {la:Option Addr} {lc:Nat} {a1 a2:Option Addr} {c1 c2:Nat}
theorem Agu(u:World):BG prog [Vn] (λe a u'=>e=.normal/\Qb [Tz nm,Vz la ls.length lc] [Vz a1 b.tg.length c1,Vz a2 b.bs.length c2] a u'/\Up u u') ⟨slQ (.agg #[Tz nm,Vz la ls.length lc]) (.agg #[Vz a1 b.tg.length c1,Vz a2 b.bs.length c2]),[]⟩ u:=by
 obtain⟨W1,a0,kA,kB,a3,a4⟩:=cbE2 u [Tz nm,Vz la ls.length lc] 60 [Vz a1 b.tg.length c1,Vz a2 b.bs.length c2] 26;simp only[Vn,slQ,CW,Tryz.f144,Option.getD_some];apply Al;intro K hK
 go_wp2_with fail;try rw[a0]
 exact⟨rfl,⟨rfl,rfl,rfl,kA,kB⟩,a3⟩
variable {x2 x3:Nat}
theorem ZA(v0 v1 v4 v5 v6 v7 v8 v9 v10 v11 v12 v13 v14 v15 v16 v17 v18 v19 v20 v21 v22 v23 v24 v25 v26 v27 v28 v29 v30 v31 v32 v33 v34 v35 v36 v37 v38 v39 v40 v41 v42 v43 v44 v45 v46 v47 v48 v49 v50 v51 v52:Value)(u:World)(h:K6 u (.agg #[Vz a1 b.tg.length c1,Vz a2 b.bs.length c2]) b)(hok:I8 b)(hl:Ls u (Vz la ls.length lc) ls)(kA:CB u x2 [Tz nm,Vz la ls.length lc])(kB:CB u x3 [Vz a1 b.tg.length c1,Vz a2 b.bs.length c2]){Q:Exit->Act->World->Prop}
  (HN:Hid (O8 b nm ls=0->∀(a:Act)(u':World),a.defers=[]->a.tmps.size=53->a.tmps[2]?=some (Pz x2 0)->a.tmps[3]?=some (Pz x3 0)->Up u u'->Q .normal a u'))
  (HR:Hid (O8 b nm ls≠0->∀(a:Act)(u':World),a.defers=[]->a.tmps.getD 4 undef=Y4 (O8 b nm ls)->Up u u'->Q .ret a u')):SW.wp prog Q ⟨#[v0,v1,Pz x2 0,Pz x3 0,v4,v5,v6,v7,v8,v9,v10,v11,v12,v13,v14,v15,v16,v17,v18,v19,v20,v21,v22,v23,v24,v25,v26,v27,v28,v29,v30,v31,v32,v33,v34,v35,v36,v37,v38,v39,v40,v41,v42,v43,v44,v45,v46,v47,v48,v49,v50,v51,v52],[]⟩ u:=by
 simp only[SW,CW,Tryz.f144,Option.getD_some];obtain⟨e0,e1⟩:=kA.c2';obtain⟨d0,d1⟩:=kB.c2';go_wp2_with fail;refine (IH b _ nm _ ls _ h hok hl).mono ?_;rintro e w2 ⟨rfl,a3⟩;clear d0 d1 e0 e1 kA kB;by_cases hc:O8 b nm ls=0
 ·have HN0:=HN.out hc;have HN1:Hid (∀(a:Act)(u':World),a.defers=[]->a.tmps.size=53->a.tmps[2]?=some (Pz x2 0)->a.tmps[3]?=some (Pz x3 0)->Up u u'->Q .normal a u'):=HN0;clear HN0 HN HR;rw[hc,Pw];clear hc;go_wp2_with fail;exact HN1.out _ _ rfl rfl rfl rfl a3
 ·have HR0:=HR.out hc;have a0:Y4 (O8 b nm ls)=.iface 91 (.agg #[Iz (O8 b nm ls)]):=Px hc;rw[a0] at HR0;have HR1:Hid (∀(a:Act)(u':World),a.defers=[]->a.tmps.getD 4 undef=.iface 91 (.agg #[Iz (O8 b nm ls)])->Up u u'->Q .ret a u'):=HR0;clear HR0 HN HR;rw[a0];clear a0;generalize O8 b nm ls=c0 at *;clear hc;go_wp2_with fail
  (try simp only[Exit.inBlock,Exit.then])
  exact HR1.out _ _ rfl rfl a3
theorem ZB(v0 v1 v4 v5 v6 v7 v8 v9 v10 v11 v12 v13 v14 v15 v16 v17 v18 v19 v20 v21 v22 v23 v24 v25 v26 v27 v28 v29 v30 v31 v32 v33 v34 v35 v36 v37 v38 v39 v40 v41 v42 v43 v44 v45 v46 v47 v48 v49 v50 v51 v52:Value)(u:World)(h:K6 u (.agg #[Vz a1 b.tg.length c1,Vz a2 b.bs.length c2]) b)(hok:I8 b)(hl:Ls u (Vz la ls.length lc) ls)(kA:CB u x2 [Tz nm,Vz la ls.length lc])(kB:CB u x3 [Vz a1 b.tg.length c1,Vz a2 b.bs.length c2])(hc:O8 b nm ls=0){Q:Exit->Act->World->Prop}
  (HN:Hid (¬Z8 b.bs (F3 b nm:Int) ls->∀(a:Act)(u':World),a.defers=[]->a.tmps.size=53->a.tmps[2]?=some (Pz x2 0)->a.tmps[3]?=some (Pz x3 0)->Up u u'->Q .normal a u'))
  (HR:Hid (Z8 b.bs (F3 b nm:Int) ls->∀(a:Act)(u':World),a.defers=[]->a.tmps.getD 4 undef=.iface 91 (.agg #[Iz 5])->Up u u'->Q .ret a u')):SX.wp prog Q ⟨#[v0,v1,Pz x2 0,Pz x3 0,v4,v5,v6,v7,v8,v9,v10,v11,v12,v13,v14,v15,v16,v17,v18,v19,v20,v21,v22,v23,v24,v25,v26,v27,v28,v29,v30,v31,v32,v33,v34,v35,v36,v37,v38,v39,v40,v41,v42,v43,v44,v45,v46,v47,v48,v49,v50,v51,v52],[]⟩ u:=by
 obtain⟨-,-,-,a9,b0,-⟩:=id hl;unfold maxLen at a9;have hm:=Eo hc;have Htk:Hid (Z8 b.bs (F3 b nm:Int) ls↔∃s∈ls,Ey b nm s):=Zt hok hm;have b3:=Fz hok hc;clear hc;simp only[SX,CW,Tryz.f144,Option.getD_some];obtain⟨e0,e1⟩:=kA.c2';obtain⟨-,-,a3⟩:=hl.inv;go_wp2_with fail;(try dsimp only[Iz,Sz,Sy,Nz,Vz,Tz,Ez,Pz]);go_loopw [22] (λi w'=>∃k:Nat,k<=ls.length/\i=.int .i64 (k:Int)/\(∀(j:Nat)(s:BA),j<k->ls[j]?=some s->¬Ey b nm s)/\Up u w') (λi _=>ls.length-(intOf i).toNat)
 case atStart=>exact⟨0,by omega,rfl,λj s hj=>by omega,A4 _ _⟩
 case round =>
  obtain⟨k,hk,rfl,a5,hB⟩:=hrel;have Hno:Hid (∀(j:Nat)(s:BA),j<k->ls[j]?=some s->¬Ey b nm s):=a5;clear a5;by_cases hp:k<ls.length
  ·obtain⟨bb,o,rfl,hS,b1⟩:=a3 (by omega);have c0:=(hS.up hB b1).cell hp;have b2:=b0 ls[k] (by simp)
   have Hstep:Hid (¬Ey b nm ls[k]->∀(j:Nat)(s:BA),j<k+1->ls[j]?=some s->¬Ey b nm s):=λhn=>by
    intro j s hj hs;by_cases e:j=k
    ·subst e;rw[A0 hp] at hs;obtain rfl:=A5 hs;exact hn
    ·exact Hno.out j s (by omega) hs
   have H5:Hid (Ey b nm ls[k]->Z8 b.bs (F3 b nm:Int) ls):=λho=>Htk.out.2 ⟨_,List.getElem_mem hp,ho⟩;generalize ls[k]=s0 at *;have a6:=kB.up hB kB.2.2;have a7:=kA.up hB kA.2.2;obtain⟨d0,d1⟩:=a6.c2';go_wp2_with fail;refine (Adi b _ s0 _ (h.up hB) b2).mono ?_;rintro e w3 ⟨rfl,a4⟩;rw[Kl,if_pos (show J6 b=true from Au hok)];have a0:=D4 hB a4;have a8:=a7.up a4 (by have:=hB.size;have:=kA.2.2;omega);obtain⟨f0,f1⟩:=a8.c2';have Hot:Hid (Ey b nm s0↔Ei b.bs s0≠⟨#[]⟩/\Ei b.bs s0≠nm):=Iff.rfl;generalize Ei b.bs s0=wh at *;clear c0 d0 d1 a6 a7 a8 hB a4;by_cases q1:wh=⟨#[]⟩
   ·have HX':Hid (∀(j:Nat)(s:BA),j<k+1->ls[j]?=some s->¬Ey b nm s):=Hstep.out λho=>(Hot.out.1 ho).1 q1;subst q1;clear Hot;go_wp2_with fail;go_roundw
    case rel=>exact⟨k+1,by omega,by go_num,HX'.out,a0⟩
    case measure=>simp[intOf];omega
   by_cases q2:wh=nm
   ·have HX':Hid (∀(j:Nat)(s:BA),j<k+1->ls[j]?=some s->¬Ey b nm s):=Hstep.out λho=>(Hot.out.1 ho).2 q2;rw[q2] at q1 ⊢
    have t1:¬nm.toList=[]:=λe=>q1 (ST e);clear Hot;go_wp2_with fail;go_roundw
    case rel=>exact⟨k+1,by omega,by go_num,HX'.out,a0⟩
    case measure=>simp[intOf];omega
   ·have HV:Hid (Z8 b.bs (F3 b nm:Int) ls):=H5.out (Hot.out.2 ⟨q1,q2⟩);have t1:¬wh.toList=[]:=λe=>q1 (ST e)
    have t2:(!wh.toList.isEmpty)=true:=by cases hx:wh.toList with
     | nil=>exact absurd hx t1
     | cons _ _=>rfl
    have t3:(!wh.toList==nm.toList)=true:=by
     cases hx:(wh.toList==nm.toList)
     ·rfl
     ·exact absurd (GM (by simpa using hx)) q2
    clear Hot;have HR0:Hid (∀(a:Act)(u':World),a.defers=[]->a.tmps.getD 4 undef=.iface 91 (.agg #[Iz 5])->Up u u'->Q .ret a u'):=HR.out HV.out;clear HR HN;go_wp2_with fail
    all_goals
     first
      | ((try simp only[Exit.inBlock,Exit.then]);exact HR0.out _ _ rfl rfl a0)
      | (exfalso;simp_all)
  ·obtain rfl:k=ls.length:=by omega
   have HN0:Hid (∀(a:Act)(u':World),a.defers=[]->a.tmps.size=53->a.tmps[2]?=some (Pz x2 0)->a.tmps[3]?=some (Pz x3 0)->Up u u'->Q .normal a u'):=HN.out λht=>by
    obtain⟨s,hs,ho⟩:=Htk.out.1 ht;obtain⟨i,hi,rfl⟩:=B7 hs;exact Hno.out i _ hi (A0 hi) ho
   clear HN HR;go_wp2_with fail
   (try simp only[Exit.inBlock,Exit.then])
   exact HN0.out _ _ rfl rfl rfl rfl hB
end
end Go.Proofs.YtcgkgmmclfeohaaGreatDoor
namespace Go.Proofs.YtcgkgmmclfeohaaGreatDoor
open Go.Proofs.Tryz
open Go.Conc Go.ConcN Go.RowKit Go.Conc.Lib Go.ConcR.Gen Go.ConcN.Gen
open Go.ConcR (KK wgBlock WgAt stA smA rd wr mk Payload DC0)
theorem q_0:∃o,Br[0]?=some o/\(o.op=.load 26 (.tmp 3))/\o.dst=some 41/\o.guard=none:=⟨_,rfl,rfl,rfl,rfl⟩
theorem q_1:∃o,Br[1]?=some o/\(∃ats,o.op=.call {callee:=.value (.func 15),args:=#[.tmp 41],argTypes:=ats})/\o.dst=some 42/\o.guard=none:=⟨_,rfl,⟨_,rfl⟩,rfl,rfl⟩
theorem q_2:∃o,Br[2]?=some o/\(o.op=.move (.tmp 42))/\o.dst=some 43/\o.guard=none:=⟨_,rfl,rfl,rfl,rfl⟩
theorem q_3:∃o,Br[3]?=some o/\(o.op=.load 26 (.tmp 3))/\o.dst=some 44/\o.guard=some (2,true):=⟨_,rfl,rfl,rfl,rfl⟩
theorem q_4:∃o,Br[4]?=some o/\(o.op=.load 60 (.tmp 2))/\o.dst=some 45/\o.guard=some (2,true):=⟨_,rfl,rfl,rfl,rfl⟩
theorem q_5:∃o,Br[5]?=some o/\(o.op=.makeInterface 60 (.tmp 45))/\o.dst=some 46/\o.guard=some (2,true):=⟨_,rfl,rfl,rfl,rfl⟩
theorem q_6:∃o,Br[6]?=some o/\(∃ats,o.op=.call {callee:=.value (.func 61),args:=#[.tmp 44,.tmp 46],argTypes:=ats})/\o.dst=some 47/\o.guard=some (2,true):=⟨_,rfl,⟨_,rfl⟩,rfl,rfl⟩
theorem q_7:∃o,Br[7]?=some o/\(∃ats,o.op=.call {callee:=.value (.func 15),args:=#[.tmp 47],argTypes:=ats})/\o.dst=some 48/\o.guard=some (2,true):=⟨_,rfl,⟨_,rfl⟩,rfl,rfl⟩
theorem q_8:∃o,Br[8]?=some o/\(∃ty,o.op=.unOp .not ty (.tmp 48))/\o.dst=some 49/\o.guard=some (2,true):=⟨_,rfl,⟨_,rfl⟩,rfl,rfl⟩
theorem q_9:∃o,Br[9]?=some o/\(o.op=.pick (.tmp 43) (.tmp 49) (.const (.bool false)))/\o.dst=some 50/\o.guard=none:=⟨_,rfl,rfl,rfl,rfl⟩
theorem AdS:Br.size=10:=rfl
theorem Agv:∃x,LW=.cond (.tmp 50) x .skip:=⟨_,rfl⟩
theorem EA{T:Array Value}{o:Oper}{n:Nat}{t t':Bool}{l:List (Nat×Value)}(hg:o.guard=some (2,t))(hT:O1 n T l)(hm:(43,.bool t')∈l):Region.wanted o (yielded Br T)=(t'==t) :=
 let ⟨_,h1,_,h2,_⟩:=q_2
 AbW hg h1 h2 (hT.get 43 _ hm)
section
variable {b:Bk} {nm:BA} {ls:List BA} {la:Option Addr} {lc:Nat} {a1 a2:Option Addr} {c1 c2:Nat} {x2 x3:Nat}
theorem Agw(v0 v1 v2 v3 v4 v5 v6 v7 v8 v9 v10 v11 v12 v13 v14 v15 v16 v17 v18 v19 v20 v21 v22 v23 v24 v25 v26 v27 v28 v29 v30 v31 v32 v33 v34 v35 v36 v37 v38 v39 v40 v41 v42 v43 v44 v45 v46 v47 v48 v49 v51 v52:Value)(u:World){Q:Exit->Act->World->Prop}(HR:Hid (∀(a:Act),a.defers=[]->a.tmps.getD 4 undef=.iface 91 (.agg #[Iz 6])->Q .ret a u)):LW.wp prog Q ⟨#[v0,v1,v2,v3,v4,v5,v6,v7,v8,v9,v10,v11,v12,v13,v14,v15,v16,v17,v18,v19,v20,v21,v22,v23,v24,v25,v26,v27,v28,v29,v30,v31,v32,v33,v34,v35,v36,v37,v38,v39,v40,v41,v42,v43,v44,v45,v46,v47,v48,v49,.bool true,v51,v52],[]⟩ u:=by
 simp only[LW,CW,Tryz.f144,Option.getD_some];go_wp2_with fail
 (try simp only[Exit.inBlock,Exit.then])
 exact HR.out _ rfl rfl
theorem AdT(v0 v1 v2 v3 v4 v5 v6 v7 v8 v9 v10 v11 v12 v13 v14 v15 v16 v17 v18 v19 v20 v21 v22 v23 v24 v25 v26 v27 v28 v29 v30 v31 v32 v33 v34 v35 v36 v37 v38 v39 v40 v41 v42 v43 v44 v45 v46 v47 v48 v49 v50 v51 v52:Value)(u:World){Q:Exit->Act->World->Prop}(HR:Hid (∀(a:Act),a.defers=[]->a.tmps.getD 4 undef=.nilIface->Q .ret a u)):JO.wp prog Q ⟨#[v0,v1,v2,v3,v4,v5,v6,v7,v8,v9,v10,v11,v12,v13,v14,v15,v16,v17,v18,v19,v20,v21,v22,v23,v24,v25,v26,v27,v28,v29,v30,v31,v32,v33,v34,v35,v36,v37,v38,v39,v40,v41,v42,v43,v44,v45,v46,v47,v48,v49,v50,v51,v52],[]⟩ u:=by
 simp only[JO,CW,Tryz.f144,Option.getD_some];go_wp2_with fail
 (try simp only[Exit.inBlock,Exit.then])
 exact HR.out _ rfl rfl
theorem AlH{tmps:Array Value}{u:World}{v:Value}(h:tmps.getD 4 undef=v):(results Tryz.f144 tmps).run prog u=.ok v u:=by
 rw[← h];exact results_tmp rfl _ _ _
theorem WZ{a:Act}{u:World}{v:Value}{R:Value->World->Prop}(hd:a.defers=[])(h:a.tmps.getD 4 undef=v)(hR:R v u):EF prog Tryz.f144 R .ret a u:=Eb (AlH h) hd hR
end
section
variable {X0 X:Nat->Prop} {W0 V:World} {F:World->Prop} {Shun:Loc->Prop}
theorem OW{av bvs:List Value}{a:Act}(h:F5 X0 W0 (λu=>F u/\Qb av bvs a u) X Shun V):∃x2 x3,a.tmps.size=53/\a.tmps[2]?=some (Pz x2 0)/\a.tmps[3]?=some (Pz x3 0)/\F5 X0 W0 (λu=>F u/\CB u x2 av/\CB u x3 bvs) X Shun V:=by
 have h0:=(h.hold (λ_ _=>0) 0).2;exact⟨pb a 2,pb a 3,h0.1,h0.2.1,h0.2.2.1,h.mono λu hu=>⟨hu.1,hu.2.2.2.2.1,hu.2.2.2.2.2⟩⟩
theorem JQ{a:Act}{i x:Nat}(h:a.tmps[i]?=some (Pz x 0)):pb a i=x:=by simp[pb,h]
theorem ZC{av bvs:List Value}{a:Act}{u:World}{x2 x3:Nat}(h1:a.tmps.size=53)(h2:a.tmps[2]?=some (Pz x2 0))(h3:a.tmps[3]?=some (Pz x3 0))(k2:CB u x2 av)(k3:CB u x3 bvs):Qb av bvs a u:=by
 unfold Qb;rw[JQ h2,JQ h3];exact⟨h1,h2,h3,k2,k3⟩
end
section
variable {b:Bk} {nm:BA} {ls:List BA} {la:Option Addr} {lc:Nat} {a1 a2:Option Addr} {c1 c2:Nat} {x2 x3:Nat} {X0 X:Nat->Prop} {W0 V:World} {Shun:Loc->Prop} {Post:Value->World->Prop} {c:Frame} {cs:List Frame} {gs:Array Goroutine} {sl:Option (Nat×Nat)} {t:Trace} {T:Array Value}
theorem NR:S2 (λu=>(K6 u (.agg #[Vz a1 b.tg.length c1,Vz a2 b.bs.length c2]) b/\Ls u (Vz la ls.length lc) ls)/\CB u x2 [Tz nm,Vz la ls.length lc]/\CB u x3 [Vz a1 b.tg.length c1,Vz a2 b.bs.length c2]):=⟨λ_ _ h hb=>⟨⟨h.1.1.up hb,h.1.2.up hb⟩,h.2.1.up hb h.2.1.2.2,h.2.2.up hb h.2.2.2.2⟩,λ_ _ _ h=>h⟩
theorem Agx(w:World)(v:Value):(Instr.makeInterface 60 v).events prog w #[]=#[]:=by kernel_rfl
theorem Agy(ok:Bool)(hr:Y4 (Bq b nm ls)=if ok then .iface 91 (.agg #[Iz 6]) else .nilIface)(hI:F5 X0 W0 (λu=>(K6 u (.agg #[Vz a1 b.tg.length c1,Vz a2 b.bs.length c2]) b/\Ls u (Vz la ls.length lc) ls)/\CB u x2 [Tz nm,Vz la ls.length lc]/\CB u x3 [Vz a1 b.tg.length c1,Vz a2 b.bs.length c2]) X Shun V)(hT:O1 53 T [(50,.bool ok)])(hh:G6 prog Shun gs (G (bQ.at ⟨T,[]⟩ [.inRegion Br [],.code LW,.code JO]) (c::cs)) t)
  (kk:∀gs V sl t v,G6 prog Shun gs (G (c.finish v) cs) t->F5 X0 W0 (λ_=>v=Y4 (Bq b nm ls)) X Shun V->E7 prog Post (crowd gs V sl) t):E7 prog Post (crowd gs V sl) t:=by
 refine D9 hh rfl (λw=>stepG_region_end) λgs sl t dd hh=>?_;replace hI:=hI.at dd;cases ok with
 | true =>
  refine Ex R4 (SZ LW (by simp)) SY rfl func144 hI (R:=λv _=>v=Y4 (Bq b nm ls)) (λ_ _ _ _ h=>h) (λu hu _=>?_) hh kk;have a0:=hT.get 50 (.bool true) (by simp);obtain⟨v0,v1,v2,v3,v4,v5,v6,v7,v8,v9,a3,a4,a5,a6,a7,a8,a9,b0,b1,b2,b3,b4,b5,b6,b7,b8,b9,c3,c4,c5,c6,c7,c8,c9,d0,d1,d2,d3,d4,d5,d6,d7,d8,d9,e0,e1,e2,e3,e4,e5,e6,e7,e8,rfl⟩:=GF T hT.1;simp only[List.getElem?_toArray,List.getElem?_cons_succ,List.getElem?_cons_zero,Option.some.injEq] at a0;subst a0;exact Agw _ _ _ _ _ _ _ _ _ _ _ _ _ _ _ _ _ _ _ _ _ _ _ _ _ _ _ _ _ _ _ _ _ _ _ _ _ _ _ _ _ _ _ _ _ _ _ _ _ _ _ _ u (show Hid _ from λa hd h4=>WZ hd h4 ⟨by rw[hr];rfl,A4 _ _⟩)
 | false =>
  obtain⟨x,hx⟩:=Agv;rw[hx] at hh;refine D9 hh rfl (λw=>stepG_cond (t:=false) (hT.ev 50 (.bool false) (by simp))) λgs sl t dd hh=>?_;replace hI:=hI.at dd;refine D9 hh rfl (λw=>stepG_skip) λgs sl t dd hh=>?_;replace hI:=hI.at dd;refine Ex R4 (SZ JO (by simp)) SY rfl func144 hI (R:=λv _=>v=Y4 (Bq b nm ls)) (λ_ _ _ _ h=>h) (λu hu _=>?_) hh kk;obtain⟨v0,v1,v2,v3,v4,v5,v6,v7,v8,v9,a3,a4,a5,a6,a7,a8,a9,b0,b1,b2,b3,b4,b5,b6,b7,b8,b9,c3,c4,c5,c6,c7,c8,c9,d0,d1,d2,d3,d4,d5,d6,d7,d8,d9,e0,e1,e2,e3,e4,e5,e6,e7,e8,rfl⟩:=GF T hT.1;exact AdT _ _ _ _ _ _ _ _ _ _ _ _ _ _ _ _ _ _ _ _ _ _ _ _ _ _ _ _ _ _ _ _ _ _ _ _ _ _ _ _ _ _ _ _ _ _ _ _ _ _ _ _ _ u (show Hid _ from λa hd h4=>WZ hd h4 ⟨by rw[hr];rfl,A4 _ _⟩)
theorem Abr(hok:I8 b)(hc:O8 b nm ls=0)(ht:¬Z8 b.bs (F3 b nm:Int) ls)(hI:F5 X0 W0 (λu=>(K6 u (.agg #[Vz a1 b.tg.length c1,Vz a2 b.bs.length c2]) b/\Ls u (Vz la ls.length lc) ls)/\CB u x2 [Tz nm,Vz la ls.length lc]/\CB u x3 [Vz a1 b.tg.length c1,Vz a2 b.bs.length c2]) X Shun V)(hT:O1 53 T [(2,Pz x2 0),(3,Pz x3 0)])(hh:G6 prog Shun gs (G (bQ.at ⟨T,[]⟩ [.code (.region 11 Br false),.code LW,.code JO]) (c::cs)) t)
  (kk:∀X' Shun' gs V sl t v,G6 prog Shun' gs (G (c.finish v) cs) t->F5 X0 W0 (λ_=>v=Y4 (Bq b nm ls)) X' Shun' V->E7 prog Post (crowd gs V sl) t):E7 prog Post (crowd gs V sl) t:=by
 have hR:=Ge hc ht;refine D9 hh rfl (λw=>stepG_region) λgs sl t dd hh=>?_;replace hI:=hI.at dd;rw[AdS] at hh;change G6 prog Shun gs (G (bQ.at ⟨T,[]⟩ [.inRegion Br [0,1,2,3,4,5,6,7,8,9],.code LW,.code JO]) (c::cs)) t at hh
 obtain⟨o,ho,a3,a0,hg⟩:=q_0;refine X9 hI hh hT ho (D6 hg _) rfl a0 a3 (hT.ev 3 (Pz x3 0) (by simp)) (λu hu=>hu.2.2) (by omega) (by simp) λgs sl t dd T hh hT=>?_;replace hI:=hI.at dd;obtain⟨o,ho,a3,a0,hg⟩:=q_1;obtain⟨a7,a3⟩:=a3;refine DL (X:=X) #[.agg #[Vz a1 b.tg.length c1,Vz a2 b.bs.length c2]] hh hT ho (D6 hg _) rfl a0 a3 func15 (by kernel_rfl) rfl (by simp[hT.ev 41 (.agg #[Vz a1 b.tg.length c1,Vz a2 b.bs.length c2]) (by simp)]) (by omega) (by simp) (λd=>Ny (b:=b) hI.hX (hI.base.at d) (λτ d=>(hI.hold τ d).1.1)) λX1 Shun1 gs V1 sl t v T hX1 hW1 hh hT hb1 hR1=>?_;obtain⟨ss,ok,rfl,a4⟩:=(hR1 (λ_ _=>0) 0).1;replace hI:=hI.up NR hX1 hb1 hW1 λτ d=>(hR1 τ d).2;rw[← DM a4] at hR;clear hR1 hW1 hb1 hX1 a3 ho a0 hg o a4 ss;obtain⟨o,ho,a3,a0,hg⟩:=q_2;refine J4 hh hT ho (D6 hg _) rfl a0 (.inl a3) (hT.ev 42 (.bool ok) (by simp)) (by omega) (by simp) λgs sl t dd T hh hT=>?_;replace hI:=hI.at dd;clear a3 ho a0 hg o;cases ok with
 | false =>
  obtain⟨o,ho,a3,a0,hg⟩:=q_3;refine Er hh hT ho (by rw[EA hg hT (t':=false) (by simp)];rfl) a0 (by omega) (by simp) λgs sl t dd T hh hT=>?_;replace hI:=hI.at dd;obtain⟨o,ho,a3,a0,hg⟩:=q_4;refine Er hh hT ho (by rw[EA hg hT (t':=false) (by simp)];rfl) a0 (by omega) (by simp) λgs sl t dd T hh hT=>?_;replace hI:=hI.at dd;obtain⟨o,ho,a3,a0,hg⟩:=q_5;refine Er hh hT ho (by rw[EA hg hT (t':=false) (by simp)];rfl) a0 (by omega) (by simp) λgs sl t dd T hh hT=>?_;replace hI:=hI.at dd;obtain⟨o,ho,a3,a0,hg⟩:=q_6;refine Er hh hT ho (by rw[EA hg hT (t':=false) (by simp)];rfl) a0 (by omega) (by simp) λgs sl t dd T hh hT=>?_;replace hI:=hI.at dd;obtain⟨o,ho,a3,a0,hg⟩:=q_7;refine Er hh hT ho (by rw[EA hg hT (t':=false) (by simp)];rfl) a0 (by omega) (by simp) λgs sl t dd T hh hT=>?_;replace hI:=hI.at dd;obtain⟨o,ho,a3,a0,hg⟩:=q_8;refine Er hh hT ho (by rw[EA hg hT (t':=false) (by simp)];rfl) a0 (by omega) (by simp) λgs sl t dd T hh hT=>?_;replace hI:=hI.at dd;obtain⟨o,ho,a3,a0,hg⟩:=q_9;refine I6 (v:=.bool false) 0 hh hT ho (D6 hg _) rfl a0 (by omega) (by simp) (λd=>?_) (λd e he=>?_) λgs sl t dd T hh hT=>?_
  ·unfold execOp;rw[a3];simp only[hT.ev 43 (.bool false) (by simp)];simp[go_sem,Act.eval]
  ·unfold execOp at he;rw[a3] at he;simp only[hT.ev 43 (.bool false) (by simp)] at he;simp[go_sem] at he
  exact Agy false (by rw[hR];rfl) (hI.at dd) (hT.sub (by simp)) hh λgs V sl t v=>kk _ _ gs V sl t v
 | true =>
  obtain⟨o,ho,a3,a0,hg⟩:=q_3;refine X9 hI hh hT ho (by rw[EA hg hT (t':=true) (by simp)];rfl) rfl a0 a3 (hT.ev 3 (Pz x3 0) (by simp)) (λu hu=>hu.2.2) (by omega) (by simp) λgs sl t dd T hh hT=>?_;replace hI:=hI.at dd;obtain⟨o,ho,a3,a0,hg⟩:=q_4;refine AjV hI hh hT ho (by rw[EA hg hT (t':=true) (by simp)];rfl) rfl a0 a3 (hT.ev 2 (Pz x2 0) (by simp)) (λu hu=>hu.2.1) (by omega) (by simp) λgs sl t dd T hh hT=>?_;replace hI:=hI.at dd;obtain⟨o,ho,a3,a0,hg⟩:=q_5;refine I6 (v:=.iface 60 (.agg #[Tz nm,Vz la ls.length lc])) 0 hh hT ho (by rw[EA hg hT (t':=true) (by simp)];rfl) rfl a0 (by omega) (by simp) (λd=>?_) (λd e he=>?_) λgs sl t dd T hh hT=>?_
  ·unfold execOp;rw[a3];simp only[hT.ev 45 (.agg #[Tz nm,Vz la ls.length lc]) (by simp)];simp[go_sem]
  ·unfold execOp at he;rw[a3] at he;simp only[hT.ev 45 (.agg #[Tz nm,Vz la ls.length lc]) (by simp)] at he;simp[go_sem] at he;rw[Agx] at he;simp at he
  replace hI:=hI.at dd;clear a3 ho a0 hg o;have hm:=Eo hc;have a8:=Ja hc;have a9:=Fz hok hc;obtain⟨o,ho,a3,a0,hg⟩:=q_6;obtain⟨a7,a3⟩:=a3;refine Es R4 hI.hX hI.base #[.agg #[Vz a1 b.tg.length c1,Vz a2 b.bs.length c2],.iface 60 (.agg #[Tz nm,Vz la ls.length lc])] hh hT ho (by rw[EA hg hT (t':=true) (by simp)];rfl) rfl a0 a3 func61 (by kernel_rfl) rfl (by kernel_rfl) (by simp[hT.ev 44 (.agg #[Vz a1 b.tg.length c1,Vz a2 b.bs.length c2]) (by simp),hT.ev 46 (.iface 60 (.agg #[Tz nm,Vz la ls.length lc])) (by simp)]) (by omega) (by simp) (R:=λv u=>K6 u v (X8 b (F3 b nm) (P7 ls))) (λ_ _ _ _ h=>h) (λτ d=>(LV b _ nm _ ls (E0 X1 _ τ d) (hI.hold τ d).1.1 (hI.hold τ d).1.2 (by omega) hok a8 hm).mono ?_) λgs V2 sl t v T hh hT hb2 hR2=>?_
  ·rintro e u' ⟨⟨u,rfl,hu⟩,hb⟩;have a6:∀s∈ls,s.size<=maxLen:=by obtain⟨-,-,-,-,a6,-⟩:=(hI.hold τ d).1.2;exact a6
   exact⟨⟨u,rfl,hu.w.bk (Vh (hI.hold τ d).1.1.szb a6)⟩,hb⟩
  have a5:=hI.up NR hI.hX hb2 (λk hk=>.inl hk) λτ d=>(hR2 τ d).2;obtain⟨o,ho,a3,a0,hg⟩:=q_7;obtain⟨a7,a3⟩:=a3;refine DL (X:=X1) #[v] hh hT ho (by rw[EA hg hT (t':=true) (by simp)];rfl) rfl a0 a3 func15 (by kernel_rfl) rfl (by simp[hT.ev 47 v (by simp)]) (by omega) (by simp) (λd=>Ny (b:=X8 b (F3 b nm) (P7 ls)) a5.hX (a5.base.at d) (λτ d=>(hR2 τ d).1)) λX3 Shun3 gs V3 sl t v3 T hX3 hW3 hh hT hb3 hR3=>?_;obtain⟨ss,Hd,rfl,a4⟩:=(hR3 (λ_ _=>0) 0).1;replace hI:=a5.up NR hX3 hb3 hW3 λτ d=>(hR3 τ d).2;rw[← DM a4] at hR;clear hR3 hW3 hb3 hX3 a3 ho a0 hg o a4 ss a5 hR2 hb2;obtain⟨o,ho,a3,a0,hg⟩:=q_8;obtain⟨ty,a3⟩:=a3;refine I6 (v:=.bool (!Hd)) 0 hh hT ho (by rw[EA hg hT (t':=true) (by simp)];rfl) rfl a0 (by omega) (by simp) (λd=>?_) (λd e he=>?_) λgs sl t dd T hh hT=>?_
  ·unfold execOp;rw[a3];simp only[hT.ev 48 (.bool Hd) (by simp)];simp[go_sem]
  ·unfold execOp at he;rw[a3] at he;simp only[hT.ev 48 (.bool Hd) (by simp)] at he;simp[go_sem] at he
  replace hI:=hI.at dd;obtain⟨o,ho,a3,a0,hg⟩:=q_9;refine I6 (v:=.bool (!Hd)) 0 hh hT ho (D6 hg _) rfl a0 (by omega) (by simp) (λd=>?_) (λd e he=>?_) λgs sl t dd T hh hT=>?_
  ·unfold execOp;rw[a3];simp only[hT.ev 43 (.bool true) (by simp),hT.ev 49 (.bool (!Hd)) (by simp)];simp[go_sem]
  ·unfold execOp at he;rw[a3] at he;simp only[hT.ev 43 (.bool true) (by simp)] at he;simp[go_sem] at he
  refine Agy (!Hd) (by rw[hR];cases Hd<;>rfl) (hI.at dd) (hT.sub (by simp)) hh λgs V sl t v=>kk _ _ gs V sl t v
end
theorem ZD{X:Nat->Prop}{Shun:Loc->Prop}{W:World}{b:Bk}{bv lv:Value}{nm:BA}{ls:List BA}(hX:Y9 Shun X)(hbW:M1 X W)(hB:∀τ d,K6 (E0 X W τ d) bv b)(hL:∀τ d,Ls (E0 X W τ d) lv ls)(hok:I8 b):
  AB prog 144 #[.agg #[Tz nm,lv],bv] X Shun W λv _=>v=Y4 (Bq b nm ls):=by
 intro Post c cs gs sl t hh k;obtain⟨a1,c1,a2,c2,rfl,-,-⟩:=(hB (λ_ _=>0) 0).parts;obtain⟨la,lc,rfl,-⟩:=id (hL (λ_ _=>0) 0);have hI:=F5.start (F:=λu=>K6 u (.agg #[Vz a1 b.tg.length c1,Vz a2 b.bs.length c2]) b/\Ls u (Vz la ls.length lc) ls) hX hbW (λτ d=>⟨hB τ d,hL τ d⟩);have kF:S2 λu=>K6 u (.agg #[Vz a1 b.tg.length c1,Vz a2 b.bs.length c2]) b/\Ls u (Vz la ls.length lc) ls:=⟨λ_ _ h hb=>⟨h.1.up hb,h.2.up hb⟩,λ_ _ _ h=>h⟩;have a0:∀X' Shun' gs V sl t v,G6 prog Shun' gs (G (c.finish v) cs) t->F5 X W (λ_=>v=Y4 (Bq b nm ls)) X' Shun' V->E7 prog Post (crowd gs V sl) t:=λX' Shun' gs V sl t v hh hI=>k X' Shun' gs V sl t v hI.hX hI.far hh hI.base λτ d=>⟨hI.hold τ d,hI.low τ d⟩;rw[Agt,Abq] at hh;refine Hv (l:=[Vn]) R4 (λr hr=>SZ r (by simp at hr;simp[hr])) SY rfl kF hI (G':=Qb [Tz nm,Vz la ls.length lc] [Vz a1 b.tg.length c1,Vz a2 b.bs.length c2]) (Ta _ _) (λu _=>Agu u) hh λgs V sl t a hh hd hI=>?_;have hJ:=OW hI;clear hI;obtain⟨x2,x3,z1,z2,z3,hI⟩:=hJ;refine D9 hh rfl (λw=>stepG_seq) λgs sl t dd hh=>?_;replace hI:=hI.at dd;clear k;have a3:∃T,a=⟨T,[]⟩:=⟨a.tmps,by cases a;simp only at hd;subst hd;rfl⟩;obtain⟨T,rfl⟩:=a3;by_cases hc:O8 b nm ls=0
 case neg =>
  refine Ex R4 (SZ SW (by simp)) SY rfl func144 hI (R:=λv _=>v=Y4 (Bq b nm ls)) (λ_ _ _ _ h=>h) (λu hu hz=>?_) hh (a0 X Shun);obtain⟨v0,v1,v2,v3,v4,v5,v6,v7,v8,v9,a4,a5,a6,a7,a8,a9,b0,b1,b2,b3,b4,b5,b6,b7,b8,b9,c3,c4,c5,c6,c7,c8,c9,d0,d1,d2,d3,d4,d5,d6,d7,d8,d9,e0,e1,e2,e3,e4,e5,e6,e7,e8,e9,rfl⟩:=GF T z1;simp only[List.getElem?_toArray,List.getElem?_cons_succ,List.getElem?_cons_zero,Option.some.injEq] at z2 z3;subst z2 z3;exact ZA _ _ _ _ _ _ _ _ _ _ _ _ _ _ _ _ _ _ _ _ _ _ _ _ _ _ _ _ _ _ _ _ _ _ _ _ _ _ _ _ _ _ _ _ _ _ _ _ _ _ _ u hu.1.1 hok hu.1.2 hu.2.1 hu.2.2 (show Hid _ from λh=>absurd h hc) (show Hid _ from λ_ a u' hd h4 hb=>WZ hd h4 ⟨by rw[Ly hc],hb.mono hz⟩)
 refine Lv R4 (SZ SW (by simp)) SY rfl NR hI (G':=Qb [Tz nm,Vz la ls.length lc] [Vz a1 b.tg.length c1,Vz a2 b.bs.length c2]) (Ta _ _) (λu hu=>?_) hh λgs V sl t a hh hd hI=>?_
 ·obtain⟨v0,v1,v2,v3,v4,v5,v6,v7,v8,v9,a4,a5,a6,a7,a8,a9,b0,b1,b2,b3,b4,b5,b6,b7,b8,b9,c3,c4,c5,c6,c7,c8,c9,d0,d1,d2,d3,d4,d5,d6,d7,d8,d9,e0,e1,e2,e3,e4,e5,e6,e7,e8,e9,rfl⟩:=GF T z1;simp only[List.getElem?_toArray,List.getElem?_cons_succ,List.getElem?_cons_zero,Option.some.injEq] at z2 z3;subst z2 z3;exact ZA _ _ _ _ _ _ _ _ _ _ _ _ _ _ _ _ _ _ _ _ _ _ _ _ _ _ _ _ _ _ _ _ _ _ _ _ _ _ _ _ _ _ _ _ _ _ _ _ _ _ _ u hu.1.1 hok hu.1.2 hu.2.1 hu.2.2 (show Hid _ from λ_ a u' hd y1 y2 y3 hb=>⟨rfl,ZC y1 y2 y3 (hu.2.1.up hb hu.2.1.2.2) (hu.2.2.up hb hu.2.2.2.2),hb⟩) (show Hid _ from λh=>absurd hc h)
 clear z1 z2 z3;have hJ:=OW hI;clear hI;obtain⟨y2,y3,z1,z2,z3,hI⟩:=hJ;replace hI:=hI.mono (F':=λu=>(K6 u (.agg #[Vz a1 b.tg.length c1,Vz a2 b.bs.length c2]) b/\Ls u (Vz la ls.length lc) ls)/\CB u y2 [Tz nm,Vz la ls.length lc]/\CB u y3 [Vz a1 b.tg.length c1,Vz a2 b.bs.length c2]) λu hu=>⟨hu.1.1,hu.2⟩;refine D9 hh rfl (λw=>stepG_seq) λgs sl t dd hh=>?_;replace hI:=hI.at dd;have a3:∃T,a=⟨T,[]⟩:=⟨a.tmps,by cases a;simp only at hd;subst hd;rfl⟩;obtain⟨T,rfl⟩:=a3;by_cases ht:Z8 b.bs (F3 b nm:Int) ls
 ·refine Ex R4 (SZ SX (by simp)) SY rfl func144 hI (R:=λv _=>v=Y4 (Bq b nm ls)) (λ_ _ _ _ h=>h) (λu hu hz=>?_) hh (a0 X Shun);obtain⟨v0,v1,v2,v3,v4,v5,v6,v7,v8,v9,a4,a5,a6,a7,a8,a9,b0,b1,b2,b3,b4,b5,b6,b7,b8,b9,c3,c4,c5,c6,c7,c8,c9,d0,d1,d2,d3,d4,d5,d6,d7,d8,d9,e0,e1,e2,e3,e4,e5,e6,e7,e8,e9,rfl⟩:=GF T z1;simp only[List.getElem?_toArray,List.getElem?_cons_succ,List.getElem?_cons_zero,Option.some.injEq] at z2 z3;subst z2 z3;exact ZB _ _ _ _ _ _ _ _ _ _ _ _ _ _ _ _ _ _ _ _ _ _ _ _ _ _ _ _ _ _ _ _ _ _ _ _ _ _ _ _ _ _ _ _ _ _ _ _ _ _ _ u hu.1.1 hok hu.1.2 hu.2.1 hu.2.2 hc (show Hid _ from λh=>absurd ht h) (show Hid _ from λ_ a u' hd h4 hb=>WZ hd h4 ⟨by rw[KS hc ht];rfl,hb.mono hz⟩)
 refine Lv R4 (SZ SX (by simp)) SY rfl NR hI (G':=Qb [Tz nm,Vz la ls.length lc] [Vz a1 b.tg.length c1,Vz a2 b.bs.length c2]) (Ta _ _) (λu hu=>?_) hh λgs V sl t a hh hd hI=>?_
 ·obtain⟨v0,v1,v2,v3,v4,v5,v6,v7,v8,v9,a4,a5,a6,a7,a8,a9,b0,b1,b2,b3,b4,b5,b6,b7,b8,b9,c3,c4,c5,c6,c7,c8,c9,d0,d1,d2,d3,d4,d5,d6,d7,d8,d9,e0,e1,e2,e3,e4,e5,e6,e7,e8,e9,rfl⟩:=GF T z1;simp only[List.getElem?_toArray,List.getElem?_cons_succ,List.getElem?_cons_zero,Option.some.injEq] at z2 z3;subst z2 z3;exact ZB _ _ _ _ _ _ _ _ _ _ _ _ _ _ _ _ _ _ _ _ _ _ _ _ _ _ _ _ _ _ _ _ _ _ _ _ _ _ _ _ _ _ _ _ _ _ _ _ _ _ _ u hu.1.1 hok hu.1.2 hu.2.1 hu.2.2 hc (show Hid _ from λ_ a u' hd y1 y2 y3 hb=>⟨rfl,ZC y1 y2 y3 (hu.2.1.up hb hu.2.1.2.2) (hu.2.2.up hb hu.2.2.2.2),hb⟩) (show Hid _ from λh=>absurd h ht)
 clear z1 z2 z3;have hJ:=OW hI;clear hI;obtain⟨x2,x3,z1,z2,z3,hI⟩:=hJ;replace hI:=hI.mono (F':=(λu=>(K6 u (.agg #[Vz a1 b.tg.length c1,Vz a2 b.bs.length c2]) b/\Ls u (Vz la ls.length lc) ls)/\CB u x2 [Tz nm,Vz la ls.length lc]/\CB u x3 [Vz a1 b.tg.length c1,Vz a2 b.bs.length c2])) λu hu=>⟨hu.1.1,hu.2⟩;have a3:∃T,a=⟨T,[]⟩:=⟨a.tmps,by cases a;simp only at hd;subst hd;rfl⟩;obtain⟨T,rfl⟩:=a3;refine D9 hh rfl (λw=>stepG_seq) λgs sl t dd hh=>?_;replace hI:=hI.at dd;refine D9 hh rfl (λw=>stepG_seq) λgs sl t dd hh=>?_;replace hI:=hI.at dd;exact Abr hok hc ht hI ⟨z1,by intro p hp;simp at hp;rcases hp with rfl|rfl<;>first|exact z2|exact z3⟩ hh a0
end Go.Proofs.YtcgkgmmclfeohaaGreatDoor
namespace Go.Proofs.YtcgkgmmclfeohaaGreatDoor
open Go.Proofs.Tryz
def Abs(bs:List Ba)(gone:List BA)(s:BA):Prop:=∃y,y∈bs/\y.nm=s/\∀x,x∈bs->x.nm≠s->x.nm∉gone->P3 x.has y.nd=false
def BB(bs:List Ba):List BA->List BA->Prop
 | _,[]=>True
 | gone,s::r=>s∉gone/\Abs bs gone s/\BB bs (gone++[s]) r
def Cz(bs:List Ba)(order:List BA):Prop:=BB bs [] order/\∀x∈bs,x.nm∈order
theorem KV(bs:List Ba):∀(order gone:List BA),BB bs gone order↔∀(i:Nat)(s:BA),order[i]?=some s->s∉gone++order.take i/\Abs bs (gone++order.take i) s
 | [],gone=>by simp[BB]
 | s::r,gone=>by
  rw[BB,KV bs r (gone++[s])];constructor
  ·rintro⟨h1,h2,h3⟩ i t ht;cases i with
   | zero =>
    obtain rfl:s=t:=by simpa using ht
    simpa using ⟨h1,h2⟩
   | succ i =>
    have:=h3 i t (by simpa using ht);simpa [List.append_assoc] using this
  ·intro h;have h0:=h 0 s (by simp);refine⟨by simpa using h0.1,by simpa using h0.2,λi t ht=>?_⟩;have:=h (i+1) t (by simpa using ht);simpa [List.append_assoc] using this
theorem Tb{b:Bk}(hok:I8 b)(gone:List BA)(s:BA):(0<=BK (I3 b.bs) s/\ES b.bs (BK (I3 b.bs) s).toNat gone)↔Abs b.bs gone s:=by
 constructor
 ·rintro⟨h0,hc⟩;obtain⟨k,hk,a3,a1⟩:=IM h0;have a2:k<b.bs.length:=by rwa [N7] at a3
  rw[CE _ _ a2] at a1;rw[hk] at hc;refine⟨b.bs[k],List.getElem_mem a2,a1,λx hx a0 hg=>?_⟩;obtain⟨i,hi,rfl⟩:=B7 hx;refine hc i _ _ hi ?_ (A0 hi) (A0 a2) ((Av _ _).2 hg);rintro rfl;exact a0 a1
 ·rintro⟨y,hy,rfl,hc⟩;obtain⟨k,hk,rfl⟩:=B7 hy;have e:=QL hok (A0 hk);rw[e];refine⟨by omega,λi x z hi a0 hx hz hm=>?_⟩;have a0:i≠k:=by simpa using a0
  have hz:b.bs[k]?=some z:=by simpa using hz
  rw[A0 hk] at hz;obtain rfl:=A5 hz;refine hc x (A6 hx) (λe2=>?_) ((Av _ _).1 hm);have:=QL hok hx;rw[e2,e] at this;omega
theorem KW{bs:List Ba}:∀(order gone:List BA),BB bs gone order->∀s∈order,∃y∈bs,y.nm=s
 | [],_,_,s,hs=>by simp at hs
 | t::r,gone,h,s,hs=>by
  obtain⟨-,⟨y,hy,e,-⟩,h3⟩:=h;rcases List.mem_cons.1 hs with rfl|hs
  ·exact⟨y,hy,e⟩
  ·exact KW r _ h3 s hs
theorem HK{b:Bk}(hok:I8 b):∀(i j:Nat)(a:BA),(I3 b.bs)[i]?=some a->(I3 b.bs)[j]?=some a->i=j:=λ_ _ _ hi hj=>IL hok.2.2.2.1 hi hj
theorem Cu{b:Bk}{order:List BA}:Ko b order↔I8 b/\Cz b.bs order:=by
 have hL:I8 b->(FW b.bs order order.length↔BB b.bs [] order):=λhok=>by
  rw[KV];constructor
  ·intro h i s hs;obtain⟨h0,hm,hc⟩:=h i s (A2.1 hs).1 hs;exact⟨by simpa using (Av _ _).1 hm,by simpa using (Tb hok _ _).1 ⟨h0,hc⟩⟩
  ·intro h i s _ hs;obtain⟨h1,h2⟩:=h i s hs;obtain⟨h0,hc⟩:=(Tb hok _ _).2 h2;exact⟨h0,(Av _ _).2 (by simpa using h1),by simpa using hc⟩
 have hD:BB b.bs [] order->∀(i j:Nat)(a:BA),order[i]?=some a->order[j]?=some a->i=j:=λh=>by
  rw[KV] at h;exact Vi λi s hs=>(Av _ _).2 (by simpa using (h i s hs).1)
 constructor
 ·rintro⟨hok,hl,hf⟩;have hf:=(hL hok).1 hf;refine⟨hok,hf,λx hx=>?_⟩;refine Classical.byContradiction λhno=>?_
  have a0:∀s∈order++[x.nm],s∈I3 b.bs:=λs hs=>by
   rcases C9.1 hs with hs|hs
   ·obtain⟨y,hy,rfl⟩:=KW _ _ hf s hs;exact List.mem_map.2 ⟨y,hy,rfl⟩
   ·obtain rfl:s=x.nm:=by simpa using hs
    exact List.mem_map.2 ⟨x,hx,rfl⟩
  have hd:∀(i j:Nat)(a:BA),(order++[x.nm])[i]?=some a->(order++[x.nm])[j]?=some a->i=j:=λi j a hi hj=>by
   have a1:∀i:Nat,(order++[x.nm])[i]?=some a->(i<order.length/\order[i]?=some a)∨(i=order.length/\a=x.nm):=λi hi=>by
    by_cases e:i<order.length
    ·rw[List.getElem?_append_left e] at hi;exact .inl ⟨e,hi⟩
    ·have a2:=(A2.1 hi).1;simp at a2;obtain rfl:i=order.length:=by omega
     exact .inr ⟨rfl,by simpa using hi.symm⟩
   rcases a1 i hi with⟨_,h1⟩|⟨rfl,h1⟩<;>rcases a1 j hj with⟨_,h2⟩|⟨rfl,h2⟩
   ·exact hD hf i j a h1 h2
   ·subst h2;exact absurd (A6 h1) hno
   ·subst h1;exact absurd (A6 h2) hno
   ·rfl
  have:=Fp _ _ hd a0;rw[N7] at this;simp at this;omega
 ·rintro⟨hok,hf,hc⟩;refine⟨hok,?_,(hL hok).2 hf⟩
  have h1:=Fp order (I3 b.bs) (hD hf) λs hs=>by
   obtain⟨y,hy,rfl⟩:=KW _ _ hf s hs;exact List.mem_map.2 ⟨y,hy,rfl⟩
  have h2:=Fp (I3 b.bs) order (HK hok) λs hs=>by
   obtain⟨y,hy,rfl⟩:=List.mem_map.1 hs;exact hc y hy
  rw[N7] at h1 h2;omega
theorem NS{bs bs':List Ba}(h1:∀y∈bs,∃y'∈bs',y'.nm=y.nm/\∀s∈y'.nd,s∈y.nd)(h2:∀x'∈bs',∃x∈bs,x.nm=x'.nm/\∀s∈x'.has,s∈x.has):∀(order gone:List BA),BB bs gone order->BB bs' gone order
 | [],_,_=>trivial
 | s::r,gone,⟨a,⟨y,hy,e,hc⟩,c⟩=>by
  refine⟨a,?_,NS h1 h2 r _ c⟩;obtain⟨y',hy',e',hn⟩:=h1 y hy;refine⟨y',hy',e'.trans e,λx' hx' hne hg=>?_⟩;obtain⟨x,hx,ex,hh⟩:=h2 x' hx';have:=hc x hx (by rw[ex];exact hne) (by rw[ex];exact hg);rw[S9] at this ⊢
  exact λt ht ht'=>this t (hh t ht) (hn t ht')
theorem Xa{bs bs':List Ba}{order:List BA}(h1:∀y∈bs,∃y'∈bs',y'.nm=y.nm/\∀s∈y'.nd,s∈y.nd)(h2:∀x'∈bs',∃x∈bs,x.nm=x'.nm/\∀s∈x'.has,s∈x.has)(h:Cz bs order):Cz bs' order :=
 ⟨NS h1 h2 _ _ h.1,λx' hx'=>by obtain⟨x,hx,e,-⟩:=h2 x' hx';rw[← e];exact h.2 x hx⟩
theorem KX{bs bs':List Ba}{nm:BA}(hs:∀x,x∈bs'↔x∈bs/\x.nm≠nm):∀(order gone gone':List BA),(∀s,s≠nm->(s∈gone↔s∈gone'))->BB bs gone order->BB bs' gone' (order.filter λs=>decide (s≠nm))
 | [],_,_,_,_=>trivial
 | s::r,gone,gone',hg,⟨a,⟨y,hy,e,hc⟩,c⟩=>by
  by_cases hn:s=nm
  ·rw[List.filter_cons_of_neg (by simp[hn])];exact KX hs r _ gone' (λt ht=>by rw[← hg t ht];simp;intro h;exact absurd (h.trans hn) ht) c
  ·rw[List.filter_cons_of_pos (by simp[hn])];refine⟨by rw[← hg s hn];exact a,⟨y,(hs y).2 ⟨hy,by rw[e];exact hn⟩,e,λx hx hne hgx=>?_⟩,KX hs r _ _ (λt ht=>by simp[hg t ht]) c⟩;obtain⟨hx,hxn⟩:=(hs x).1 hx;exact hc x hx hne (by rw[hg _ hxn];exact hgx)
theorem ZE{bs bs':List Ba}{nm:BA}{order:List BA}(hs:∀x,x∈bs'↔x∈bs/\x.nm≠nm)(h:Cz bs order):Cz bs' (order.filter λs=>decide (s≠nm)) :=
 ⟨KX hs _ _ _ (λ_ _=>Iff.rfl) h.1,λx hx=>List.mem_filter.2 ⟨h.2 x ((hs x).1 hx).1,by simp[((hs x).1 hx).2]⟩⟩
theorem Tc{bs bs':List Ba}{z:Ba}(hz:z.has=[])(hs:∀x,x∈bs'↔x∈bs∨x=z)(hno:∀x∈bs,x.nm≠z.nm):∀(order gone:List BA),(∀x∈bs,x.nm∈gone++order)->z.nm∉gone->BB bs gone order->BB bs' gone (order++[z.nm])
 | [],gone,hc,hg,_=>by
  refine⟨hg,⟨z,(hs z).2 (.inr rfl),rfl,λx hx hne hx'=>?_⟩,trivial⟩;rcases (hs x).1 hx with h|rfl
  ·exact absurd (by simpa using hc x h) hx'
  ·exact absurd rfl hne
 | s::r,gone,hc,hg,⟨a,⟨y,hy,e,hk⟩,c⟩=>by
  refine⟨a,⟨y,(hs y).2 (.inl hy),e,λx hx hne hx'=>?_⟩,Tc hz hs hno r _ (λx hx=>by simpa [List.append_assoc] using hc x hx) ?_ c⟩
  ·rcases (hs x).1 hx with h|rfl
   ·exact hk x h hne hx'
   ·rw[S9,hz];exact λt ht=>by simp at ht
  ·intro h;rcases C9.1 h with h|h
   ·exact hg h
   ·have:z.nm=s:=by simpa using h
    exact hno y hy (e.trans this.symm)
theorem Abt{bs bs':List Ba}{z:Ba}{order:List BA}(hz:z.has=[])(hs:∀x,x∈bs'↔x∈bs∨x=z)(hno:∀x∈bs,x.nm≠z.nm)(h:Cz bs order):Cz bs' (order++[z.nm]) :=
 ⟨Tc hz hs hno _ _ (λx hx=>by simpa using h.2 x hx) (by simp) h.1,λx hx=>by
  rcases (hs x).1 hx with h1|rfl
  ·exact List.mem_append_left _ (h.2 x h1)
  ·simp⟩
theorem CK{l:List BA}:AM l↔l.Pairwise (λa b=>Z9 a b=true):=by
 rw[List.pairwise_iff_getElem];constructor
 ·intro h i j hi hj hij;exact El h (j-i-1) i _ _ (A0 hi) (by rw[show i+1+(j-i-1)=j by omega];exact A0 hj)
 ·intro h i a b hi ha hb;obtain⟨h1,rfl⟩:=A2.1 ha;obtain⟨h2,rfl⟩:=A2.1 hb;exact h i (i+1) h1 h2 (by omega)
theorem EQ{l:List BA}:Dq l↔∀s∈l,U0 s=true :=
 ⟨λh _ hs=>XI h hs,λh _ _ _ ha=>h _ (A6 ha)⟩
theorem DO{l all:List BA}:Og l all↔∀s∈l,s∈all :=
 ⟨λh _ hs=>GO h hs,λh _ _ _ ha=>(S0 _ _).2 (h _ (A6 ha))⟩
theorem Ca{tg:List BA}{bs:List Ba}:Bu tg bs bs.length↔∀x∈bs,GP tg x:=by
 constructor
 ·intro h x hx;obtain⟨i,hi,rfl⟩:=B7 hx;exact h.at hi hi
 ·exact λh i x _ hx=>h x (A6 hx)
theorem JR{bs:List Ba}:CQ bs↔bs.Pairwise (λy x=>P3 x.has y.has=false):=by
 rw[List.pairwise_iff_getElem];constructor
 ·exact λh i j hi hj hij=>h.at hj hij
 ·intro h i j x y hji hi hx hy;obtain⟨h1,rfl⟩:=A2.1 hx;obtain⟨h2,rfl⟩:=A2.1 hy;exact h j i h2 h1 hji
theorem Td{α:Type}(l:List α)(p:Nat):(l.take p++l.drop (p+1)).Sublist l:=by
 have h:(l.take p++l.drop (p+1)).Sublist (l.take p++l.drop p):=(List.Sublist.refl _).append (by
  rw[← List.drop_drop (i:=1) (j:=p)];exact List.drop_sublist _ _)
 rwa [List.take_append_drop] at h
theorem Abu{b:Bk}{bs:List Ba}(h:I8 b)(hs:bs.Sublist b.bs):I8 ⟨b.tg,bs⟩:=by
 obtain⟨h1,h2,h3,h4,h5,h6⟩:=h;have hn:(I3 bs).Sublist (I3 b.bs):=hs.map _;exact⟨h1,by have:=hs.length_le;show bs.length<=5;omega,EQ.2 λs hx=>EQ.1 h3 s (hn.subset hx),CK.2 ((CK.1 h4).sublist hn),Ca.2 λx hx=>Ca.1 h5 x (hs.subset hx),JR.2 ((JR.1 h6).sublist hs)⟩
theorem AdU{b:Bk}{nm:BA}(hok:I8 b)(hm:D7 (I3 b.bs) nm=true)(x:Ba):x∈b.bs.take (F3 b nm)++b.bs.drop (F3 b nm+1)↔x∈b.bs/\x.nm≠nm:=by
 obtain⟨hi,a3⟩:=BI hm
 have a4:(b.bs[F3 b nm]).nm=nm:=by
  obtain⟨k,hk,a5,a1⟩:=IM (l:=I3 b.bs) (s:=nm) (by omega);have:k=F3 b nm:=by omega
  subst this;rw[CE _ _ a3] at a1;exact a1
 have a2:∀(i:Nat)(a0:i<b.bs.length),(b.bs[i]).nm=nm->i=F3 b nm:=λi a0 e=>by
  have h1:=QL hok (A0 a0);rw[e,hi] at h1;omega
 constructor
 ·intro hx;refine⟨(Td _ _).subset hx,λe=>?_⟩;rcases C9.1 hx with h|h
  ·obtain⟨i,a0,rfl⟩:=List.mem_take_iff_getElem.1 h;have:=a2 i (by omega) e;omega
  ·obtain⟨i,a0,rfl⟩:=B7 h;rw[List.getElem_drop] at e;have:=a2 _ _ e;omega
 ·rintro⟨hx,hne⟩;obtain⟨i,a0,rfl⟩:=B7 hx;rcases Nat.lt_trichotomy i (F3 b nm) with h|h|h
  ·exact List.mem_append_left _ (List.mem_take_iff_getElem.2 ⟨i,by omega,rfl⟩)
  ·subst h;exact absurd a4 hne
  ·exact List.mem_append_right _ (List.mem_iff_getElem.2 ⟨i-(F3 b nm+1),by rw[A8];omega,by rw[List.getElem_drop];congr 1;omega⟩)
theorem Xb{b:Bk}{nm:BA}{order:List BA}(hm:D7 (I3 b.bs) nm=true)(hf:Ko b order):∃o,Ko ⟨b.tg,b.bs.take (F3 b nm)++b.bs.drop (F3 b nm+1)⟩ o:=by
 obtain⟨a0,hc⟩:=Cu.1 hf;exact⟨_,Cu.2 ⟨Abu a0 (Td _ _),ZE (AdU a0 hm) hc⟩⟩
theorem AdV{b:Bk}{nm:BA}{nd:List BA}(hok:I8 b)(hm:D7 (I3 b.bs) nm=true)(hp:J3 nd (N8 b nm)):I8 (X8 b (F3 b nm) (R6 nd))/\∀order,Cz b.bs order->Cz (X8 b (F3 b nm) (R6 nd)).bs order:=by
 obtain⟨hi,a4⟩:=BI hm;have hx:=A0 a4;rw[BL hx] at hp;rw[BQ hx];obtain⟨h1,h2,h3,h4,h5,h6⟩:=hok;generalize hxe:b.bs[F3 b nm]=x at *;have b0:x∈b.bs:=A6 hx;have a5:=Ca.1 h5 x b0
 have a6:I3 (b.bs.set (F3 b nm) (R6 nd x))=I3 b.bs:=by
  rw[I3,I3,List.map_set];apply List.ext_getElem? λi=>?_
  rw[List.getElem?_set];split
  ·rename_i e;subst e;simp[a4,hxe,R6]
  ·rfl
 have a1:∀(i:Nat)(z:Ba),(b.bs.set (F3 b nm) (R6 nd x))[i]?=some z->∃y,b.bs[i]?=some y/\z.nm=y.nm/\(∀s∈z.has,s∈y.has)/\∀s∈z.nd,s∈y.nd:=λi z hz=>by
  rw[List.getElem?_set] at hz;split at hz
  ·rename_i e;subst e;obtain rfl:R6 nd x=z:=by simpa [a4] using hz
   exact⟨x,hx,rfl,λs hs=>(List.mem_filter.1 hs).1,λs hs=>DO.1 hp.1 s hs⟩
  ·exact⟨z,hz,rfl,λ_ h=>h,λ_ h=>h⟩
 refine⟨⟨h1,by show (b.bs.set _ _).length<=5;rw[List.length_set];exact h2,by show Dq (I3 _);rw[a6];exact h3,by show AM (I3 _);rw[a6];exact h4,Ca.2 λz hz=>?_,λi j z y hji a0 hz hy=>?_⟩,λorder hc=>?_⟩
 ·rcases List.mem_or_eq_of_mem_set hz with h|rfl
  ·exact Ca.1 h5 z h
  ·refine⟨⟨DO.2 λs hs=>DO.1 a5.1.1 s (DO.1 hp.1 s hs),hp.2⟩,DO.2 λs hs=>?_,CK.2 ((CK.1 a5.2.2).sublist (List.filter_sublist))⟩;exact (S0 _ _).1 (List.mem_filter.1 hs).2
 ·obtain⟨z',a7,-,a8,-⟩:=a1 i z hz;obtain⟨y',a2,-,a9,-⟩:=a1 j y hy;have h7:=h6 i j z' y' hji (by have a0:i<(b.bs.set (F3 b nm) (R6 nd x)).length∨_:=a0;rw[List.length_set] at a0;exact a0) a7 a2;rw[S9] at h7 ⊢
  exact λs hs hs'=>h7 s (a8 s hs) (a9 s hs')
 ·refine Xa (λy hy=>?_) (λz hz=>?_) hc
  ·obtain⟨i,a0,rfl⟩:=B7 hy;have a3:i<(b.bs.set (F3 b nm) (R6 nd x)).length:=by rw[List.length_set];exact a0
   obtain⟨y,a2,h7,-,h8⟩:=a1 i _ (A0 a3);rw[A0 a0] at a2;obtain rfl:=A5 a2;exact⟨_,List.getElem_mem a3,h7,h8⟩
  ·obtain⟨i,a0,rfl⟩:=B7 hz;obtain⟨y,a2,h7,h8,-⟩:=a1 i _ (A0 a0);exact⟨y,A6 a2,h7.symm,h8⟩
theorem ZF{a b:BA}(h:Z9 a b=false)(hne:a≠b):Z9 b a=true:=by
 rw[DT];have h1:¬a.toList<b.toList:=by rw[← DT,h];simp
 refine Classical.byContradiction λh2=>hne (GM ?_);exact List.le_antisymm (List.not_lt.1 h2) (List.not_lt.1 h1)
theorem Vo{α:Type}(p:α->Bool):∀l:List α,l.take (l.takeWhile p).length=l.takeWhile p
 | []=>rfl
 | x::r=>by
  rw[List.takeWhile_cons];split
  ·simp[Vo p r]
  ·rfl
theorem ZG{α:Type}(p:α->Bool):∀(l:List α)(x:α),x∈l.takeWhile p->p x=true
 | [],x,h=>by simp at h
 | y::r,x,h=>by
  rw[List.takeWhile_cons] at h;cases hy:p y
  ·rw[hy] at h;simp at h
  ·rw[hy] at h;rcases List.mem_cons.1 (by simpa using h) with rfl|h
   ·exact hy
   ·exact ZG p r x h
theorem Vp{α:Type}(p:α->Bool):∀l:List α,∀x r,l.drop (l.takeWhile p).length=x::r->p x=false
 | [],x,r,h=>by simp at h
 | y::r,x,r',h=>by
  rw[List.takeWhile_cons] at h;cases hy:p y
  ·rw[hy] at h;simp at h;rw[← h.1];exact hy
  ·rw[hy] at h;simp at h;exact Vp p r x r' h
theorem Abv{b:Bk}{nm:BA}{nd:List BA}(hok:I8 b)(hn:U0 nm=true)(hp:J3 nd b.tg)(hm:D7 (I3 b.bs) nm=false)(h5:b.bs.length<5):I8 ⟨b.tg,b.bs.take (U3 b nm)++⟨nm,[],nd⟩::b.bs.drop (U3 b nm)⟩:=by
 obtain⟨g1,g2,g3,g4,g5,g6⟩:=hok;have a2:∀x∈b.bs,x.nm≠nm:=λx hx e=>(Av _ _).1 hm (by rw[← e];exact List.mem_map.2 ⟨x,hx,rfl⟩)
 have a0:∀x:Ba,x∈b.bs.take (U3 b nm)++(⟨nm,[],nd⟩:Ba)::b.bs.drop (U3 b nm)->x∈b.bs∨x=⟨nm,[],nd⟩:=λx hx=>by
  rcases C9.1 hx with h|h
  ·exact .inl (List.mem_of_mem_take h)
  ·rcases List.mem_cons.1 h with h|h
   ·exact .inr h
   ·exact .inl (List.mem_of_mem_drop h)
 have a3:∀x∈b.bs.take (U3 b nm),Z9 x.nm nm=true:=λx hx=>by
  rw[U3,Vo] at hx;exact ZG _ _ x hx
 have a4:(b.bs.take (U3 b nm)++b.bs.drop (U3 b nm)).Pairwise (λa c=>Z9 a.nm c.nm=true):=by
  rw[List.take_append_drop];have:=CK.1 g4;rwa [I3,List.pairwise_map] at this
 obtain⟨p1,p2,p3⟩:=List.pairwise_append.1 a4
 have a1:∀x∈b.bs.drop (U3 b nm),Z9 nm x.nm=true:=by
  cases hd:b.bs.drop (U3 b nm) with
  | nil=>intro x hx;simp at hx
  | cons y r =>
   have hy:Z9 y.nm nm=false:=Vp (λx:Ba=>Z9 x.nm nm) b.bs y r hd;have a5:y∈b.bs:=List.mem_of_mem_drop (by rw[hd];exact List.mem_cons_self);have h0:=ZF hy (a2 y a5);rw[hd] at p2;intro x hx;rcases List.mem_cons.1 hx with rfl|hx
   ·exact h0
   ·exact FV h0 ((List.pairwise_cons.1 p2).1 x hx)
 refine⟨g1,?_,EQ.2 λs hs=>?_,CK.2 ?_,Ca.2 λx hx=>?_,JR.2 ?_⟩
 ·show List.length (_++_::_)<=5
  rw[A9,List.length_cons,B8,A8];omega
 ·obtain⟨x,hx,rfl⟩:=List.mem_map.1 hs;rcases a0 x hx with h|rfl
  ·exact EQ.1 g3 _ (List.mem_map.2 ⟨x,h,rfl⟩)
  ·exact hn
 ·show (I3 (_++_::_)).Pairwise _
  rw[I3,List.pairwise_map,List.pairwise_append,List.pairwise_cons];refine⟨p1,⟨a1,p2⟩,λx hx y hy=>?_⟩;rcases List.mem_cons.1 hy with rfl|hy
  ·exact a3 x hx
  ·exact p3 x hx y hy
 ·rcases a0 x hx with h|rfl
  ·exact Ca.1 g5 x h
  ·exact⟨hp,DO.2 λs hs=>by simp at hs,CK.2 List.Pairwise.nil⟩
 ·have h8:=JR.1 g6;rw[← List.take_append_drop (U3 b nm) b.bs,List.pairwise_append] at h8;show (_++_::_).Pairwise _
  rw[List.pairwise_append,List.pairwise_cons];refine⟨h8.1,⟨λx _=>?_,h8.2.1⟩,λx hx y hy=>?_⟩
  ·rw[S9];exact λs _ hs=>by simp at hs
  ·rcases List.mem_cons.1 hy with rfl|hy
   ·rw[S9];exact λs hs=>by simp at hs
   ·exact h8.2.2 x hx y hy
theorem Agz{b:Bk}{z:Ba}{k:Nat}(x:Ba):x∈b.bs.take k++z::b.bs.drop k↔x∈b.bs∨x=z:=by
 rw[C9,List.mem_cons];conv=>rhs;rw[← List.take_append_drop k b.bs,C9]
 constructor
 ·rintro (h|h|h)
  ·exact .inl (.inl h)
  ·exact .inr h
  ·exact .inl (.inr h)
 ·rintro ((h|h)|h)
  ·exact .inl h
  ·exact .inr (.inr h)
  ·exact .inr (.inl h)
theorem Xc{b:Bk}{nm:BA}(hc:Bc b nm=0):(S5 b nm).bs.length+1=b.bs.length:=by
 cases hb:J6 b
 ·rw[(GT hb).1] at hc;omega
 cases hm:D7 (I3 b.bs) nm
 ·rw[(DV hb hm).1] at hc;omega
 rw[(DB hb hm).2];have:=(BI hm).2;show List.length (_++_)+1=_
 rw[A9,B8,A8];omega
end Go.Proofs.YtcgkgmmclfeohaaGreatDoor
namespace Go.Proofs.YtcgkgmmclfeohaaGreatDoor
open Go.Proofs.Tryz
open Go.RowKit
section
variable {b:Bk} {nm:BA} {ls:List BA}
theorem JS(hm:D7 (I3 b.bs) nm=true):∃x,b.bs[F3 b nm]?=some x/\x.nm=nm/\F3 b nm<b.bs.length:=by
 obtain⟨a0,hx⟩:=Zs hm;exact⟨_,A0 a0,hx,a0⟩
theorem AdW{x:Ba}(hok:I8 b)(hc:O8 b nm ls=0)(hx:b.bs[F3 b nm]?=some x):Y8 x.has ls=x.nd.filter (D7 (x.has++ls)):=by
 have a0:=Ca.1 hok.2.2.2.2.1 x (A6 hx);have hp:=Ja hc;rw[BL hx] at hp;exact (SR a0.1.2 a0.2 hp).symm
theorem LA{x:Ba}(hx:b.bs[F3 b nm]?=some x){i:Nat}{z:Ba}(hz:(X8 b (F3 b nm) (P7 ls)).bs[i]?=some z):(i≠F3 b nm/\b.bs[i]?=some z)∨(i=F3 b nm/\z=P7 ls x):=by
 rw[BQ hx] at hz;simp only[List.getElem?_set] at hz;have a0:=(A2.1 hx).1;split at hz
 ·rename_i e;refine .inr ⟨e.symm,?_⟩;simpa [a0] using hz.symm
 ·rename_i e;exact .inl ⟨λe'=>e e'.symm,hz⟩
theorem OX{x:Ba}(hx:b.bs[F3 b nm]?=some x):I3 (X8 b (F3 b nm) (P7 ls)).bs=I3 b.bs:=by
 rw[BQ hx];obtain⟨a0,a1⟩:=A2.1 hx;show I3 (b.bs.set (F3 b nm) (P7 ls x))=I3 b.bs
 rw[I3,I3,List.map_set];apply List.ext_getElem? λi=>?_
 rw[List.getElem?_set];split
 ·rename_i e;subst e;simp[a0,a1,P7]
 ·rfl
theorem Ag0(hok:I8 b)(hc:O8 b nm ls=0)(ht:¬Z8 b.bs (F3 b nm:Int) ls):I8 (X8 b (F3 b nm) (P7 ls)):=by
 obtain⟨x,hx,a6,a7⟩:=JS (Eo hc);have a0:=AdW hok hc hx;obtain⟨h1,h2,h3,h4,h5,h6⟩:=hok;have a3:=Ca.1 h5 x (A6 hx);have a1:(X8 b (F3 b nm) (P7 ls)).bs.length=b.bs.length:=by rw[BQ hx];exact List.length_set
 have a4:(X8 b (F3 b nm) (P7 ls)).tg=b.tg:=by rw[BQ hx]
 have a5:∀(i:Nat)(y:Ba),i≠F3 b nm->b.bs[i]?=some y->∀s∈y.has,s∉ls:=λi y hi hy s hs hs'=>ht ⟨i,y,by omega,hy,by
  cases hq:P3 y.has ls with
  | true=>rfl
  | false=>exact absurd hs' ((S9 _ _).1 hq s hs)⟩
 refine⟨by rw[a4];exact h1,by rw[a1];exact h2,by rw[OX hx];exact h3,by rw[OX hx];exact h4,Ca.2 λz hz=>?_,λi j z y hji hi' hz hy=>?_⟩
 ·rw[a4];obtain⟨i,hi,rfl⟩:=B7 hz;rcases LA hx (A0 hi) with⟨_,h⟩|⟨_,e⟩
  ·exact Ca.1 h5 _ (A6 h)
  ·rw[e];refine⟨a3.1,?_⟩;show J3 (Y8 x.has ls) x.nd
   rw[a0];exact⟨DO.2 λs hs=>(List.mem_filter.1 hs).1,CK.2 ((CK.1 a3.1.2).sublist List.filter_sublist)⟩
 ·rw[S9]
  have a2:∀{i j:Nat} {y y':Ba},i≠j->b.bs[i]?=some y->b.bs[j]?=some y'->∀s,s∈y.has->s∉y'.has:=λ{i j y y'} hne hy hy' s hs hs'=>by
   rcases Nat.lt_or_gt_of_ne hne with h|h
   ·exact (S9 _ _).1 (h6 j i y' y h (.inl (A2.1 hy').1) hy' hy) s hs' hs
   ·exact (S9 _ _).1 (h6 i j y y' h (.inl (A2.1 hy).1) hy hy') s hs hs'
  intro s hs hs';rcases LA hx hz with⟨hne,hz'⟩|⟨rfl,rfl⟩<;>rcases LA hx hy with⟨hne',hy'⟩|⟨rfl,rfl⟩
  ·exact a2 (by omega) hz' hy' s hs hs'
  ·rcases EV _ _ s hs' with h|h
   ·exact a2 hne hz' hx s hs h
   ·exact a5 i z hne hz' s hs h
  ·rcases EV _ _ s hs with h|h
   ·exact a2 (λe=>hne' e.symm) hx hy' s h hs'
   ·exact a5 j y hne' hy' s hs' h
  ·omega
theorem BN(hok:I8 b):O4 b↔∃o,Cz b.bs o:=by
 constructor
 ·rintro⟨ss,h⟩;exact⟨ss,(Cu.1 (WU h)).2⟩
 ·rintro⟨o,h⟩;obtain⟨ss,hg⟩:=Zv (Cu.2 ⟨hok,h⟩);exact⟨ss,.inl ⟨rfl,hok,hg⟩⟩
theorem NT{bs bs':List Ba}{z:BA}(h1:∀y∈bs,y.nm≠z->y∈bs')(h2:∀y∈bs',y.nm≠z->y∈bs):∀(order gone:List BA),z∈gone->z∉order->BB bs gone order->BB bs' gone order
 | [],_,_,_,_=>trivial
 | s::r,gone,hz,hn,⟨h3,⟨y,hy,hys,hc⟩,h4⟩=>by
  have hne:s≠z:=λe=>hn (by simp[e]);refine⟨h3,⟨y,h1 y hy (by rw[hys];exact hne),hys,λx' hx' hxs hxg=>hc x' (h2 x' hx' λe=>hxg (by rw[e];exact hz)) hxs hxg⟩,NT h1 h2 r _ (by simp[hz]) (λh=>hn (by simp[h])) h4⟩
theorem LX{bs:List Ba}:∀(order gone:List BA),BB bs gone order->order.Nodup/\∀s∈order,s∉gone
 | [],_,_=>⟨List.nodup_nil,λs h=>by simp at h⟩
 | s::r,gone,⟨h3,_,h4⟩=>by
  obtain⟨i1,i2⟩:=LX r _ h4;refine⟨List.nodup_cons.2 ⟨λh=>i2 s h (by simp),i1⟩,λt ht=>?_⟩;rcases List.mem_cons.1 ht with rfl|ht
  ·exact h3
  ·exact λhg=>i2 t ht (by simp[hg])
theorem ZH(hok:I8 b)(hc:O8 b nm ls=0)(ht:¬Z8 b.bs (F3 b nm:Int) ls)(hs:O4 b)(hn:¬O4 (X8 b (F3 b nm) (P7 ls))):¬ES b.bs (F3 b nm) []:=λhcan=>hn (by
 obtain⟨x,hx,hxn,hpl⟩:=JS (Eo hc);obtain⟨o,ho,hcov⟩:=(BN hok).1 hs;rw[BN (Ag0 hok hc ht)];have hz:(X8 b (F3 b nm) (P7 ls)).bs[F3 b nm]?=some (P7 ls x):=by rw[BQ hx];simp[hpl]
 obtain⟨hd,-⟩:=LX _ _ ho;have one:∀{i:Nat} {y:Ba},b.bs[i]?=some y->y.nm=nm->i=F3 b nm:=λ{i y} hy e=>HK hok i (F3 b nm) nm (by rw[I3,B3,hy,← e];rfl) (by rw[I3,B3,hx,← hxn];rfl)
 have inn:∀y∈b.bs,y.nm≠nm->y∈(X8 b (F3 b nm) (P7 ls)).bs:=λy hy hne=>by
  obtain⟨i,hi,rfl⟩:=B7 hy;have hne':F3 b nm≠i:=λe=>hne (by subst e;rw[A0 hi] at hx;rw[A5 hx];exact hxn);have:(X8 b (F3 b nm) (P7 ls)).bs[i]?=some b.bs[i]:=by rw[BQ hx];simp[hne',hi]
  exact A6 this
 have out:∀y∈(X8 b (F3 b nm) (P7 ls)).bs,y.nm≠nm->y∈b.bs:=λy hy hne=>by
  obtain⟨i,hi,rfl⟩:=B7 hy;rcases LA hx (A0 hi) with⟨_,h⟩|⟨_,e⟩
  ·exact A6 h
  ·exact absurd (by rw[e];exact hxn) hne
 refine⟨nm::o.filter (λs=>decide (s≠nm)),⟨by simp,⟨P7 ls x,A6 hz,hxn,λy hy hyn _=>?_⟩,?_⟩,λy hy=>?_⟩
 ·have hyb:=out y hy hyn;obtain⟨i,hi,rfl⟩:=B7 hyb;have hne:i≠F3 b nm:=λe=>hyn (by subst e;rw[A0 hi] at hx;rw[A5 hx];exact hxn);exact hcan i _ x hi hne (A0 hi) hx (by simp[D7])
 ·have h0:BB b.bs [nm] (o.filter λs=>decide (s≠nm)):=by
   have a5:∀(l a1 a0:List BA),nm∈a0->(∀s∈a1,s∈a0)->(∀s∈l,s≠nm->s∉a0)->l.Nodup->BB b.bs a1 l->BB b.bs a0 (l.filter λs=>decide (s≠nm)):=by
    intro l;induction l with
    | nil=>exact λ_ _ _ _ _ _ _=>trivial
    | cons s r ih =>
     rintro a1 a0 hm a2 a4 hd ⟨_,⟨y,hy,a6,hc⟩,h4⟩;have a3:=List.nodup_cons.1 hd;by_cases e:s=nm
     ·subst e;simp only[ne_eq,not_true_eq_false,decide_false,Bool.false_eq_true,not_false_eq_true,List.filter_cons_of_neg];exact ih _ _ hm (λt ht=>(C9.1 ht).elim (a2 t) λh=>by simp at h;rw[h];exact hm) (λt ht=>a4 t (by simp[ht])) a3.2 h4
     ·rw[List.filter_cons_of_pos (by simpa using e)];refine⟨a4 s (by simp) e,⟨y,hy,a6,λz hz hzs hzg=>hc z hz hzs λhg=>hzg (a2 _ hg)⟩,ih _ _ (by simp[hm]) (λt ht=>?_) (λt ht hne hm'=>?_) a3.2 h4⟩
      ·rcases C9.1 ht with ht|ht
       ·exact List.mem_append_left _ (a2 t ht)
       ·exact List.mem_append_right _ ht
      ·rcases C9.1 hm' with hm'|hm'
       ·exact a4 t (by simp[ht]) hne hm'
       ·simp only[D0] at hm';exact a3.1 (hm' ▸ ht)
   exact a5 o [] [nm] (by simp) (λs hs=>by simp at hs) (λs _ hne h=>hne (by simpa using h)) hd ho
  exact NT inn out _ _ (by simp) (λh=>by have:=(List.mem_filter.1 h).2;simp at this) h0
 ·by_cases e:y.nm=nm
  ·simp[e]
  ·exact C7 _ (List.mem_filter.2 ⟨hcov y (out y hy e),by simpa using e⟩))
end
def P8:List BA:=[⟨#[106]⟩,⟨#[107,101,103]⟩,⟨#[116,117,110]⟩,⟨#[118,97,116]⟩,⟨#[119]⟩]
theorem Ua(rb len N:Nat)(v:Value)(w:World)(hR:Rd w rb v len N)(hN:N<=900000):
  Calls prog 20 #[Pz rb 0] w
   λe w'=>(∃(a:Option Addr)(c:Nat)(ss:List BA),e=.returned (.agg #[Vz a ss.length c,Nz])/\Dk w' w.heap.size (.agg #[Vz a ss.length c,Nz]) ⟨ss,[]⟩/\ss.Sublist P8)/\Rd w' rb v len (N+10)/\w.grownBy w' (some rb):=by
 have d6:=hR.lt;obtain⟨ii,hi,e0,e1,e2⟩:=info_parts Bg;go_in;go_upto_region 3 with fail;obtain⟨W1,d2,kR,kQ,c5,d3⟩:=cbE2 w [Nz,Nz] 26 [Nz,Nz] 26;have a9:Rd W1 rb v len N:=hR.kept c5;have b0:w.grownBy W1 (some rb):=Bm c5;clear hR c5;obtain⟨W2,b8,e3⟩:∃W2,W1.alloc (.cells (P8.map Value.string).toArray 9)=W2/\W2.heap.size=w.heap.size+3:=⟨_,rfl,by simp;omega⟩;have b1:Up W1 W2:=by rw[← b8];exact (A4 _ _).alloc (A3 _) _
 have b2:N3 W2 (w.heap.size+2) 0 P8:=by rw[← b8,← d3];exact BR W1 P8 9
 have b3:=a9.kept b1;have b4:=S3 b0 (Bm b1);have b5:=kR.up b1 (by omega);have a5:=kQ.up b1 (by omega);have b6:W1.alloc (Kz [Tz ⟨#[106]⟩,Tz ⟨#[107,101,103]⟩,Tz ⟨#[116,117,110]⟩,Tz ⟨#[118,97,116]⟩,Tz ⟨#[119]⟩] 9)=W2:=b8;rw[d2,b6];clear d2 b8 b6 b1 a9 b0 kR kQ d3;go_wp2_with fail;(try dsimp only[Iz,Sz,Sy,Nz,Vz,Tz,Ez,Pz]);go_loopw [5] (λi w'=>∃(k:Nat)(tu:Value)(ss:List BA),k<=5/\i=.int .i64 k/\CB w' w.heap.size [Nz,Nz]/\CB w' (w.heap.size+1) [tu,Nz]/\G3 w' (w.heap.size+3) tu ss/\Hid (ss.Sublist (P8.take k))/\ss.length<=k/\(∀s∈ss,s.size<=maxLen)/\N3 w' (w.heap.size+2) 0 P8/\Rd w' rb v len (N+k)/\w.grownBy w' (some rb)/\w.heap.size+3<=w'.heap.size) (λi _=>5-(intOf i).toNat)
 case atStart=>exact⟨0,Nz,[],by omega,rfl,b5,a5,B9 _ _ _ _,List.nil_sublist _,by simp,λs hs=>by simp at hs,b2,b3,b4,by omega⟩
 case round =>
  clear b5 a5 b2 b3 b4 e3;obtain⟨k,tu,ss,hk,rfl,kR,kQ,a3,a4,f5,d4,d5,c6,c7,f6⟩:=hrel;have Hsz:Hid (∀s∈ss,s.size<=maxLen):=d4;clear d4;obtain⟨b9,c1,rfl⟩:=a3.lst.shape;by_cases hp:k<5
  ·have c8:Hid (∀h:k<P8.length,P8.take (k+1)=P8.take k++[P8[k]]):=λh=>by rw[List.take_add_one,A0 h];rfl
   go_wp2_with fail;refine (Cn rb len _ v 5 _ c6 (by omega)).mono ?_;rintro e w1 ⟨⟨x,rfl,-,-⟩,a9,a8⟩;have a1:=J0 a3 a8 (by omega);have b0:=S3 c7 a8;have f7:=a8.size;have c9:=kR.kept a8 (by simp;omega);have c3:=kQ.kept a8 (by simp;omega);have c4:=d5.kept a8 (by omega);clear c6 c7 a3 a8 kR kQ d5;by_cases hx:0<x
   ·have d7:k<P8.length:=by simp[P8];omega
    have c0:=c4 k P8[k] (by simp[d7]);have e4:Hid ((ss++[P8[k]]).Sublist (P8.take (k+1))):=by show List.Sublist _ _;rw[c8.out d7];exact a4.out.append (List.Sublist.refl _)
    clear c8 a4;rw[Nat.zero_add] at c0;have e5:(P8[k]).size<=maxLen:=GX (ss:=P8) (by decide) _ (by simp);generalize P8[k]=s0 at *;obtain⟨⟨z0,z1⟩,g0,g1⟩:=c3.c2;have e6:w.heap.size+1<w1.heap.size:=by omega
    have d0:w.heap.size+2<w1.heap.size:=by omega
    have mk:∀W,Up w1 W->At W (w.heap.size+1) 0 (Vz b9 ss.length c1)/\At W (w.heap.size+2) k (Tz s0):=λW hb=>⟨(hb.cell (p:=⟨w.heap.size+1,0,none⟩) e6).trans z0,(hb.cell (p:=⟨w.heap.size+2,k,none⟩) d0).trans c0⟩;have a6:=mk w1.drew (A4 _ _).drew;have d8:=mk (w1.drew.alloc (Kz [Tz s0] 9)) ((A4 _ _).drew.alloc (A3 _) _);have a0:=World.ownsRow.alloc (Rg a1) (Kz [Tz s0] 9);go_wp2_with fail;refine T9 9 (λw'=>At w' (w.heap.size+1) 0 (Vz b9 ss.length c1)/\At w' (w.heap.size+2) k (Tz s0)) (by kernel_rfl) ?_;refine V7 (i:=0) (v:=?_) rfl (by kernel_rfl) (by kernel_rfl) (by kernel_rfl) (by kernel_rfl) (λ_ _ _ h=>h) (by rfl) a6 ?_ ?_;rotate_left;focus (intro w hSw;(try dsimp only at hSw);go_simp;try with_reducible rfl);(try simp only[Act.put,List.setIfInBounds_toArray,List.set_cons_zero,List.set_cons_succ])
    refine V7 (i:=1) (v:=?_) rfl (by kernel_rfl) (by kernel_rfl) (by kernel_rfl) (by kernel_rfl) (λ_ _ _ h=>h) (by rfl) a6 ?_ ?_;rotate_left;focus (intro w hSw;(try dsimp only at hSw);go_simp;try with_reducible rfl);(try simp only[Act.put,List.setIfInBounds_toArray,List.set_cons_zero,List.set_cons_succ])
    refine V7 (i:=2) (v:=?_) rfl (by kernel_rfl) (by kernel_rfl) (by kernel_rfl) (by kernel_rfl) (λ_ _ _ h=>h) (by rfl) a6 ?_ ?_;rotate_left;focus (intro w hSw;(try dsimp only at hSw);go_simp;try with_reducible rfl);(try simp only[Act.put,List.setIfInBounds_toArray,List.set_cons_zero,List.set_cons_succ])
    refine V7 (i:=3) (v:=?_) rfl (by kernel_rfl) (by kernel_rfl) (by kernel_rfl) (by kernel_rfl) (λ_ _ _ h=>h) (by rfl) a6 ?_ ?_;rotate_left;focus (intro w hSw;(try dsimp only at hSw);go_simp;try with_reducible rfl);(try simp only[Act.put,List.setIfInBounds_toArray,List.set_cons_zero,List.set_cons_succ])
    refine V7 (i:=4) (v:=?_) rfl (by kernel_rfl) (by kernel_rfl) (by kernel_rfl) (by kernel_rfl) (λ_ _ _ h=>h) (by rfl) a6 ?_ ?_;rotate_left;focus (intro w hSw;(try dsimp only at hSw);go_simp;try with_reducible rfl);(try simp only[Act.put,List.setIfInBounds_toArray,List.set_cons_zero,List.set_cons_succ])
    refine V7 (i:=5) (v:=?_) rfl (by kernel_rfl) (by kernel_rfl) (by kernel_rfl) (by kernel_rfl) (λ_ _ _ h=>h) (by rfl) a6 ?_ ?_;rotate_left;focus (intro w hSw;(try dsimp only at hSw);go_simp;try with_reducible rfl);(try simp only[Act.put,List.setIfInBounds_toArray,List.set_cons_zero,List.set_cons_succ])
    refine T0 6 rfl (λK hK=>?_);go_simp;refine Y1 hK d8 ?_;clear hK K;(try simp only[Act.put,List.setIfInBounds_toArray,List.set_cons_zero,List.set_cons_succ]);refine T0 7 rfl (λK hK=>?_);refine O3 rfl _ _ 23 rfl (w.heap.size+3) 9 ii _ 1 16 underlying23 hi e0 e1 e2 rfl (by decide) _ _ _ rfl a0 ⟨w1.heap.size,0,none⟩ 1 1 [Tz s0] rfl rfl (BZ _ _ _) (Gk s0) (by unfold maxLen;omega) (by omega) (by simp;omega) ?_;intro v' w2 hown2 hgr2;have b3:=((a9.drew).alloc (Kz [Tz s0] 9)).own a0 hgr2 (by omega);have b4:=Ih (ID (Cb b0) (Kz [Tz s0] 9)) a0 hgr2 (by omega);have b7:Up w1 (w1.drew.alloc (Kz [Tz s0] 9)):=(A4 _ _).drew.alloc (A3 _) _;have b5:=(c9.up b7 (by omega)).kept hgr2 (Af a0 (by omega));have a5:=(c3.up b7 (by omega)).kept hgr2 (Af a0 (by omega));have a7:some (w.heap.size+2)≠(Vz b9 ss.length c1).ownBlock:=Af a0 (by omega);have b2:N3 w2 (w.heap.size+2) 0 P8:=λi s hs=>hgr2.cell ((b7.cell (p:=⟨w.heap.size+2,0+i,none⟩) d0).trans (c4 i s hs)) a7;have f8:w1.heap.size<=w2.heap.size:=by have:=hgr2.size;simp at this;omega
    have d9:G3 w2 (w.heap.size+3) v' (ss++[s0]):=by unfold G3;simpa using hown2
    obtain⟨a2,c2,rfl⟩:=L9 hown2;have d1:At w2 (w.heap.size+1) 0 (Vz b9 ss.length c1)/\At w2 (w.heap.size+2) k (Tz s0):=⟨a5.c2.1.1,by have:=hgr2.cell ((b7.cell (p:=⟨w.heap.size+2,k,none⟩) d0).trans c0) a7;exact this⟩;obtain⟨⟨y0,y1⟩,f0,f1⟩:=a5.c2;clear a7 hgr2 b7 a0 hown2 a1 d8 mk;refine Y1 hK d1 ?_;clear hK K;(try simp only[Act.put,List.setIfInBounds_toArray]);refine V7 (i:=8) (v:=?_) rfl (by kernel_rfl) (by kernel_rfl) (by kernel_rfl) (by kernel_rfl) (λ_ _ _ h=>h) (by rfl) d1 ?_ ?_;rotate_left;focus (intro w hSw;(try dsimp only at hSw);go_simp;try with_reducible rfl);(try simp only[Act.put,List.setIfInBounds_toArray,List.set_cons_zero,List.set_cons_succ])
    refine T0 9 rfl (λK hK=>?_);go_simp;refine GU hK ?_;clear hK K;refine Y2 (by kernel_rfl) ?_ _;have e7:=J0 d9 (E6 (rb:=w.heap.size+1) (off:=0) (F4 w2 _) (Vz a2 (ss.length+1) c2)) (by omega);have e8:CB (w2.setCell ⟨w.heap.size+1,0,none⟩ (Vz a2 (ss.length+1) c2)) (w.heap.size+1) [Vz a2 (ss.length+1) c2,Nz]:=a5.set (j:=0) (by simp);have e9:CB (w2.setCell ⟨w.heap.size+1,0,none⟩ (Vz a2 (ss.length+1) c2)) w.heap.size [Nz,Nz]:=b5.other (by omega);have f2:=b2.other (pb:=w.heap.size+1) (off:=0) (u:=Vz a2 (ss.length+1) c2) (by omega);have f3:=b3.setCell (pb:=w.heap.size+1) (off:=0) (u:=Vz a2 (ss.length+1) c2) (by omega);have f4:w.grownBy (w2.setCell ⟨w.heap.size+1,0,none⟩ (Vz a2 (ss.length+1) c2)) (some rb):=AK b4 (by omega) _;clear c4 a6 d1 y0 y1 f0 f1 z0 z1 g0 g1 c0 d9 a5 b5 b2 b3 b4 a9 b0 c9 c3;go_wp2_with fail;go_roundw
    case rel=>exact⟨k+1,Vz a2 (ss.length+1) c2,ss++[s0],by omega,by go_num,e9,e8,e7,e4,by simp;omega,λs hs=>by
      rcases C9.1 hs with h|h
      ·exact Hsz.out s h
      ·obtain rfl:s=s0:=by simpa using h
       exact e5,f2,f3,f4,by simp;omega⟩
    case measure=>simp[intOf];omega
   ·go_wp2_with fail;go_roundw
    case rel=>exact⟨k+1,_,ss,by omega,by go_num,c9,c3,a1,by (show List.Sublist _ _);rw[c8.out (by simp[P8];omega)];exact a4.out.trans (List.sublist_append_left _ _),by omega,Hsz.out,c4,a9,b0,by omega⟩
    case measure=>simp[intOf];omega
  ·obtain⟨⟨z0,z1⟩,-⟩:=kQ.c2;obtain⟨⟨y0,y1⟩,f0,f1⟩:=kR.c2;go_wp2_with fail;refine CF results20 underlying26 rfl M4 kR rfl ?_;refine⟨⟨_,_,ss,rfl,?_,a4.out.trans (List.take_sublist _ _)⟩,((c6.setCell d6).setCell d6).mono (by omega),AK (AK c7 (A3 _) _) (A3 _) _⟩;refine⟨N4.low (N4.set (N4.set ⟨_,_,[],rfl,a3,⟨B9 _ _ _ _,λp hp=>by simp at hp⟩,rfl⟩ (by omega)) (by omega)) (by omega),⟨Hsz.out,λx hx=>by simp at hx⟩,?_⟩;exact⟨by show ss.length<=40;omega,by simp,λx hx=>by simp at hx⟩
end Go.Proofs.YtcgkgmmclfeohaaGreatDoor
