/- From a good run at every shaped start to a row of a call that starts goroutines. -/
import Derived.Conc.LeavingOf
import Derived.Test.YtmfjakieahkacaaGreatDoorJ33
import Derived.Test.YtmfjakieahkacaaGreatDoorJ14
import Derived.Test.YtmfjakieahkacaaGreatDoorJ40
import Derived.Test.YtmfjakieahkacaaGreatDoorProg
import Derived.Test.YtmfjakieahkacaaGreatDoorJ43
import Derived.Test.YtmfjakieahkacaaGreatDoorJ36
import Derived.Test.YtmfjakieahkacaaGreatDoorKp7
import Derived.Test.YtmfjakieahkacaaGreatDoorDna
import Derived.Test.YtmfjakieahkacaaGreatDoorDn8
import Derived.Test.YtmfjakieahkacaaGreatDoorDn6
set_option maxRecDepth 100000
set_option maxHeartbeats 4000000
namespace Go.Proofs.YtmfjakieahkacaaGreatDoor
open Go.Conc
theorem Qe:Tryz.prog.globals.size=gN:=by kernel_rfl
theorem Qf:((List.range gN).all λg=>(((begin Tryz.prog (λ_ _=>0) default).world.heap[g]?).bind Obj.row?).isSome)=true:=by kernel_rfl
theorem TU{W:World}(h:W.ShapedOpen Tryz.prog)(b:Nat)(c:Array Value)(t:TypeId)(hb:W.heap[b]?=some (Obj.pending c t)):gN<=b:=by
 refine Nat.le_of_not_lt λhlt=>?_;have h1:=List.all_eq_true.1 Qf b (List.mem_range.2 hlt);obtain⟨⟨zero,e⟩,hr⟩:=Option.isSome_iff_exists.1 h1;obtain⟨cs,hc,_⟩:=h.1 b zero e (by rw[Qe];exact hlt) hr;rw[hc] at hb;cases hb
end Go.Proofs.YtmfjakieahkacaaGreatDoor
namespace Go.Proofs.YtmfjakieahkacaaGreatDoor
open Go.Conc Go.ConcN Go.RowKit Go.Conc.Lib Go.ConcR.Gen Go.ConcN.Gen
open Go.ConcR (KK wgBlock WgAt stA smA rd wr mk Payload DC0)
section
variable {X0 X:Nat->Prop} {W0 V:World} {F:World->Prop} {Shun:Loc->Prop} {Post:Value->World->Prop} {f:Frame} {k:List Item} {cs:List Frame} {gs:Array Goroutine} {sl:Option (Nat×Nat)} {t:Trace} {n:Nat} {T:Array Value} {l:List (Nat×Value)} {ops:Array Oper} {i:Nat} {rest:List Nat} {o:Oper} {bx:Nat} {x1 x2:Value}
theorem DD{x:Operand}{d:Nat}(hI:L8 X0 W0 F X Shun V)(hh:K1 Tryz.prog Shun gs (G (f.at ⟨T,[]⟩ (.inRegion ops (i::rest)::k)) cs) t)(hT:P5 n T l)(ho:ops[i]?=some o)(hw:Region.wanted o (yielded ops T)=true)(hk:f.kind=.normal)(hdst:o.dst=some d)(hop:o.op=.load 26 x)(hx:(⟨T,[]⟩:Act).eval x=.pointer (some ⟨bx,0,none⟩))(hc:∀u,F u->CB u bx [x1,x2])(hd:d<n)(hn:∀p∈l,p.1≠d)
  (kk:∀gs' sl' t' x T',K1 Tryz.prog Shun gs' (G (f.at ⟨T',[]⟩ (.inRegion ops rest::k)) cs) t'->P5 n T' ((d,.agg #[x1,x2])::l)->G4 Tryz.prog Post (crowd gs' (V.at x) sl') t'):G4 Tryz.prog Post (crowd gs V sl) t:=by
 obtain⟨q0,q1,q2⟩:=hI.cell (a:=⟨bx,0,none⟩) (v:=x1) λu hu=>(hc u hu).1 0 _ rfl;obtain⟨p0,p1,p2⟩:=hI.cell (a:=⟨bx,1,none⟩) (v:=x2) λu hu=>(hc u hu).1 1 _ rfl;refine Cu V.heap.size hh hT ho hw hk hdst hd hn (λz=>?_) (λz e he=>?_) kk
 ·have c0:(V.at z).cell? ⟨bx,0,none⟩=some x1:=q0;have c1:(V.at z).cell? ⟨bx,1,none⟩=some x2:=p0;unfold execOp;rw[hop];simp only[hx];simp[go_sem,c0,c1]
 ·have c0:(V.at z).cell? ⟨bx,0,none⟩=some x1:=q0;have c1:(V.at z).cell? ⟨bx,1,none⟩=some x2:=p0;unfold execOp at he;rw[hop] at he;simp only[hx] at he;simp[go_sem,c0,c1] at he;rcases he with rfl|rfl
  ·exact BG q1 q2
  ·exact BG p1 p2
theorem AcP{x:Operand}{d:Nat}(hI:L8 X0 W0 F X Shun V)(hh:K1 Tryz.prog Shun gs (G (f.at ⟨T,[]⟩ (.inRegion ops (i::rest)::k)) cs) t)(hT:P5 n T l)(ho:ops[i]?=some o)(hw:Region.wanted o (yielded ops T)=true)(hk:f.kind=.normal)(hdst:o.dst=some d)(hop:o.op=.load 44 x)(hx:(⟨T,[]⟩:Act).eval x=.pointer (some ⟨bx,0,none⟩))(hc:∀u,F u->CB u bx [x1,x2])(hd:d<n)(hn:∀p∈l,p.1≠d)
  (kk:∀gs' sl' t' x T',K1 Tryz.prog Shun gs' (G (f.at ⟨T',[]⟩ (.inRegion ops rest::k)) cs) t'->P5 n T' ((d,.agg #[x1,x2])::l)->G4 Tryz.prog Post (crowd gs' (V.at x) sl') t'):G4 Tryz.prog Post (crowd gs V sl) t:=by
 obtain⟨q0,q1,q2⟩:=hI.cell (a:=⟨bx,0,none⟩) (v:=x1) λu hu=>(hc u hu).1 0 _ rfl;obtain⟨p0,p1,p2⟩:=hI.cell (a:=⟨bx,1,none⟩) (v:=x2) λu hu=>(hc u hu).1 1 _ rfl;refine Cu V.heap.size hh hT ho hw hk hdst hd hn (λz=>?_) (λz e he=>?_) kk
 ·have c0:(V.at z).cell? ⟨bx,0,none⟩=some x1:=q0;have c1:(V.at z).cell? ⟨bx,1,none⟩=some x2:=p0;unfold execOp;rw[hop];simp only[hx];simp[go_sem,c0,c1]
 ·have c0:(V.at z).cell? ⟨bx,0,none⟩=some x1:=q0;have c1:(V.at z).cell? ⟨bx,1,none⟩=some x2:=p0;unfold execOp at he;rw[hop] at he;simp only[hx] at he;simp[go_sem,c0,c1] at he;rcases he with rfl|rfl
  ·exact BG q1 q2
  ·exact BG p1 p2
variable {P:Program} {b:Frame} {a:Act}
theorem Wo(ρ:Operand->Value)(o:Oper){r:Operand}{name:String}{xs:Array Operand}{ats:Array TypeId}(hop:o.op=.call {callee:=.invoke r name,args:=xs,argTypes:=ats}):execOp ρ o=callMethod (ρ r) name ((#[ρ r]++xs.map ρ).extract 1 (#[ρ r]++xs.map ρ).size):=by
 unfold execOp;rw[hop];show (do let d ← resolve ρ _ o.type;invoke d.target d.args)=_
 have e:(#[ρ r]++xs.map ρ)[0]?=some (ρ r):=by rw[Array.getElem?_append_left (show 0 < #[ρ r].size from Nat.one_pos)];rfl
 show invoke (.fn (.method name) #[]) (#[ρ r]++xs.map ρ)=_
 unfold invoke;simp only[e]
theorem Ab8{ops:Array Oper}{i:Nat}{rest:List Nat}{o:Oper}{r:Operand}{name:String}{xs:Array Operand}{ats:Array TypeId}{mf:FuncId}{vs:Array Value}(hh:K1 P Shun gs (G (b.at a (.inRegion ops (i::rest)::k)) cs) t)(ho:ops[i]?=some o)(hw:Region.wanted o (yielded ops a.tmps)=true)(hk:b.kind=.normal)(hop:o.op=.call {callee:=.invoke r name,args:=xs,argTypes:=ats})
  (hrun:∀w,(callMethod (a.eval r) name ((#[a.eval r]++xs.map a.eval).extract 1 (#[a.eval r]++xs.map a.eval).size)).runT P w #[]=(.ok (.enter mf vs) w,#[]))
  (kk:∀gs' sl' t' d,K1 P Shun gs' (G (Frame.enter P mf vs .normal) (b.at a (.inRegion ops (i::rest)::k)::cs)) t'->G4 P Post (crowd gs' (V.at d) sl') t'):G4 P Post (crowd gs V sl) t:=by
 have hs:∀w,stepG P true (G (b.at a (.inRegion ops (i::rest)::k)) cs) w=.go (G (Frame.enter P mf vs .normal) (b.at a (.inRegion ops (i::rest)::k)::cs)) w #[]:=λw=>by
  have h1:(execOp a.eval o).runT P w #[]=(.ok (.enter mf vs) w,#[]):=by rw[Wo _ _ hop];exact hrun w
  have h2:(execOp a.eval o).run P w=.ok (.enter mf vs) w:=by rw[← Sem.runT_fst P (execOp a.eval o) w #[],h1]
  rw[stepG_enter ho hw (by rw[hk];intro h;cases h) h2]
  have:listed P b.fn a o w=#[]:=by
   unfold listed Sem.events;rw[h1];exact seen_none P _
  rw[this]
 exact O9 hh rfl hs kk
theorem AcQ{r:Operand}{name:String}{xs:Array Operand}{ats:Array TypeId}{mf:FuncId}{d:Nat}(vs:Array Value)(hh:K1 P Shun gs (G (b.at ⟨T,[]⟩ (.inRegion ops (i::rest)::k)) cs) t)(hT:P5 n T l)(ho:ops[i]?=some o)(hw:Region.wanted o (yielded ops T)=true)(hk:b.kind=.normal)(hdst:o.dst=some d)(hop:o.op=.call {callee:=.invoke r name,args:=xs,argTypes:=ats})
  (hrun:∀w,(callMethod (Act.eval ⟨T,[]⟩ r) name ((#[Act.eval ⟨T,[]⟩ r]++xs.map (Act.eval ⟨T,[]⟩)).extract 1 (#[Act.eval ⟨T,[]⟩ r]++xs.map (Act.eval ⟨T,[]⟩)).size)).runT P w #[]=(.ok (.enter mf vs) w,#[])) (hd:d<n) (hn:∀p∈l,p.1≠d) {R:Value->World->Prop}
  (hc:∀d,CD P mf vs X Shun (V.at d) R)
  (kk:∀X' Shun' gs' w' sl' t' v T',AH Shun' X'->(∀b,X' b->X b∨V.heap.size<=b)->K1 P Shun' gs' (G (b.at ⟨T',[]⟩ (.inRegion ops rest::k)) cs) t'->P5 n T' ((d,v)::l)->N9 X' w'->(∀τ d,R v (E0 X' w' τ d)/\Below V.heap.size (E0 X V τ d) (E0 X' w' τ d))->G4 P Post (crowd gs' w' sl') t'):G4 P Post (crowd gs V sl) t:=by
 refine Ab8 hh ho hw hk hop hrun λgs1 sl1 t1 d1 hh1=>?_;refine hc d1 Post _ cs gs1 sl1 t1 hh1 λX' Shun' gs' w' sl' t' v hX' hW' hh' hb' hR'=>?_;rw[Frame.finish_at,ho] at hh';simp only[Option.bind_some,hdst] at hh';exact kk X' Shun' gs' w' sl' t' v _ hX' hW' hh' (hT.put d v hd hn) hb' hR'
end
end Go.Proofs.YtmfjakieahkacaaGreatDoor
namespace Go.Proofs.YtmfjakieahkacaaGreatDoor
open Go.RowKit
theorem Fu(T:Array Value)(h:T.size=53):∃v0 v1 v2 v3 v4 v5 v6 v7 v8 v9 v10 v11 v12 v13 v14 v15 v16 v17 v18 v19 v20 v21 v22 v23 v24 v25 v26 v27 v28 v29 v30 v31 v32 v33 v34 v35 v36 v37 v38 v39 v40 v41 v42 v43 v44 v45 v46 v47 v48 v49 v50 v51 v52:Value,T=#[v0,v1,v2,v3,v4,v5,v6,v7,v8,v9,v10,v11,v12,v13,v14,v15,v16,v17,v18,v19,v20,v21,v22,v23,v24,v25,v26,v27,v28,v29,v30,v31,v32,v33,v34,v35,v36,v37,v38,v39,v40,v41,v42,v43,v44,v45,v46,v47,v48,v49,v50,v51,v52]:=by
 obtain⟨l⟩:=T;simp only[List.size_toArray] at h;obtain⟨v0,l1,rfl,h1⟩:=D7 h;obtain⟨v1,l2,rfl,h2⟩:=D7 h1;obtain⟨v2,l3,rfl,h3⟩:=D7 h2;obtain⟨v3,l4,rfl,h4⟩:=D7 h3;obtain⟨v4,l5,rfl,h5⟩:=D7 h4;obtain⟨v5,l6,rfl,h6⟩:=D7 h5;obtain⟨v6,l7,rfl,h7⟩:=D7 h6;obtain⟨v7,l8,rfl,h8⟩:=D7 h7;obtain⟨v8,l9,rfl,h9⟩:=D7 h8;obtain⟨v9,l10,rfl,h10⟩:=D7 h9;obtain⟨v10,l11,rfl,h11⟩:=D7 h10;obtain⟨v11,l12,rfl,h12⟩:=D7 h11;obtain⟨v12,l13,rfl,h13⟩:=D7 h12;obtain⟨v13,l14,rfl,h14⟩:=D7 h13;obtain⟨v14,l15,rfl,h15⟩:=D7 h14;obtain⟨v15,l16,rfl,h16⟩:=D7 h15;obtain⟨v16,l17,rfl,h17⟩:=D7 h16;obtain⟨v17,l18,rfl,h18⟩:=D7 h17;obtain⟨v18,l19,rfl,h19⟩:=D7 h18;obtain⟨v19,l20,rfl,h20⟩:=D7 h19;obtain⟨v20,l21,rfl,h21⟩:=D7 h20;obtain⟨v21,l22,rfl,h22⟩:=D7 h21;obtain⟨v22,l23,rfl,h23⟩:=D7 h22;obtain⟨v23,l24,rfl,h24⟩:=D7 h23;obtain⟨v24,l25,rfl,h25⟩:=D7 h24;obtain⟨v25,l26,rfl,h26⟩:=D7 h25;obtain⟨v26,l27,rfl,h27⟩:=D7 h26;obtain⟨v27,l28,rfl,h28⟩:=D7 h27;obtain⟨v28,l29,rfl,h29⟩:=D7 h28;obtain⟨v29,l30,rfl,h30⟩:=D7 h29;obtain⟨v30,l31,rfl,h31⟩:=D7 h30;obtain⟨v31,l32,rfl,h32⟩:=D7 h31;obtain⟨v32,l33,rfl,h33⟩:=D7 h32;obtain⟨v33,l34,rfl,h34⟩:=D7 h33;obtain⟨v34,l35,rfl,h35⟩:=D7 h34;obtain⟨v35,l36,rfl,h36⟩:=D7 h35;obtain⟨v36,l37,rfl,h37⟩:=D7 h36;obtain⟨v37,l38,rfl,h38⟩:=D7 h37;obtain⟨v38,l39,rfl,h39⟩:=D7 h38;obtain⟨v39,l40,rfl,h40⟩:=D7 h39;obtain⟨v40,l41,rfl,h41⟩:=D7 h40;obtain⟨v41,l42,rfl,h42⟩:=D7 h41;obtain⟨v42,l43,rfl,h43⟩:=D7 h42;obtain⟨v43,l44,rfl,h44⟩:=D7 h43;obtain⟨v44,l45,rfl,h45⟩:=D7 h44;obtain⟨v45,l46,rfl,h46⟩:=D7 h45;obtain⟨v46,l47,rfl,h47⟩:=D7 h46;obtain⟨v47,l48,rfl,h48⟩:=D7 h47;obtain⟨v48,l49,rfl,h49⟩:=D7 h48;obtain⟨v49,l50,rfl,h50⟩:=D7 h49;obtain⟨v50,l51,rfl,h51⟩:=D7 h50;obtain⟨v51,l52,rfl,h52⟩:=D7 h51;obtain⟨v52,l53,rfl,h53⟩:=D7 h52;obtain rfl:=List.eq_nil_of_length_eq_zero h53;exact⟨_,_,_,_,_,_,_,_,_,_,_,_,_,_,_,_,_,_,_,_,_,_,_,_,_,_,_,_,_,_,_,_,_,_,_,_,_,_,_,_,_,_,_,_,_,_,_,_,_,_,_,_,_,rfl⟩
def pb(a:Act)(i:Nat):Nat:=match a.tmps[i]? with|some (.pointer (some p))=>p.block|_=>0
noncomputable def Cv:Code:=Tryz.f149.body.getD .skip
noncomputable def So:Code:=match Cv with | .seq r _=>r|_=>.skip
noncomputable def Qg:Code:=match Cv with | .seq _ (.seq r _)=>r|_=>.skip
noncomputable def Qh:Code:=match Cv with | .seq _ (.seq _ (.seq r _))=>r|_=>.skip
noncomputable def AQ:Array Oper:=match Cv with | .seq _ (.seq _ (.seq _ (.seq (.seq (.region _ o _) _) _)))=>o|_=>#[]
noncomputable def Kg:Code:=match Cv with | .seq _ (.seq _ (.seq _ (.seq (.seq _ r) _)))=>r|_=>.skip
noncomputable def Ik:Code:=match Cv with | .seq _ (.seq _ (.seq _ (.seq _ r)))=>r|_=>.skip
theorem Ya:Cv=.seq So (.seq Qg (.seq Qh (.seq (.seq (.region 11 AQ false) Kg) Ik))):=by simp only[So,Qg,Qh,AQ,Kg,Ik,Cv,Tryz.f149,Option.getD_some]
noncomputable def bQ:Frame:=Go.Conc.base 149
def YL(av bv:Value):Array Value:=#[av,bv,undef,undef,undef,undef,undef,undef,undef,undef,undef,undef,undef,undef,undef,undef,undef,undef,undef,undef,undef,undef,undef,undef,undef,undef,undef,undef,undef,undef,undef,undef,undef,undef,undef,undef,undef,undef,undef,undef,undef,undef,undef,undef,undef,undef,undef,undef,undef,undef,undef,undef,undef]
theorem Ab9(av bv:Value):Frame.enter Tryz.prog 149 #[av,bv] .normal=bQ.at ⟨YL av bv,[]⟩ [.code Cv]:=by
 simp[Frame.enter,Frame.at,Tryz.func149,bQ,Go.Conc.base,YL,Cv,Tryz.f149]
theorem Qi:CC Tryz.prog bQ:=⟨rfl,_,Tryz.func149⟩
theorem Qj:∀r∈[So,Qg,Qh,Kg,Ik],N7 Tryz.prog (λg=>EN.contains g) r=true:=by
 intro r hr;simp only[List.mem_cons,List.not_mem_nil,or_false] at hr;rcases hr with rfl|rfl|rfl|rfl|rfl<;>kernel_rfl
def NI(av bvs:List Value)(a:Act)(u:World):Prop:=a.tmps.size=53/\a.tmps[2]?=some (.pointer (some ⟨pb a 2,0,none⟩))/\a.tmps[3]?=some (.pointer (some ⟨pb a 3,0,none⟩))/\CB u (pb a 2) av/\CB u (pb a 3) bvs
theorem Qk(av bvs:List Value)(a:Act):P4 (NI av bvs a):=λ_ _ _ h=>h
section
variable {b:Bk} {nm:ByteArray} {ls:List ByteArray} {la:Option Addr} {lc:Nat} {a1 a2:Option Addr} {c1 c2:Nat}
theorem AbA(u:World):Bb Tryz.prog [So] (λe a u'=>e=.normal/\NI [.string nm,.slice la ls.length lc] [.slice a1 b.tg.length c1,.slice a2 b.bs.length c2] a u'/\Below u.heap.size u u') ⟨YL (.agg #[.string nm,.slice la ls.length lc]) (.agg #[.slice a1 b.tg.length c1,.slice a2 b.bs.length c2]),[]⟩ u:=by
 obtain⟨W1,hW1,kA,kB,hB1,hs1⟩:=cbE2 u [.string nm,.slice la ls.length lc] 44 [.slice a1 b.tg.length c1,.slice a2 b.bs.length c2] 26;simp only[So,YL,Cv,Tryz.f149,Option.getD_some];apply Y1;intro K hK
 go_wp2_with fail;try rw[hW1]
 exact⟨rfl,⟨rfl,rfl,rfl,kA,kB⟩,hB1⟩
variable {x2 x3:Nat}
theorem Wp(v0 v1 v4 v5 v6 v7 v8 v9 v10 v11 v12 v13 v14 v15 v16 v17 v18 v19 v20 v21 v22 v23 v24 v25 v26 v27 v28 v29 v30 v31 v32 v33 v34 v35 v36 v37 v38 v39 v40 v41 v42 v43 v44 v45 v46 v47 v48 v49 v50 v51 v52:Value)(u:World)(h:K0 u (.agg #[.slice a1 b.tg.length c1,.slice a2 b.bs.length c2]) b)(hok:J0 b)(hl:Ls u (.slice la ls.length lc) ls)(kA:CB u x2 [.string nm,.slice la ls.length lc])(kB:CB u x3 [.slice a1 b.tg.length c1,.slice a2 b.bs.length c2]){Q:Exit->Act->World->Prop}
  (HN:Hid (Y0 b nm ls=0->∀(a:Act)(u':World),a.defers=[]->a.tmps.size=53->a.tmps[2]?=some (.pointer (some ⟨x2,0,none⟩))->a.tmps[3]?=some (.pointer (some ⟨x3,0,none⟩))->Below u.heap.size u u'->Q .normal a u'))
  (HR:Hid (Y0 b nm ls≠0->∀(a:Act)(u':World),a.defers=[]->a.tmps.getD 4 undef=AO (Y0 b nm ls)->Below u.heap.size u u'->Q .ret a u')):Qg.wp Tryz.prog Q ⟨#[v0,v1,.pointer (some ⟨x2,0,none⟩),.pointer (some ⟨x3,0,none⟩),v4,v5,v6,v7,v8,v9,v10,v11,v12,v13,v14,v15,v16,v17,v18,v19,v20,v21,v22,v23,v24,v25,v26,v27,v28,v29,v30,v31,v32,v33,v34,v35,v36,v37,v38,v39,v40,v41,v42,v43,v44,v45,v46,v47,v48,v49,v50,v51,v52],[]⟩ u:=by
 simp only[Qg,Cv,Tryz.f149,Option.getD_some];obtain⟨e0,e1⟩:=kA.c2';obtain⟨d0,d1⟩:=kB.c2';go_wp2_with fail;refine (QU b _ nm _ ls _ h hok hl).mono ?_;rintro e w2 ⟨rfl,hB2⟩;clear d0 d1 e0 e1 kA kB;by_cases hc:Y0 b nm ls=0
 ·have HN0:=HN.out hc;have HN1:Hid (∀(a:Act)(u':World),a.defers=[]->a.tmps.size=53->a.tmps[2]?=some (.pointer (some ⟨x2,0,none⟩))->a.tmps[3]?=some (.pointer (some ⟨x3,0,none⟩))->Below u.heap.size u u'->Q .normal a u'):=HN0;clear HN0 HN HR;rw[hc,Nf];clear hc;go_wp2_with fail;exact HN1.out _ _ rfl rfl rfl rfl hB2
 ·have HR0:=HR.out hc;have hre:AO (Y0 b nm ls)=.iface 78 (.agg #[.int .i64 (Y0 b nm ls)]):=Ng hc;rw[hre] at HR0;have HR1:Hid (∀(a:Act)(u':World),a.defers=[]->a.tmps.getD 4 undef=.iface 78 (.agg #[.int .i64 (Y0 b nm ls)])->Below u.heap.size u u'->Q .ret a u'):=HR0;clear HR0 HN HR;rw[hre];clear hre;generalize Y0 b nm ls=c0 at *;clear hc;go_wp2_with fail
  (try simp only[Exit.inBlock,Exit.then])
  exact HR1.out _ _ rfl rfl hB2
theorem Wq(v0 v1 v4 v5 v6 v7 v8 v9 v10 v11 v12 v13 v14 v15 v16 v17 v18 v19 v20 v21 v22 v23 v24 v25 v26 v27 v28 v29 v30 v31 v32 v33 v34 v35 v36 v37 v38 v39 v40 v41 v42 v43 v44 v45 v46 v47 v48 v49 v50 v51 v52:Value)(u:World)(h:K0 u (.agg #[.slice a1 b.tg.length c1,.slice a2 b.bs.length c2]) b)(hok:J0 b)(hl:Ls u (.slice la ls.length lc) ls)(kA:CB u x2 [.string nm,.slice la ls.length lc])(kB:CB u x3 [.slice a1 b.tg.length c1,.slice a2 b.bs.length c2])(hc:Y0 b nm ls=0){Q:Exit->Act->World->Prop}
  (HN:Hid (¬T4 b.bs (I3 b nm:Int) ls->∀(a:Act)(u':World),a.defers=[]->a.tmps.size=53->a.tmps[2]?=some (.pointer (some ⟨x2,0,none⟩))->a.tmps[3]?=some (.pointer (some ⟨x3,0,none⟩))->Below u.heap.size u u'->Q .normal a u'))
  (HR:Hid (T4 b.bs (I3 b nm:Int) ls->∀(a:Act)(u':World),a.defers=[]->a.tmps.getD 4 undef=.iface 78 (.agg #[.int .i64 5])->Below u.heap.size u u'->Q .ret a u')):Qh.wp Tryz.prog Q ⟨#[v0,v1,.pointer (some ⟨x2,0,none⟩),.pointer (some ⟨x3,0,none⟩),v4,v5,v6,v7,v8,v9,v10,v11,v12,v13,v14,v15,v16,v17,v18,v19,v20,v21,v22,v23,v24,v25,v26,v27,v28,v29,v30,v31,v32,v33,v34,v35,v36,v37,v38,v39,v40,v41,v42,v43,v44,v45,v46,v47,v48,v49,v50,v51,v52],[]⟩ u:=by
 obtain⟨-,-,-,hlm,hzl,-⟩:=id hl;unfold maxLen at hlm;have hm:=Da hc;have Htk:Hid (T4 b.bs (I3 b nm:Int) ls↔∃s∈ls,DC b nm s):=NC hok hm;have hsh:=Kq hok hc;clear hc;simp only[Qh,Cv,Tryz.f149,Option.getD_some];obtain⟨e0,e1⟩:=kA.c2';obtain⟨-,-,hpos⟩:=hl.inv;go_wp2_with fail;go_loopw [22] (λi w'=>∃k:Nat,k<=ls.length/\i=.int .i64 (k:Int)/\(∀(j:Nat)(s:ByteArray),j<k->ls[j]?=some s->¬DC b nm s)/\Below u.heap.size u w') (λi _=>ls.length-(intOf i).toNat)
 case atStart=>exact⟨0,by omega,rfl,λj s hj=>by omega,A4 _ _⟩
 case round =>
  obtain⟨k,hk,rfl,hno,hB⟩:=hrel;have Hno:Hid (∀(j:Nat)(s:ByteArray),j<k->ls[j]?=some s->¬DC b nm s):=hno;clear hno;by_cases hp:k<ls.length
  ·obtain⟨bb,o,rfl,hS,hbb⟩:=hpos (by omega);have c0:=(hS.up hB hbb).cell hp;have hs0:=hzl ls[k] (by simp)
   have Hstep:Hid (¬DC b nm ls[k]->∀(j:Nat)(s:ByteArray),j<k+1->ls[j]?=some s->¬DC b nm s):=λhn=>by
    intro j s hj hs;by_cases e:j=k
    ·subst e;rw[A0 hp] at hs;obtain rfl:=A5 hs;exact hn
    ·exact Hno.out j s (by omega) hs
   have H5:Hid (DC b nm ls[k]->T4 b.bs (I3 b nm:Int) ls):=λho=>Htk.out.2 ⟨_,List.getElem_mem hp,ho⟩;generalize ls[k]=s0 at *;have kBr:=kB.up hB kB.2.2;have kAr:=kA.up hB kA.2.2;obtain⟨d0,d1⟩:=kBr.c2';go_wp2_with fail;refine (Mm b _ s0 _ (h.up hB) hs0).mono ?_;rintro e w3 ⟨rfl,hB3⟩;rw[X5,if_pos (show I1 b=true from Z3 hok)];have hB23:=D1 hB hB3;have kA3:=kAr.up hB3 (by have:=hB.size;have:=kA.2.2;omega);obtain⟨f0,f1⟩:=kA3.c2';have Hot:Hid (DC b nm s0↔CK b.bs s0≠⟨#[]⟩/\CK b.bs s0≠nm):=Iff.rfl;generalize CK b.bs s0=wh at *;clear c0 d0 d1 kBr kAr kA3 hB hB3;by_cases q1:wh=⟨#[]⟩
   ·have HX':Hid (∀(j:Nat)(s:ByteArray),j<k+1->ls[j]?=some s->¬DC b nm s):=Hstep.out λho=>(Hot.out.1 ho).1 q1;subst q1;clear Hot;go_wp2_with fail;go_roundw
    case rel=>exact⟨k+1,by omega,by go_num,HX'.out,hB23⟩
    case measure=>simp[intOf];omega
   by_cases q2:wh=nm
   ·have HX':Hid (∀(j:Nat)(s:ByteArray),j<k+1->ls[j]?=some s->¬DC b nm s):=Hstep.out λho=>(Hot.out.1 ho).2 q2;rw[q2] at q1 ⊢
    have t1:¬nm.toList=[]:=λe=>q1 (PW e);clear Hot;go_wp2_with fail;go_roundw
    case rel=>exact⟨k+1,by omega,by go_num,HX'.out,hB23⟩
    case measure=>simp[intOf];omega
   ·have HV:Hid (T4 b.bs (I3 b nm:Int) ls):=H5.out (Hot.out.2 ⟨q1,q2⟩);have t1:¬wh.toList=[]:=λe=>q1 (PW e)
    have t2:(!wh.toList.isEmpty)=true:=by cases hx:wh.toList with
     | nil=>exact absurd hx t1
     | cons _ _=>rfl
    have t3:(!wh.toList==nm.toList)=true:=by
     cases hx:(wh.toList==nm.toList)
     ·rfl
     ·exact absurd (EG (by simpa using hx)) q2
    clear Hot;have HR0:Hid (∀(a:Act)(u':World),a.defers=[]->a.tmps.getD 4 undef=.iface 78 (.agg #[.int .i64 5])->Below u.heap.size u u'->Q .ret a u'):=HR.out HV.out;clear HR HN;go_wp2_with fail
    all_goals
     first
      | ((try simp only[Exit.inBlock,Exit.then]);exact HR0.out _ _ rfl rfl hB23)
      | (exfalso;simp_all)
  ·obtain rfl:k=ls.length:=by omega
   have HN0:Hid (∀(a:Act)(u':World),a.defers=[]->a.tmps.size=53->a.tmps[2]?=some (.pointer (some ⟨x2,0,none⟩))->a.tmps[3]?=some (.pointer (some ⟨x3,0,none⟩))->Below u.heap.size u u'->Q .normal a u'):=HN.out λht=>by
    obtain⟨s,hs,ho⟩:=Htk.out.1 ht;obtain⟨i,hi,rfl⟩:=B7 hs;exact Hno.out i _ hi (A0 hi) ho
   clear HN HR;go_wp2_with fail
   (try simp only[Exit.inBlock,Exit.then])
   exact HN0.out _ _ rfl rfl rfl rfl hB
end
end Go.Proofs.YtmfjakieahkacaaGreatDoor
namespace Go.Proofs.YtmfjakieahkacaaGreatDoor
open Go.Conc Go.ConcN Go.RowKit Go.Conc.Lib Go.ConcR.Gen Go.ConcN.Gen
open Go.ConcR (KK wgBlock WgAt stA smA rd wr mk Payload DC0)
noncomputable def bC:Frame:=base 32
noncomputable def JK:Code:=Tryz.f32.body.getD .skip
noncomputable def LB:Array Oper:=match JK with | .seq _ (.seq (.region _ o _) _)=>o|_=>#[]
noncomputable def Wr:Code:=match JK with | .seq _ (.seq _ r)=>r|_=>.skip
def Ql(tb g j n cap:Nat)(x5 x12:Value):Array Value:=#[.pointer (some ⟨tb,0,none⟩),.int .i64 j,undef,undef,.bool false,x5,.pointer (some ⟨tb,0,none⟩),.pointer (some ⟨tb,0,none⟩),.pointer (some ⟨tb,0,none⟩),.slice (some ⟨g,0,none⟩) n cap,.int .i64 j,.pointer (some ⟨g,j*4,none⟩),x12,undef,undef,undef,undef,undef,undef,undef,undef,undef,undef,undef,undef,undef,undef,undef,undef]
section
variable {p:K7} {W:World} {C hB i:Nat} {tb g n cap:Nat} {x0 x1 x2 x3:Value}
theorem AcR(o:p.Ok)(hCL:p.Low<=C)(hin:i<n)(hhB:Ep p ⟨hB,0,none⟩)(hfv:W.cell? ⟨hB,0,none⟩=some (.func (.func 32) #[.pointer (some ⟨tb,0,none⟩)] #[]))
  (h2:Ep p ⟨tb,0,none⟩) (c2:W.cell? ⟨tb,0,none⟩=some (.slice (some ⟨g,0,none⟩) n cap))
  (h3:∀k,Ep p ⟨g,k,none⟩) (c30:W.cell? ⟨g,i*4,none⟩=some x0) (c31:W.cell? ⟨g,i*4+1,none⟩=some x1) (c32:W.cell? ⟨g,i*4+2,none⟩=some x2) (c33:W.cell? ⟨g,i*4+3,none⟩=some x3)
  {Stop:Goroutine->World->Prop} {m:Nat}
  (hnext:∀w,EV p W C i w->Goes Tryz.prog false (RK p (R6 C)) (DK p (R6 C)) Stop m (G (bC.at ⟨Ql tb g i n cap undef (.agg #[x0,x1,x2,x3]),[]⟩ (.inRegion LB [7,8]::[.code Wr])) [bW.at ⟨EL p hB C i (.func (.func 32) #[.pointer (some ⟨tb,0,none⟩)] #[]) undef,Ns p⟩ (.inRegion Gg [2]::[.code Gh]),Gf]) w)
  (w:World) (hF:EV p W C i w):Goes Tryz.prog false (RK p (R6 C)) (DK p (R6 C)) Stop (m+23) (born Tryz.prog (HU p.Wg hB C p.S)) w:=by
 have hC:R6 C C:=rfl;have hnS:¬p.Sh (.cell ⟨C,0,none⟩):=λh=>by have:=o.low h;simp at this;omega
 have hi0:(0:Int)<=(i:Int):=by omega
 have hi1:(i:Int)<(n:Int):=by omega
 refine Goes.step rfl (λ_ h₁=>?_);replace hF:=CR hC hF h₁;clear h₁;rw[AaW];refine⟨O3 _,?_⟩;simp only[EL,Ns,Gg,Gh,HJ,Tryz.f73,Option.getD_some] at hnext ⊢
 refine Goes.step rfl (λ_ h₁=>?_);replace hF:=CR hC hF h₁;clear h₁;rw[stepG_seq];simp only[goes_go];refine⟨O3 _,?_⟩;refine Goes.step rfl (λ_ h₁=>?_);replace hF:=CR hC hF h₁;clear h₁;rw[stepG_region];simp only[goes_go,List.size_toArray,List.length_cons,List.length_nil,Nat.zero_add,List.range,List.range.loop];refine⟨O3 _,?_⟩;refine Goes.step rfl (λ_ h₁=>?_);replace hF:=CR hC hF h₁;clear h₁;rw[stepG_defer rfl rfl (by k_ne) rfl];simp only[goes_go];refine⟨O3 _,?_⟩;walk_nrm
 refine Goes.step rfl (λ_ h₁=>?_);replace hF:=CR hC hF h₁;clear h₁;rw[stepG_region_end];simp only[goes_go];refine⟨O3 _,?_⟩;refine Goes.step rfl (λ_ h₁=>?_);replace hF:=CR hC hF h₁;clear h₁;rw[stepG_seq];simp only[goes_go];refine⟨O3 _,?_⟩;refine Goes.step rfl (λ_ h₁=>?_);replace hF:=CR hC hF h₁;clear h₁;rw[stepG_region];simp only[goes_go,List.size_toArray,List.length_cons,List.length_nil,Nat.reduceAdd,Nat.zero_add,List.range,List.range.loop];refine⟨O3 _,?_⟩;refine Goes.step rfl (λ_ h₁=>?_);replace hF:=CR hC hF h₁;clear h₁;refine goes_oper_k rfl rfl (by k_ne) (λK hK=>?_);have hc:=(hF.cell hhB).trans hfv;go_simp;refine hK _ _ ⟨⟨.refl _,λe he=>?_⟩,?_⟩
 ·have hm:=mem_listed he;simp[go_sem, *] at hm;subst hm;exact JD hhB.lt hhB.sh
 clear hK K hc;refine Goes.step rfl (λ_ h₁=>?_);replace hF:=CR hC hF h₁;clear h₁;refine goes_oper_k rfl rfl (by k_ne) (λK hK=>?_);have hc:=hF.tk.cell;go_simp;refine hK _ _ ⟨⟨.refl _,λe he=>?_⟩,?_⟩
 ·have hm:=mem_listed he;simp[go_sem, *] at hm;subst hm;exact Eo hC hnS
 clear hK K hc;try walk_nrm
 refine Re (P3 p (R6 C)) (f:=32) (args:=#[.pointer (some ⟨tb,0,none⟩),.int .i64 i]) rfl rfl (by k_ne) (λw=>?_) (λw=>?_) Tryz.func32 rfl ?_
 ·unfold execOp;simp[resolve,Deferred.ofValue,invoke,callFunc,Act.eval,Tryz.func32,Tryz.f32]
 ·unfold execOp;simp[resolve,Deferred.ofValue,invoke,callFunc,Act.eval,Tryz.func32,Tryz.f32]
 simp only[Ql,LB,Wr,JK,bC,Tryz.f32,Option.getD_some] at hnext ⊢
 walk_nrm
 refine Goes.step rfl (λ_ h₁=>?_);replace hF:=CR hC hF h₁;clear h₁;rw[stepG_seq];simp only[goes_go];refine⟨O3 _,?_⟩;refine Goes.step rfl (λ_ h₁=>?_);replace hF:=CR hC hF h₁;clear h₁;rw[stepG_region];simp only[goes_go,List.size_toArray,List.length_cons,List.length_nil,Nat.zero_add,List.range,List.range.loop];refine⟨O3 _,?_⟩;refine Goes.step rfl (λ_ h₁=>?_);replace hF:=CR hC hF h₁;clear h₁;refine goes_oper_k rfl rfl (by k_ne) (λK hK=>?_);go_simp;refine hK _ _ ⟨Bm (by intro e he;have hm:=mem_listed he;simp[go_sem, *] at hm),?_⟩;clear hK K;try w_num
 refine Goes.step rfl (λ_ h₁=>?_);replace hF:=CR hC hF h₁;clear h₁;rw[stepG_region_end];simp only[goes_go];refine⟨O3 _,?_⟩;refine Goes.step rfl (λ_ h₁=>?_);replace hF:=CR hC hF h₁;clear h₁;rw[stepG_seq];simp only[goes_go];refine⟨O3 _,?_⟩;refine Goes.step rfl (λ_ h₁=>?_);replace hF:=CR hC hF h₁;clear h₁;rw[stepG_region];simp only[goes_go,List.size_toArray,List.length_cons,List.length_nil,Nat.reduceAdd,Nat.zero_add,List.range,List.range.loop];refine⟨O3 _,?_⟩;refine Goes.step rfl (λ_ h₁=>?_);replace hF:=CR hC hF h₁;clear h₁;refine goes_oper_k rfl rfl (by k_ne) (λK hK=>?_);go_simp;refine hK _ _ ⟨Bm (by intro e he;have hm:=mem_listed he;simp[go_sem, *] at hm),?_⟩;clear hK K;try w_num
 refine Goes.step rfl (λ_ h₁=>?_);replace hF:=CR hC hF h₁;clear h₁;refine goes_oper_k rfl rfl (by k_ne) (λK hK=>?_);go_simp;refine hK _ _ ⟨Bm (by intro e he;have hm:=mem_listed he;simp[go_sem, *] at hm),?_⟩;clear hK K;try w_num
 refine Goes.step rfl (λ_ h₁=>?_);replace hF:=CR hC hF h₁;clear h₁;refine goes_oper_k rfl rfl (by k_ne) (λK hK=>?_);go_simp;refine hK _ _ ⟨Bm (by intro e he;have hm:=mem_listed he;simp[go_sem, *] at hm),?_⟩;clear hK K;try w_num
 refine Goes.step rfl (λ_ h₁=>?_);replace hF:=CR hC hF h₁;clear h₁;refine goes_oper_k rfl rfl (by k_ne) (λK hK=>?_);have hc:=(hF.cell h2).trans c2;go_simp;refine hK _ _ ⟨⟨.refl _,λe he=>?_⟩,?_⟩
 ·have hm:=mem_listed he;simp[go_sem, *] at hm;subst hm;exact JD h2.lt h2.sh
 clear hK K hc;try walk_nrm
 refine Goes.step rfl (λ_ h₁=>?_);replace hF:=CR hC hF h₁;clear h₁;refine goes_oper_k rfl rfl (by k_ne) (λK hK=>?_);go_simp;refine hK _ _ ⟨Bm (by intro e he;have hm:=mem_listed he;simp[go_sem, *] at hm),?_⟩;clear hK K;try w_num
 refine Goes.step rfl (λ_ h₁=>?_);replace hF:=CR hC hF h₁;clear h₁;refine goes_oper_k rfl rfl (by k_ne) (λK hK=>?_);go_simp;refine hK _ _ ⟨Bm (by intro e he;have hm:=mem_listed he;simp[go_sem, *] at hm),?_⟩;clear hK K;try w_num
 refine Goes.step rfl (λ_ h₁=>?_);replace hF:=CR hC hF h₁;clear h₁;refine goes_oper_k rfl rfl (by k_ne) (λK hK=>?_);have d0:=(hF.cell (h3 (i*4))).trans c30;have d1:=(hF.cell (h3 (i*4+1))).trans c31;have d2:=(hF.cell (h3 (i*4+2))).trans c32;have d3:=(hF.cell (h3 (i*4+3))).trans c33;go_simp;refine hK _ _ ⟨⟨.refl _,λe he=>?_⟩,?_⟩
 ·have hm:=mem_listed he;simp[go_sem, *] at hm;rcases hm with rfl|rfl|rfl|rfl<;>exact JD (h3 _).lt (h3 _).sh
 clear hK K d0 d1 d2 d3;try walk_nrm
 exact hnext _ hF
end
structure Jl (p:K7) (W:World) (C i b:Nat) (xs:Array Value) (w:World):Prop where
 kn:EV p W C i w
 row:w.heap[b]?=some (.cells xs 95)
theorem DR{p:K7}{W:World}{M:Nat->Prop}{C i b:Nat}{xs:Array Value}(hC:M C)(hb:M b){w w₁:World}(h:Jl p W C i b xs w)(r:RK p M w w₁):Jl p W C i b xs w₁:=⟨CR hC h.kn r,(r.own b hb).trans h.row⟩
theorem Jl.cell{p:K7}{W:World}{C i b k:Nat}{xs:Array Value}{v:Value}{w:World}(h:Jl p W C i b xs w)(hv:xs[k]?=some v):w.cell? ⟨b,k,none⟩=some v:=by
 simp[World.cell?,h.row,hv]
section
variable {p:K7} {W:World} {M:Nat->Prop} {C i b tb g n cap:Nat} {x0:Value} {hb nb fb:Nat}
theorem Aao(o:p.Ok)(hC:M C)(AC:M b)(hbL:p.Low<=b)(h1:Ep p ⟨tb,1,none⟩)(c1:W.cell? ⟨tb,1,none⟩=some (.int .u64 fb))(l1:hb<256)(l2:fb<256)(x12:Value):
  ∃nf,∀w,Jl p W C i b #[x0,.int .u64 hb,.int .u64 nb,.bool false] w->Wr.wpC Tryz.prog false (RK p M) (DK p M) 32 nf (bodyPostC Tryz.prog Tryz.f32 λv w'=>v=.bool (bits .andNot .u64 (nb:Int) ((fb:Int)+(hb:Int))==0)/\Jl p W C i b #[x0,.int .u64 hb,.int .u64 nb,.bool false] w')
   ⟨Ql tb g i n cap (.pointer (some ⟨b,0,none⟩)) x12,[]⟩ w:=by
 have hns:∀k,¬p.Sh (.cell ⟨b,k,none⟩):=λk h=>by have:=o.low h;simp at this;omega
 have hadd:IntKind.u64.wrap ((fb:Int)+(hb:Int))=(fb:Int)+(hb:Int):=by rw[IntKind.wrap_u64];omega
 simp only[Wr,Ql,JK,Tryz.f32,Option.getD_some];co_apply Exists.intro
 intro w hF;co_apply wpC_seq (P3 p M)
 co_held (P3 p M) (AcC p M) XC (Jl p W C i b #[x0,.int .u64 hb,.int .u64 nb,.bool false]) (DR hC AC) hF
 co_take 0 (P3 p M) (DR hC AC) hF hw (skip) (co_quiet (P3 p M))
 co_take 1 (P3 p M) (DR hC AC) hF hw (have hc:=hw.cell (k:=3) (v:=.bool false) rfl) (refine⟨.refl _,?_⟩;co_evs (exact Eo AC (hns _)))
 co_take 2 (P3 p M) (DR hC AC) hF hw (skip) (co_quiet (P3 p M))
 co_take 3 (P3 p M) (DR hC AC) hF hw (skip) (co_quiet (P3 p M))
 co_take 4 (P3 p M) (DR hC AC) hF hw (skip) (co_quiet (P3 p M))
 co_take 5 (P3 p M) (DR hC AC) hF hw (have hc:=hw.cell (k:=2) (v:=.int .u64 nb) rfl) (refine⟨.refl _,?_⟩;co_evs (exact Eo AC (hns _)))
 co_take 6 (P3 p M) (DR hC AC) hF hw (skip) (co_quiet (P3 p M))
 co_take 7 (P3 p M) (DR hC AC) hF hw (skip) (co_quiet (P3 p M))
 co_take 8 (P3 p M) (DR hC AC) hF hw (skip) (co_quiet (P3 p M))
 co_take 9 (P3 p M) (DR hC AC) hF hw (have hc:=(hw.kn.cell h1).trans c1) (refine⟨.refl _,?_⟩;co_evs (exact JD (h1).lt (h1).sh))
 co_take 10 (P3 p M) (DR hC AC) hF hw (skip) (co_quiet (P3 p M))
 co_take 11 (P3 p M) (DR hC AC) hF hw (have hc:=hw.cell (k:=1) (v:=.int .u64 hb) rfl) (refine⟨.refl _,?_⟩;co_evs (exact Eo AC (hns _)))
 co_take 12 (P3 p M) (DR hC AC) hF hw (skip) (co_quiet (P3 p M))
 co_take 13 (P3 p M) (DR hC AC) hF hw (skip) (co_quiet (P3 p M))
 co_take 14 (P3 p M) (DR hC AC) hF hw (skip) (co_quiet (P3 p M))
 co_take 15 (P3 p M) (DR hC AC) hF hw (skip) (co_quiet (P3 p M))
 co_take 16 (P3 p M) (DR hC AC) hF hw (skip) (co_quiet (P3 p M))
 co_done
 co_ctl (P3 p M)
 exact⟨rfl,_,resultsC_tmp (by rfl) _,by simp,hF⟩
end
end Go.Proofs.YtmfjakieahkacaaGreatDoor
namespace Go.Proofs.YtmfjakieahkacaaGreatDoor
open Go.RowKit
theorem MC(T:Array Value)(h:T.size=13):∃v0 v1 v2 v3 v4 v5 v6 v7 v8 v9 v10 v11 v12:Value,T=#[v0,v1,v2,v3,v4,v5,v6,v7,v8,v9,v10,v11,v12]:=by
 obtain⟨l⟩:=T;simp only[List.size_toArray] at h;match l,h with
 | [v0,v1,v2,v3,v4,v5,v6,v7,v8,v9,v10,v11,v12],_=>exact⟨_,_,_,_,_,_,_,_,_,_,_,_,_,rfl⟩
noncomputable def Bx:Code:=Tryz.f12.body.getD .skip
noncomputable def Jm:Code:=match Bx with | .seq r _=>r|_=>.skip
noncomputable def Sq:Code:=match Bx with | .seq _ (.seq (.seq r _) _)=>r|_=>.skip
noncomputable def LC:Code:=match Bx with | .seq _ (.seq (.seq _ r) _)=>r|_=>.skip
noncomputable def Sr:Code:=match Bx with | .seq _ (.seq r _)=>r|_=>.skip
noncomputable def Ws:Code:=match Bx with | .seq _ (.seq _ r)=>r|_=>.skip
noncomputable def Ss:Code:=match Bx with | .seq _ (.seq _ (.seq r _))=>r|_=>.skip
noncomputable def Qm:Code:=match Bx with | .seq _ (.seq _ (.seq _ r))=>r|_=>.skip
def Su(bv:Value):Array Value:=#[bv,undef,undef,undef,undef,undef,undef,undef,undef,undef,undef,undef,undef]
def AtM(b:Bk)(R:World->Prop)(a:Act)(u:World):Prop :=
 ∃T tb,a=⟨T,[]⟩/\T.size=13/\T[3]?=some (.pointer (some ⟨tb,0,none⟩))/\AK u tb b.tg (V6 b.bs b.bs.length)/\R u
theorem Yb(b:Bk)(bv:Value)(w:World)(h:K0 w bv b)(hok:J0 b)(hbk:I1 b=true){R:World->Prop}(HR:Hid (∀u,Below w.heap.size w u->R u)):
  Bb Tryz.prog [Jm,Sr,Ss] (λe a u=>e=.normal/\AtM b R a u) ⟨Su bv,[]⟩ w:=by
 have Hok:Hid (J0 b):=hok;clear hok;obtain⟨a1,c1,a2,c2,rfl,h1,h2⟩:=h.parts;clear h1 h2;simp only[Jm,Sr,Ss,Su,Bx,Tryz.f12,Option.getD_some];obtain⟨W1,hW1,kA,hB1,hs1⟩:∃W1,w.alloc (.cells #[.slice a1 (b).tg.length c1,.slice a2 (b).bs.length c2] 26)=W1/\CB W1 w.heap.size [.slice a1 b.tg.length c1,.slice a2 b.bs.length c2]/\Below w.heap.size w W1/\W1.heap.size=w.heap.size+1:=⟨_,rfl,Iy w _ _⟩;clear hs1;apply Y1;intro K hK;(go_wp2_with fail);(try clear hK);(try clear K);(try rw[hW1]);clear hW1;have hk:=h.up hB1;obtain⟨e0,e1⟩:=kA.c2';have hlt:=kA.2.2;clear h;apply Y1;intro K hK
 go_wp2_with fail;refine (BK b _ _ hk).mono ?_;rintro e w2 ⟨rfl,hB2⟩;have f0:=(hB2.cell (p:=⟨w.heap.size,0,none⟩) hlt).trans e0;have f1:=(hB2.cell (p:=⟨w.heap.size,1,none⟩) hlt).trans e1;have hk2:=hk.up hB2;go_wp2_with fail;try clear hK
 try clear K
 apply Y1;intro K hK
 go_wp2_with fail;refine (Gv b _ _ hk2 Hok.out).mono ?_;rintro e w5 ⟨⟨tb,rfl,hT,htb⟩,hB5⟩;clear f0 f1 e0 e1;go_wp2_with fail;exact⟨rfl,_,tb,rfl,rfl,rfl,hT,HR.out _ (D1 hB1 (D1 hB2 hB5))⟩
theorem Yc(b:Bk)(bv:Value)(w:World)(h:K0 w bv b)(hbk:I1 b=false){R:World->Prop}(HR:Hid (∀u,Below w.heap.size w u->R u)):
  Bb Tryz.prog [Jm,Sq] (λe a u=>e=.normal/\(∃T,a=⟨T,[]⟩/\T.size=13/\T[6]?=some (.bool true))/\R u) ⟨Su bv,[]⟩ w:=by
 obtain⟨a1,c1,a2,c2,rfl,h1,h2⟩:=h.parts;clear h1 h2;simp only[Jm,Sq,Su,Bx,Tryz.f12,Option.getD_some];obtain⟨W1,hW1,kA,hB1,hs1⟩:∃W1,w.alloc (.cells #[.slice a1 (b).tg.length c1,.slice a2 (b).bs.length c2] 26)=W1/\CB W1 w.heap.size [.slice a1 b.tg.length c1,.slice a2 b.bs.length c2]/\Below w.heap.size w W1/\W1.heap.size=w.heap.size+1:=⟨_,rfl,Iy w _ _⟩;clear hs1;apply Y1;intro K hK;(go_wp2_with fail);(try clear hK);(try clear K);(try rw[hW1]);clear hW1;have hk:=h.up hB1;obtain⟨e0,e1⟩:=kA.c2';have hlt:=kA.2.2;clear h;apply Y1;intro K hK
 go_wp2_with fail;refine (BK b _ _ hk).mono ?_;rintro e w2 ⟨rfl,hB2⟩;go_wp2_with fail;exact⟨rfl,⟨_,rfl,rfl,rfl⟩,HR.out _ (D1 hB1 hB2)⟩
structure BJ (w W:World) (rb len N q:Nat) (v tv xv:Value) (b:Bk):Prop where
 r:CB W w.heap.size [.slice none 0 0,.slice none 0 0]
 x:CB W q [tv,xv]
 rd:Rd W rb v len N
 g:w.grownBy W (some rb)
 bk:Dk W (w.heap.size+1) (.agg #[tv,xv]) b
 qz:w.heap.size+1<=q
theorem Dk.parts{w:World}{base:Nat}{v:Value}{b:Bk}(h:Dk w base v b):∃a1 c1 a2 c2,v=.agg #[.slice a1 b.tg.length c1,.slice a2 b.bs.length c2]:=by
 obtain⟨a1,c1,a2,c2,_,e,_⟩:=h.1.parts;exact⟨a1,c1,a2,c2,e⟩
theorem Ec.parts{w:World}{base:Nat}{v:Value}{b:Bk}(h:Ec w base v b):∃a1 c1 a2 c2,v=.agg #[.slice a1 b.tg.length c1,.slice a2 b.bs.length c2]:=by
 obtain⟨a1,c1,a2,c2,_,e,_⟩:=h.1.parts;exact⟨a1,c1,a2,c2,e⟩
theorem TV(rb len N:Nat)(v:Value)(w:World)(hR:Rd w rb v len N)(hN:N<=10000):
  Calls Tryz.prog 53 #[.pointer (some ⟨rb,0,none⟩)] w
   λe w'=>(∃(u:Value)(b:Bk),e=.returned u/\Dk w' w.heap.size u b)/\Rd w' rb v len (N+10000)/\w.grownBy w' (some rb):=by
 have hrl:=hR.lt;go_enter Tryz.func53,Tryz.ntmps53;go_upto_region 1 with fail;obtain⟨W1,hW1,kR,hB1,hs1⟩:=cbE1 w [.slice none 0 0,.slice none 0 0] 26;rw[hW1];clear hW1;have hR1:=hR.kept hB1;have hs1':w.heap.size+1<=W1.heap.size:=by omega
 clear hR hs1;go_wp2_with fail;refine (TP rb len N v _ hR1 (by omega)).mono ?_;rintro e w2 ⟨⟨a1,c1,ts,rfl,hD⟩,hR2,hg2⟩;have kR:=kR.kept hg2 (by simp;omega);have hG2:=L0 (O2 (r:=some rb) hB1) hg2;have hz2:=hg2.size;have hD:Dk w2 (w.heap.size+1) (.agg #[.slice a1 ts.length c1,.slice none 0 0]) ⟨ts,[]⟩:=hD.low hs1';clear hB1 hg2 hR1;go_upto_region 2 with fail;obtain⟨W3,hW3,kX,hb3,hs3⟩:=cbE1 w2 [.slice a1 ts.length c1,.slice none 0 0] 26;rw[hW3];have J3:BJ w W3 rb len (N+10) w2.heap.size v (.slice a1 ts.length c1) (.slice none 0 0) ⟨ts,[]⟩:=⟨kR.up hb3 kR.2.2,kX,hR2.kept hb3,L0 hG2 (O2 hb3),hD.up hb3,by omega⟩;clear hW3 kX hb3 hs3 kR hR2 hG2 hD hz2 hs1';generalize w2.heap.size=q at *;go_wp2_with fail;refine (T0 rb len _ v 3 _ J3.rd (by omega)).mono ?_;rintro e w4 ⟨⟨x,rfl,-,-⟩,hR4,hg4⟩;have hqz:=J3.qz;have J4:BJ w w4 rb len (N+11) q v (.slice a1 ts.length c1) (.slice none 0 0) ⟨ts,[]⟩:=⟨J3.r.kept hg4 (by simp;omega),J3.x.kept hg4 (by simp;omega),hR4,L0 J3.g hg4,J3.bk.gr hg4 (by omega),J3.qz⟩;clear J3 hR4 hg4;by_cases hx:x=0
 ·subst hx;obtain⟨z0,z1⟩:=J4.x.c2';obtain⟨⟨tu,bu,ps,hv,o1,-,-⟩,hz,ht,-,-⟩:=J4.bk;obtain⟨rfl,rfl⟩:tu=.slice a1 ts.length c1/\bu=.slice none 0 0:=by simp at hv;exact⟨hv.1.symm,hv.2.symm⟩
  go_wp2_with fail;refine (TT rb len _ (w.heap.size+1) v a1 c1 ts _ J4.rd (by omega) o1 hz.1 ht (by omega) J4.r.2.2).mono ?_;rintro e w5 ⟨⟨u,b,rfl,hD5⟩,hR5,hg5⟩;have kR:=J4.r.kept hg5 (by simp;omega);have hG:=L0 J4.g hg5;obtain⟨a3,c3,a4,c4,rfl⟩:=hD5.parts;clear J4 z0 z1 hg5;obtain⟨⟨y0,y1⟩,g0,g1⟩:=kR.c2;go_wp2_with fail;refine Av Tryz.results53 Tryz.underlying26 rfl L9 kR rfl ?_;exact⟨⟨_,b,rfl,((hD5.1.set (by omega)).set (by omega)).low (by omega),hD5.2⟩,((hR5.setCell (by omega)).setCell (by omega)).mono (by omega),K8 (K8 hG (A3 _) _) (A3 _) _⟩
 have hx':(x==0)=false:=by simpa using hx
 go_wp2_with fail;refine (T0 rb len _ v 24 _ J4.rd (by omega)).mono ?_;rintro e w5 ⟨⟨n,rfl,hn0,hn1⟩,hR5,hg5⟩;have hn2:=hn1 (by omega);obtain⟨m,rfl⟩:∃m:Nat,n=(m:Int):=⟨n.toNat,by omega⟩;have J5:BJ w w5 rb len (N+12) q v (.slice a1 ts.length c1) (.slice none 0 0) ⟨ts,[]⟩:=⟨J4.r.kept hg5 (by simp;omega),J4.x.kept hg5 (by simp;omega),hR5,L0 J4.g hg5,J4.bk.gr hg5 (by omega),J4.qz⟩;clear J4 hR5 hg5 hn0 hn1 hx';go_wp2_with fail;go_loopw [4] (λi w'=>∃(k:Nat)(a1:Option Addr)(c1:Nat)(a2:Option Addr)(c2:Nat)(b:Bk),k<=m/\i=.int .i64 k/\BJ w w' rb len (N+12+200*(m-k)) q v (.slice a1 b.tg.length c1) (.slice a2 b.bs.length c2) b) (λi _=>(intOf i).toNat)
 case atStart=>exact⟨m,_,_,_,_,⟨ts,[]⟩,by omega,rfl,by simpa using J5⟩
 case round =>
  clear J5;obtain⟨k,a1,c1,a2,c2,b,hk,rfl,J⟩:=hrel;by_cases hp:0<k
  ·have hp':(0:Int)<(k:Int):=by omega
   have hS1:World.cell? wr.drew ⟨q,0,none⟩=some (.slice a1 b.tg.length c1)/\World.cell? wr.drew ⟨q,1,none⟩=some (.slice a2 b.bs.length c2):=J.x.c2';have Hm:Hid (200*(m-(k-1))=200*(m-k)+200):=by show _=_;omega
   have hbig:N+12+200*(m-k)<=800000:=by omega
   go_wp2_with fail;refine M4 5 (λw'=>World.cell? w' ⟨q,0,none⟩=some (.slice a1 b.tg.length c1)/\World.cell? w' ⟨q,1,none⟩=some (.slice a2 b.bs.length c2)) (by kernel_rfl) ?_;refine G3 (i:=0) (v:=?_) rfl (by kernel_rfl) (by kernel_rfl) (by kernel_rfl) (by kernel_rfl) (λ_ _ _ h=>h) (by rfl) hS1 ?_ ?_;rotate_left;focus (intro w hSw;(try dsimp only at hSw);go_simp;try with_reducible rfl);(try simp only[Act.put,List.setIfInBounds_toArray,List.set_cons_zero,List.set_cons_succ])
   refine G3 (i:=1) (v:=?_) rfl (by kernel_rfl) (by kernel_rfl) (by kernel_rfl) (by kernel_rfl) (λ_ _ _ h=>h) (by rfl) hS1 ?_ ?_;rotate_left;focus (intro w hSw;(try dsimp only at hSw);go_simp;try with_reducible rfl);(try simp only[Act.put,List.setIfInBounds_toArray,List.set_cons_zero,List.set_cons_succ])
   refine G3 (i:=2) (v:=?_) rfl (by kernel_rfl) (by kernel_rfl) (by kernel_rfl) (by kernel_rfl) (λ_ _ _ h=>h) (by rfl) hS1 ?_ ?_;rotate_left;focus (intro w hSw;(try dsimp only at hSw);go_simp;try with_reducible rfl);(try simp only[Act.put,List.setIfInBounds_toArray,List.set_cons_zero,List.set_cons_succ])
   refine K4 3 rfl (λK hK=>?_);go_simp;go_wp2_with (go_at_call 36;refine (Lq rb len _ (w.heap.size+1) v _ b _ J.rd.drew hbig (J.bk.up (A4 _ _).drew).loose (by omega)).mono ?_;rintro e w6 ⟨⟨kd,nm,al,cl,list,rfl,hol,hnz,hlz,hll⟩,hR6,hg6⟩)
   have hg6:wr.grownBy w6 (some rb):=⟨hg6.os,hg6.tape,hg6.output,hg6.size,hg6.block⟩;have J6:BJ w w6 rb len (N+12+200*(m-k)+200) q v (.slice a1 b.tg.length c1) (.slice a2 b.bs.length c2) b:=⟨J.r.kept hg6 (by simp;omega),J.x.kept hg6 (by simp;omega),hR6,L0 J.g hg6,J.bk.gr hg6 (by omega),J.qz⟩;have hS6:World.cell? w6 ⟨q,0,none⟩=some (.slice a1 b.tg.length c1)/\World.cell? w6 ⟨q,1,none⟩=some (.slice a2 b.bs.length c2):=J6.x.c2';have hLl:=hol.lst.ls hlz;clear J hR6 hg6 hS1 hol hlz hbig;refine K9 hK hS6 ?_;clear hK K;(try simp only[Act.put,List.setIfInBounds_toArray,List.set_cons_zero,List.set_cons_succ]);refine K4 4 rfl (λK hK=>?_);go_simp;go_wp2_with (go_at_call 80;refine (TJ b _ kd nm al cl list (w.heap.size+1) _ J6.bk hLl hnz (by omega)).mono ?_;rintro e w7 ⟨⟨u,b',rfl,hD7⟩,hb7⟩)
   obtain⟨a3,c3,a4,c4,rfl⟩:=hD7.parts;have hS7:World.cell? w7 ⟨q,0,none⟩=some (.slice a1 b.tg.length c1)/\World.cell? w7 ⟨q,1,none⟩=some (.slice a2 b.bs.length c2):=⟨(hb7.cell (p:=⟨q,0,none⟩) J6.x.2.2).trans hS6.1,(hb7.cell (p:=⟨q,1,none⟩) J6.x.2.2).trans hS6.2⟩;have kR7:=J6.r.up hb7 J6.r.2.2;have kX7:=J6.x.up hb7 J6.x.2.2;have hqz6:=J6.x.2.2;have hrz:=J6.r.2.2;have hR7:=J6.rd.kept hb7;have hG7:=L0 J6.g (O2 hb7);clear J6 hS6 hLl hb7;refine K9 hK hS7 ?_;clear hK K;(try simp only[Act.put,List.setIfInBounds_toArray,List.set_cons_zero,List.set_cons_succ]);obtain⟨⟨j0,j1⟩,m0,m1⟩:=kX7.c2;refine K4 5 rfl (λK hK=>?_);go_simp;refine Cj hK ?_;clear hK K;refine N2 (by kernel_rfl) ?_ _
   have J8:BJ w ((w7.setCell ⟨q,0,none⟩ (.slice a3 b'.tg.length c3)).setCell ⟨q,1,none⟩ (.slice a4 b'.bs.length c4)) rb len (N+12+200*(m-k)+200) q v (.slice a3 b'.tg.length c3) (.slice a4 b'.bs.length c4) b' :=
    ⟨(kR7.other (by omega)).other (by omega),kX7.copy2 _ _,(hR7.setCell (by omega)).setCell (by omega),K8 (K8 hG7 (by omega) _) (by omega) _,⟨((hD7.1.set hqz6).set hqz6).low (by omega),hD7.2⟩,by omega⟩
   clear j0 j1 m0 m1 hS7 kR7 kX7 hR7 hG7 hD7;go_wp2_with fail;go_roundw
   case rel=>exact⟨k-1,_,_,_,_,b',by omega,by go_num,by rw[Hm.out];exact J8⟩
   case measure=>simp[intOf];omega
  ·have hp':¬(0:Int)<(k:Int):=by omega
   have kR:=J.r;obtain⟨z0,z1⟩:=J.x.c2';obtain⟨⟨y0,y1⟩,g0,g1⟩:=kR.c2;go_wp2_with fail;refine Av Tryz.results53 Tryz.underlying26 rfl L9 kR rfl ?_;exact⟨⟨_,rfl,b,((J.bk.1.set (by omega)).set (by omega)).low (by omega),J.bk.2⟩,((J.rd.setCell (by omega)).setCell (by omega)).mono (by omega),K8 (K8 J.g (A3 _) _) (A3 _) _⟩
theorem Wt(rb len N:Nat)(v:Value)(w:World)(hR:Rd w rb v len N)(hN:N<=10000):
  Calls Tryz.prog 35 #[.pointer (some ⟨rb,0,none⟩)] w
   λe w'=>(∃(u:Value)(b:Bk),e=.returned u/\Ec w' w.heap.size u b)/\Rd w' rb v len (N+11000)/\w.grownBy w' (some rb):=by
 have hrl:=hR.lt;go_enter Tryz.func35,Tryz.ntmps35;go_upto_region 1 with fail;obtain⟨W1,hW1,kR,hB1,hs1⟩:=cbE1 w [.slice none 0 0,.slice none 0 0] 26;rw[hW1];clear hW1;have hR1:=hR.kept hB1;have hs1':w.heap.size+1<=W1.heap.size:=by omega
 clear hR hs1;go_wp2_with fail;refine (TV rb len N v _ hR1 (by omega)).mono ?_;rintro e w2 ⟨⟨u,b,rfl,hD⟩,hR2,hg2⟩;have kR:=kR.kept hg2 (by simp;omega);have hG2:=L0 (O2 (r:=some rb) hB1) hg2;have hz2:=hg2.size;have hD:=hD.low hs1';obtain⟨a1,c1,a2,c2,rfl⟩:=hD.parts;clear hB1 hg2 hR1;go_upto_region 2 with fail;obtain⟨W3,hW3,kX,hb3,hs3⟩:=cbE1 w2 [.slice a1 b.tg.length c1,.slice a2 b.bs.length c2] 26;rw[hW3];have J3:BJ w W3 rb len (N+10000) w2.heap.size v (.slice a1 b.tg.length c1) (.slice a2 b.bs.length c2) b:=⟨kR.up hb3 kR.2.2,kX,hR2.kept hb3,L0 hG2 (O2 hb3),hD.up hb3,by omega⟩;clear hW3 kX hb3 hs3 kR hR2 hG2 hD hz2 hs1';generalize w2.heap.size=q at *;go_wp2_with fail;refine (T0 rb len _ v 20 _ J3.rd (by omega)).mono ?_;rintro e w4 ⟨⟨x,rfl,-,-⟩,hR4,hg4⟩;have hqz:=J3.qz;have J4:BJ w w4 rb len (N+10001) q v (.slice a1 b.tg.length c1) (.slice a2 b.bs.length c2) b:=⟨J3.r.kept hg4 (by simp;omega),J3.x.kept hg4 (by simp;omega),hR4,L0 J3.g hg4,J3.bk.gr hg4 (by omega),J3.qz⟩;clear J3 hR4 hg4;obtain⟨z0,z1⟩:=J4.x.c2';by_cases hx:x=0
 ·subst hx;go_wp2_with fail;refine (Rc rb len _ (w.heap.size+1) v _ b _ J4.rd (by omega) J4.bk).mono ?_;rintro e w5 ⟨⟨u,b',rfl,hD5⟩,hR5,hg5⟩;have kR:=J4.r.kept hg5 (by simp;omega);have hG:=L0 J4.g hg5;have hrz:=J4.r.2.2;obtain⟨a3,c3,a4,c4,rfl⟩:=hD5.parts;clear J4 z0 z1 hg5;obtain⟨⟨y0,y1⟩,g0,g1⟩:=kR.c2;go_wp2_with fail;refine Av Tryz.results35 Tryz.underlying26 rfl L9 kR rfl ?_;exact⟨⟨_,b',rfl,((hD5.1.set hrz).set hrz).low (by omega),hD5.2⟩,((hR5.setCell (by omega)).setCell (by omega)).mono (by omega),K8 (K8 hG (A3 _) _) (A3 _) _⟩
 have hx':(x==0)=false:=by simpa using hx
 have kR:=J4.r;obtain⟨⟨y0,y1⟩,g0,g1⟩:=kR.c2;go_wp2_with fail;refine Av Tryz.results35 Tryz.underlying26 rfl L9 kR rfl ?_;exact⟨⟨_,b,rfl,((J4.bk.loose.1.set (by omega)).set (by omega)).low (by omega),J4.bk.loose.2⟩,((J4.rd.setCell (by omega)).setCell (by omega)).mono (by omega),K8 (K8 J4.g (A3 _) _) (A3 _) _⟩
end Go.Proofs.YtmfjakieahkacaaGreatDoor
