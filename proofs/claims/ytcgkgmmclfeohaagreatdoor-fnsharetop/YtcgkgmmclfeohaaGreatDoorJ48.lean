/- The program's ShareLess, beside leavers. -/
import Derived.Test.YtcgkgmmclfeohaaGreatDoorJ44
import Derived.Test.YtcgkgmmclfeohaaGreatDoorKrp
set_option maxRecDepth 100000
set_option maxHeartbeats 1000000
namespace Go.Proofs.YtcgkgmmclfeohaaGreatDoor
open Go.Proofs.Tryz
open Go.Conc Go.ConcN Go.RowKit Go.Conc.Lib Go.ConcR.Gen Go.ConcN.Gen
open Go.ConcR (KK wgBlock WgAt stA smA rd wr mk Payload DC0)
noncomputable def Gh:Code:=Tryz.f9.body.getD .skip
noncomputable def Pd:Code:=match Gh with | .seq r _=>r|_=>.skip
noncomputable def Dc:Array Oper:=match Gh with | .seq _ (.seq (.region _ o _) _)=>o|_=>#[]
theorem ZW:Gh=.seq Pd (.seq (.region 1 Dc false) .ret):=by simp only[Pd,Dc,Gh,Tryz.f9,Option.getD_some]
noncomputable def bLe:Frame:=Go.Conc.base 9
def Xp(bv nv lv:Value):Array Value:=#[bv,nv,lv,undef,undef,undef,undef,undef,undef,undef,undef,undef,undef,undef,undef,undef,undef]
theorem Aek(bv nv lv:Value):Frame.enter prog 9 #[bv,nv,lv] .normal=bLe.at ⟨Xp bv nv lv,[]⟩ [.code Gh]:=by
 simp[Frame.enter,Frame.at,func9,bLe,Go.Conc.base,Xp,Gh,Tryz.f9]
theorem AbB:Cm prog bLe:=⟨rfl,_,func9⟩
theorem AlN:O0 prog (λg=>Fm.contains g) Pd=true:=by kernel_rfl
theorem Akn:X6 prog (λg=>Fm.contains g) (.inRegion Dc [7,8,9,10]):=Ia (by kernel_rfl)
theorem Ako:∃o,Dc[0]?=some o/\(o.op=.load 26 (.tmp 3))/\o.dst=some 8/\o.guard=none:=⟨_,rfl,rfl,rfl,rfl⟩
theorem Akp:∃o,Dc[1]?=some o/\(o.op=.move (.tmp 1))/\o.dst=some 9/\o.guard=none:=⟨_,rfl,rfl,rfl,rfl⟩
theorem Akq:∃o,Dc[2]?=some o/\(o.op=.build 48 #[(0,.tmp 9)])/\o.dst=some 10/\o.guard=none:=⟨_,rfl,rfl,rfl,rfl⟩
theorem Akr:∃o,Dc[3]?=some o/\(o.op=.move (.tmp 2))/\o.dst=some 11/\o.guard=none:=⟨_,rfl,rfl,rfl,rfl⟩
theorem Aks:∃o,Dc[4]?=some o/\(o.op=.build 63 #[(0,.tmp 10),(1,.tmp 11)])/\o.dst=some 12/\o.guard=none:=⟨_,rfl,rfl,rfl,rfl⟩
theorem Akt:∃o,Dc[5]?=some o/\(o.op=.makeInterface 63 (.tmp 12))/\o.dst=some 13/\o.guard=none:=⟨_,rfl,rfl,rfl,rfl⟩
theorem Aku:∃o,Dc[6]?=some o/\(∃ats,o.op=.call {callee:=.value (.func 24),args:=#[.tmp 8,.tmp 13],argTypes:=ats})/\o.dst=some 14/\o.guard=none:=⟨_,rfl,⟨_,rfl⟩,rfl,rfl⟩
theorem AgO:Dc.size=11:=rfl
theorem AgP(s:BA)(a:Option Addr)(n c:Nat)(w:World):(Instr.build 63 #[(0,.agg #[Tz s]),(1,Vz a n c)]).runT prog w #[]=(.ok (.agg #[Tz s,Vz a n c]) w,#[]):=by kernel_rfl
theorem Akv(v:Value)(w:World):(Instr.makeInterface 63 v).runT prog w #[]=(.ok (.iface 63 v) w,#[]):=by kernel_rfl
section
variable {b:Bk} {a1 a2:Option Addr} {c1 c2:Nat} {nv lv:Value}
def AbC(bvs:List Value)(nv lv:Value)(lo:Nat)(a:Act)(u:World):Prop:=a.tmps.size=17/\a.tmps[1]?=some nv/\a.tmps[2]?=some lv/\a.tmps[3]?=some (.pointer (some ⟨pb a 3,0,none⟩))/\a.tmps[6]?=some (.pointer (some ⟨pb a 6,0,none⟩))/\CB u (pb a 3) bvs/\CB u (pb a 6) [.slice none 0 0,.slice none 0 0]/\lo<=pb a 6
theorem Ael(bvs:List Value)(nv lv:Value)(lo:Nat)(a:Act):N6 (AbC bvs nv lv lo a):=λ_ _ _ h=>h
theorem Aem(u:World){lo:Nat}(hlo:lo<=u.heap.size):BG prog [Pd] (λe a u'=>e=.normal/\AbC [Vz a1 b.tg.length c1,Vz a2 b.bs.length c2] nv lv lo a u'/\Up u u') ⟨Xp (.agg #[Vz a1 b.tg.length c1,Vz a2 b.bs.length c2]) nv lv,[]⟩ u:=by
 obtain⟨W1,a0,kA,kB,a3,a4⟩:=cbE2 u [Vz a1 b.tg.length c1,Vz a2 b.bs.length c2] 26 [Nz,Nz] 26;simp only[Pd,Xp,Gh,Tryz.f9,Option.getD_some];apply Al;intro K hK
 go_wp2_with fail;try rw[a0]
 exact⟨rfl,⟨rfl,rfl,rfl,rfl,rfl,kA,kB,by show lo<=u.heap.size+1;omega⟩,a3⟩
variable {x6 lo:Nat} {bk:Bk} {ev:Value}
theorem Xq{i1 i2:Option Addr}{j1 j2:Nat}(v0 v1 v2 v3 v4 v5 v7 v8 v9 v10 v11 v12 v13 v15 v16:Value)(u:World)(kR:CB u x6 [Nz,Nz]){Q:Exit->Act->World->Prop}(HN:Hid (∀(a:Act)(u':World),a.defers=[]->a.tmps.getD 6 undef=Pz x6 0->a.tmps.getD 7 undef=ev->CB u' x6 [Vz i1 bk.tg.length j1,Vz i2 bk.bs.length j2]->u'=(u.setCell ⟨x6,0,none⟩ (Vz i1 bk.tg.length j1)).setCell ⟨x6,1,none⟩ (Vz i2 bk.bs.length j2)->Q .normal a u')):
  wpOps prog Dc Q [7,8,9,10] ⟨#[v0,v1,v2,v3,v4,v5,Pz x6 0,v7,v8,v9,v10,v11,v12,v13,.tuple #[.agg #[Vz i1 bk.tg.length j1,Vz i2 bk.bs.length j2],ev],v15,v16],[]⟩ u:=by
 obtain⟨⟨g0,g1⟩,q0,q1⟩:=kR.c2;rw[show ([7,8,9,10]:List Nat)=List.range' 7 (Dc.toList.drop 7).length from rfl];refine HZ ?_;simp only[Dc,Gh,Tryz.f9,Option.getD_some,List.drop_succ_cons,List.drop_zero];go_wp2_with fail;exact HN.out _ _ rfl rfl rfl (kR.copy2 _ _) rfl
end
theorem Akw{a:Act}{u:World}{x6:Nat}{y0 y1 v:Value}{R:Value->World->Prop}(hd:a.defers=[])(h4:a.tmps.getD 6 undef=Pz x6 0)(h5:a.tmps.getD 7 undef=v)(k:CB u x6 [y0,y1])(hR:R (.tuple #[.agg #[y0,y1],v]) u):EF prog Tryz.f9 R .ret a u :=
 Eb (Fo (cs:=[y0,y1]) results9 underlying26 rfl M4 h4 h5 k) hd hR
theorem AgQ(s:BA)(a:Option Addr)(n c:Nat)(x:Value)(w:World):(callMethod (.iface 63 (.agg #[Tz s,Vz a n c])) "loop.example/maltrun/impl.refusal" #[x]).runT prog w #[]=(.ok (.enter 147 #[.agg #[Tz s,Vz a n c],x]) w,#[]):=by kernel_rfl
theorem Aen{X:Nat->Prop}{Shun:Loc->Prop}{W:World}{b:Bk}{bv lv:Value}{nm:BA}{ls:List BA}(hX:Y9 Shun X)(hbW:M1 X W)(hB:∀τ d,K6 (E0 X W τ d) bv b)(hL:∀τ d,Ls (E0 X W τ d) lv ls)(hE:∀τ d,T8 (E0 X W τ d)):
  AB prog 9 #[bv,Tz nm,lv] X Shun W λv u=>∃x,v=.tuple #[x,Iz (L0 b (O8 b nm ls))]/\K8 u W.heap.size x (K7 b (O8 b nm ls) (X8 b (F3 b nm) (R6 ls))):=by
 intro Post c cs gs sl t hh k;obtain⟨a1,c1,a2,c2,rfl,-,-⟩:=(hB (λ_ _=>0) 0).parts;obtain⟨la,lc,rfl,-⟩:=id (hL (λ_ _=>0) 0);have hF:S2 λu=>K6 u (.agg #[Vz a1 b.tg.length c1,Vz a2 b.bs.length c2]) b/\Ls u (Vz la ls.length lc) ls/\T8 u:=⟨λu u' h hb=>⟨h.1.up hb,h.2.1.up hb,h.2.2.up hb⟩,λ_ _ _ h=>h⟩;have hI:=F5.start (F:=λu=>(K6 u (.agg #[Vz a1 b.tg.length c1,Vz a2 b.bs.length c2]) b/\Ls u (Vz la ls.length lc) ls/\T8 u)/\W.heap.size<=u.heap.size) hX hbW λτ d=>⟨⟨hB τ d,hL τ d,hE τ d⟩,by (try unfold Up);rw[I5];exact A3 _⟩;have kF:S2 λu=>(K6 u (.agg #[Vz a1 b.tg.length c1,Vz a2 b.bs.length c2]) b/\Ls u (Vz la ls.length lc) ls/\T8 u)/\W.heap.size<=u.heap.size:=⟨λu u' h hb=>⟨hF.up _ _ h.1 hb,B4 h.2 hb.size⟩,λ_ _ _ h=>h⟩;have a5:∀X' Shun' gs V sl t v,G6 prog Shun' gs (G (c.finish v) cs) t->F5 X W (λu=>∃x,v=.tuple #[x,Iz (L0 b (O8 b nm ls))]/\K8 u W.heap.size x (K7 b (O8 b nm ls) (X8 b (F3 b nm) (R6 ls)))) X' Shun' V->E7 prog Post (crowd gs V sl) t:=λX' Shun' gs V sl t v hh hI=>k X' Shun' gs V sl t v hI.hX hI.far hh hI.base λτ d=>⟨hI.hold τ d,hI.low τ d⟩;have a9:∀v:Value,N6 λu=>∃x,v=.tuple #[x,Iz (L0 b (O8 b nm ls))]/\K8 u W.heap.size x (K7 b (O8 b nm ls) (X8 b (F3 b nm) (R6 ls))):=λv u τ d ⟨x,e,h⟩=>⟨x,e,Cv h⟩;clear k;rw[Aek,ZW] at hh;refine Hv (l:=[Pd]) R4 (λr hr=>by simp at hr;subst hr;exact AlN) AbB rfl kF hI (G':=AbC [Vz a1 b.tg.length c1,Vz a2 b.bs.length c2] (Tz nm) (Vz la ls.length lc) W.heap.size) (Ael _ _ _ _) (λu hu=>Aem u hu.2) hh λgs V sl t a hh hd hI=>?_;have b0:∃T,a=⟨T,[]⟩:=⟨a.tmps,by cases a;simp only at hd;subst hd;rfl⟩;obtain⟨T,rfl⟩:=b0;obtain⟨z1,e1,e2,e3,e6,-,-,zl⟩:=(hI.hold (λ_ _=>0) 0).2;replace hI:=hI.mono (F':=λu=>((K6 u (.agg #[Vz a1 b.tg.length c1,Vz a2 b.bs.length c2]) b/\Ls u (Vz la ls.length lc) ls/\T8 u)/\W.heap.size<=u.heap.size)/\CB u (pb ⟨T,[]⟩ 3) [Vz a1 b.tg.length c1,Vz a2 b.bs.length c2]/\CB u (pb ⟨T,[]⟩ 6) [Nz,Nz]) λu hu=>⟨hu.1,hu.2.2.2.2.2.2.1,hu.2.2.2.2.2.2.2.1⟩;generalize pb ⟨T,[]⟩ 3=x3 at *;generalize pb ⟨T,[]⟩ 6=x6 at *;refine D9 hh rfl (λw=>stepG_seq) λgs sl t dd hh=>?_;replace hI:=hI.at dd;refine D9 hh rfl (λw=>stepG_region) λgs sl t dd hh=>?_;replace hI:=hI.at dd;rw[AgO] at hh;change G6 prog Shun gs (G (bLe.at ⟨T,[]⟩ [.inRegion Dc [0,1,2,3,4,5,6,7,8,9,10],.code .ret]) (c::cs)) t at hh
 have hT:O1 17 T [(1,Tz nm),(2,Vz la ls.length lc),(3,Pz x3 0),(6,Pz x6 0)]:=⟨z1,by intro p hp;simp at hp;rcases hp with rfl|rfl|rfl|rfl<;>first|exact e1|exact e2|exact e3|exact e6⟩;clear e1 e2 e3 e6 z1;obtain⟨o,ho,a3,a0,hg⟩:=Ako;refine X9 hI hh hT ho (D6 hg _) rfl a0 a3 (hT.ev 3 (Pz x3 0) (by simp)) (λu hu=>hu.2.1) (by omega) (by simp) λgs sl t dd T hh hT=>?_;replace hI:=hI.at dd;obtain⟨o,ho,a3,a0,hg⟩:=Akp;refine J4 hh hT ho (D6 hg _) rfl a0 (.inl a3) (hT.ev 1 (Tz nm) (by simp)) (by omega) (by simp) λgs sl t dd T hh hT=>?_;replace hI:=hI.at dd;obtain⟨o,ho,a3,a0,hg⟩:=Akq;refine Di hh hT ho (D6 hg _) rfl a0 (by omega) (by simp) (q:=Instr.build 48 #[(0,Tz nm)]) (by unfold execOp;rw[a3];simp[hT.ev 9 (Tz nm) (by simp)]) (Xj nm) λgs sl t dd T hh hT=>?_;replace hI:=hI.at dd;obtain⟨o,ho,a3,a0,hg⟩:=Akr;refine J4 hh hT ho (D6 hg _) rfl a0 (.inl a3) (hT.ev 2 (Vz la ls.length lc) (by simp)) (by omega) (by simp) λgs sl t dd T hh hT=>?_;replace hI:=hI.at dd;obtain⟨o,ho,a3,a0,hg⟩:=Aks;refine Di hh hT ho (D6 hg _) rfl a0 (by omega) (by simp) (q:=Instr.build 63 #[(0,.agg #[Tz nm]),(1,Vz la ls.length lc)]) (by unfold execOp;rw[a3];simp[hT.ev 10 (.agg #[Tz nm]) (by simp),hT.ev 11 (Vz la ls.length lc) (by simp)]) (AgP nm _ _ _) λgs sl t dd T hh hT=>?_;replace hI:=hI.at dd;obtain⟨o,ho,a3,a0,hg⟩:=Akt;refine Di hh hT ho (D6 hg _) rfl a0 (by omega) (by simp) (q:=Instr.makeInterface 63 (.agg #[Tz nm,Vz la ls.length lc])) (by unfold execOp;rw[a3];simp[hT.ev 12 (.agg #[Tz nm,Vz la ls.length lc]) (by simp)]) (Akv _) λgs sl t dd T hh hT=>?_;replace hI:=hI.at dd;obtain⟨o,ho,a3,a0,hg⟩:=Aku;obtain⟨b4,a3⟩:=a3;have a7:x6<V.heap.size:=(hI.cell (a:=⟨x6,0,none⟩) (v:=Nz) λu hu=>hu.2.2.1 0 _ rfl).2.1;have b1:W.heap.size<=V.heap.size:=hI.size
 refine DL (X:=X) #[.agg #[Vz a1 b.tg.length c1,Vz a2 b.bs.length c2],.iface 63 (.agg #[Tz nm,Vz la ls.length lc])] hh hT ho (D6 hg _) rfl a0 a3 func24 (by kernel_rfl) rfl (by simp[hT.ev 8 (.agg #[Vz a1 b.tg.length c1,Vz a2 b.bs.length c2]) (by simp),hT.ev 13 (.iface 63 (.agg #[Tz nm,Vz la ls.length lc])) (by simp)]) (by omega) (by simp) (R:=λv u=>∃x,v=.tuple #[x,Iz (L0 b (O8 b nm ls))]/\K8 u V.heap.size x (K7 b (O8 b nm ls) (X8 b (F3 b nm) (R6 ls))))
  (λd=>JT (b:=b) (nm:=nm) hI.hX (hI.base.at d) hF (λτ d=>(hI.hold τ d).1.1) (λu hu=>hu.1) (λu hu=>hu.2.2) λX' Shun' W' hX' hb' h0'=>QP (b:=b) (rF:=147) hX' hb' hF h0' (λu hu=>hu.1) (λn w=>Uz n _ _ w) (λx w=>AgQ _ _ _ _ x w)
   (λhok X2 Shun2 W2 hX2 hb2 h02=>Abm R4 (by kernel_rfl) hb2 hX2 (λ_ _ _ _ h=>h) λτ d=>(TJ b _ nm _ ls _ (h02 τ d).1 hok (h02 τ d).2.1).mono λe u' h=>⟨⟨_,h.1,rfl⟩,h.2⟩)
   (λhok hc u hu=>SA b _ nm _ ls u hu.1 hu.2.1 (by have:=Fz hok hc;omega) hok (Ja hc).2 (Eo hc))) λX1 Shun1 gs V1 sl t v T hX1 hW1 hh hT hb1 hR1=>?_
 obtain⟨x,rfl,a6⟩:=(hR1 (λ_ _=>0) 0).1
 have b2:∀τ d,K8 (E0 X1 V1 τ d) V.heap.size x (K7 b (O8 b nm ls) (X8 b (F3 b nm) (R6 ls))):=λτ d=>by
  obtain⟨x',e,h⟩:=(hR1 τ d).1;cases e
  exact h
 obtain⟨i1,j1,i2,j2,rfl⟩:=a6.shape;have a4:=hI.up (IC kF) hX1 hb1 hW1 λτ d=>(hR1 τ d).2;clear hI hR1 hW1 hb1 hX1 a3 ho a0 hg o a6;generalize hbk':(K7 b (O8 b nm ls) (X8 b (F3 b nm) (R6 ls)))=bk at *;have b3:F5 X W (λu=>CB u x6 [Nz,Nz]/\K8 u V.heap.size (.agg #[Vz i1 bk.tg.length j1,Vz i2 bk.bs.length j2]) bk) X1 Shun1 V1:=⟨a4.hX,a4.base,λτ d=>⟨(a4.hold τ d).2.2,b2 τ d⟩,a4.low,a4.far⟩;have w6:=hT.get 6 (Pz x6 0) (by simp);have a8:=hT.get 14 (.tuple #[.agg #[Vz i1 bk.tg.length j1,Vz i2 bk.bs.length j2],Iz (L0 b (O8 b nm ls))]) (by simp);have z1:=hT.1;refine NB R4 Akn AbB rfl b3 (G':=λa u=>a.tmps.getD 6 undef=Pz x6 0/\a.tmps.getD 7 undef=.int .i64 (L0 b (O8 b nm ls))/\CB u x6 [Vz i1 bk.tg.length j1,Vz i2 bk.bs.length j2]/\K8 u W.heap.size (.agg #[Vz i1 bk.tg.length j1,Vz i2 bk.bs.length j2]) bk) (λa u τ d h=>⟨h.1,h.2.1,h.2.2.1,Cv h.2.2.2⟩) (λu hu hz=>?_) hh λgs V3 sl t a hh hd hI=>?_
 ·clear hT hh;obtain⟨v0,v1,v2,v3,v4,v5,v6,v7,v8,v9,b5,b6,b7,b8,b9,c3,c4,rfl⟩:=FB T z1;simp only[List.getElem?_toArray,List.getElem?_cons_succ,List.getElem?_cons_zero,Option.some.injEq] at w6 a8;subst w6 a8
  exact Xq _ _ _ _ _ _ _ _ _ _ _ _ _ _ _ u hu.1 (show Hid _ from λa u' hd q6 q7 kX hb=>by
   subst hb;exact⟨rfl,⟨q6,q7,kX,((hu.2.set a7).set a7).low b1⟩,I4 (A4 _ _) zl _ _⟩)
 refine Ex R4 NU AbB hd func9 hI a9 (λu hu hz=>?_) hh (a5 X1 Shun1);exact Je (Akw hd hu.1 hu.2.1 hu.2.2.1 ⟨⟨_,rfl,hu.2.2.2⟩,A4 _ _⟩)
theorem AgR{X:Nat->Prop}{Shun:Loc->Prop}{W:World}{b:Bk}{bv lv:Value}{nm:BA}{ls:List BA}(hX:Y9 Shun X)(hbW:M1 X W)(hB:∀τ d,K6 (E0 X W τ d) bv b)(hL:∀τ d,Ls (E0 X W τ d) lv ls)(hE:∀τ d,T8 (E0 X W τ d)):
  AB prog 9 #[bv,Tz nm,lv] X Shun W λv u=>∃x,v=.tuple #[x,Iz (AF b nm ls)]/\K8 u W.heap.size x (Z5 b nm ls):=by
 obtain⟨e1,e2⟩:=Xe b nm ls;rw[← e1,← e2];exact Aen hX hbW hB hL hE
end Go.Proofs.YtcgkgmmclfeohaaGreatDoor
namespace Go.Proofs.YtcgkgmmclfeohaaGreatDoor
open Go.Proofs.Tryz
open Go.RowKit
theorem AbD{b:Bk}{nm:BA}{ls:List BA}(h:As b nm ls=0):J3 ls b.tg/\¬5<=b.bs.length:=by
 unfold As at h;split at h
 ·omega
 ·rename_i h1;split at h
  ·omega
  ·split at h
   ·omega
   ·rename_i h2;refine⟨U9.1 ?_,h2⟩;cases hp:pB (J3 ls b.tg)
    ·rw[hp,Bool.and_false] at h1;exact absurd rfl h1
    ·rfl
theorem Qi{b:Bk}{nm:BA}{ls:List BA}(hok:I8 b)(h:As b nm ls=0):ls.length<=8:=by
 have h1:=Ac (AbD h).1;have h2:=(Ai hok).1;omega
theorem Uh(b:Bk)(nm:BA)(ls:List BA):N9 b nm ls=Z7∨(I8 b/\N9 b nm ls=b)∨(I8 b/\ls.length<=8/\N9 b nm ls=⟨b.tg,b.bs.take (U3 b nm)++⟨nm,[],ls⟩::b.bs.drop (U3 b nm)⟩):=by
 rw[← (LZ b nm ls).2];cases hb:J6 b
 ·exact .inl (by simp[K7,hb])
 ·by_cases hc:As b nm ls=0
  ·exact .inr (.inr ⟨Ad hb,Qi (Ad hb) hc,by simp[K7,hb,hc]⟩)
  ·exact .inr (.inl ⟨Ad hb,by simp[K7,hb,hc]⟩)
theorem Aeo{bs:List Ba}{k:Nat}{x y:Ba}(h:y∈bs.take k++x::bs.drop k):y∈bs∨y=x:=by
 rcases C9.1 h with h|h
 ·exact .inl (List.mem_of_mem_take h)
 ·rcases List.mem_cons.1 h with h|h
  ·exact .inr h
  ·exact .inl (List.mem_of_mem_drop h)
theorem ZX{b:Bk}{nm:BA}{ls:List BA}(h:Ah b)(hn:∀s∈ls,s.size<=maxLen):Ah (N9 b nm ls):=by
 rcases Uh b nm ls with e|⟨-,e⟩|⟨-,-,e⟩<;>rw[e]
 ·exact DA
 ·exact h
 ·refine⟨h.1,λx hx=>?_⟩;rcases Aeo hx with k|k
  ·exact h.2 x k
  ·subst k;exact⟨λs hs=>by simp at hs,hn⟩
end Go.Proofs.YtcgkgmmclfeohaaGreatDoor
namespace Go.Proofs.YtcgkgmmclfeohaaGreatDoor
open Go.Proofs.Tryz
open Go.Conc Go.ConcN Go.RowKit Go.Conc.Lib Go.ConcR.Gen Go.ConcN.Gen
open Go.ConcR (KK wgBlock WgAt stA smA rd wr mk Payload DC0)
noncomputable def Gi:Code:=Tryz.f5.body.getD .skip
noncomputable def Pe:Code:=match Gi with | .seq r _=>r|_=>.skip
noncomputable def Dd:Array Oper:=match Gi with | .seq _ (.seq (.region _ o _) _)=>o|_=>#[]
theorem ZY:Gi=.seq Pe (.seq (.region 1 Dd false) .ret):=by simp only[Pe,Dd,Gi,Tryz.f5,Option.getD_some]
noncomputable def bEn:Frame:=Go.Conc.base 5
def Xr(bv nv lv:Value):Array Value:=#[bv,nv,lv,undef,undef,undef,undef,undef,undef,undef,undef,undef,undef,undef,undef,undef,undef]
theorem Aep(bv nv lv:Value):Frame.enter prog 5 #[bv,nv,lv] .normal=bEn.at ⟨Xr bv nv lv,[]⟩ [.code Gi]:=by
 simp[Frame.enter,Frame.at,func5,bEn,Go.Conc.base,Xr,Gi,Tryz.f5]
theorem AbE:Cm prog bEn:=⟨rfl,_,func5⟩
theorem AlO:O0 prog (λg=>Fm.contains g) Pe=true:=by kernel_rfl
theorem Akx:X6 prog (λg=>Fm.contains g) (.inRegion Dd [7,8,9,10]):=Ia (by kernel_rfl)
theorem Aky:∃o,Dd[0]?=some o/\(o.op=.load 26 (.tmp 3))/\o.dst=some 8/\o.guard=none:=⟨_,rfl,rfl,rfl,rfl⟩
theorem Akz:∃o,Dd[1]?=some o/\(o.op=.move (.tmp 1))/\o.dst=some 9/\o.guard=none:=⟨_,rfl,rfl,rfl,rfl⟩
theorem Ak0:∃o,Dd[2]?=some o/\(o.op=.build 48 #[(0,.tmp 9)])/\o.dst=some 10/\o.guard=none:=⟨_,rfl,rfl,rfl,rfl⟩
theorem Ak1:∃o,Dd[3]?=some o/\(o.op=.move (.tmp 2))/\o.dst=some 11/\o.guard=none:=⟨_,rfl,rfl,rfl,rfl⟩
theorem Ak2:∃o,Dd[4]?=some o/\(o.op=.build 51 #[(0,.tmp 10),(1,.tmp 11)])/\o.dst=some 12/\o.guard=none:=⟨_,rfl,rfl,rfl,rfl⟩
theorem Ak3:∃o,Dd[5]?=some o/\(o.op=.makeInterface 51 (.tmp 12))/\o.dst=some 13/\o.guard=none:=⟨_,rfl,rfl,rfl,rfl⟩
theorem Ak4:∃o,Dd[6]?=some o/\(∃ats,o.op=.call {callee:=.value (.func 24),args:=#[.tmp 8,.tmp 13],argTypes:=ats})/\o.dst=some 14/\o.guard=none:=⟨_,rfl,⟨_,rfl⟩,rfl,rfl⟩
theorem AgS:Dd.size=11:=rfl
theorem AgT(s:BA)(a:Option Addr)(n c:Nat)(w:World):(Instr.build 51 #[(0,.agg #[Tz s]),(1,Vz a n c)]).runT prog w #[]=(.ok (.agg #[Tz s,Vz a n c]) w,#[]):=by kernel_rfl
theorem Ak5(v:Value)(w:World):(Instr.makeInterface 51 v).runT prog w #[]=(.ok (.iface 51 v) w,#[]):=by kernel_rfl
section
variable {b:Bk} {a1 a2:Option Addr} {c1 c2:Nat} {nv lv:Value}
def AbF(bvs:List Value)(nv lv:Value)(lo:Nat)(a:Act)(u:World):Prop:=a.tmps.size=17/\a.tmps[1]?=some nv/\a.tmps[2]?=some lv/\a.tmps[3]?=some (.pointer (some ⟨pb a 3,0,none⟩))/\a.tmps[6]?=some (.pointer (some ⟨pb a 6,0,none⟩))/\CB u (pb a 3) bvs/\CB u (pb a 6) [.slice none 0 0,.slice none 0 0]/\lo<=pb a 6
theorem Aeq(bvs:List Value)(nv lv:Value)(lo:Nat)(a:Act):N6 (AbF bvs nv lv lo a):=λ_ _ _ h=>h
theorem Aer(u:World){lo:Nat}(hlo:lo<=u.heap.size):BG prog [Pe] (λe a u'=>e=.normal/\AbF [Vz a1 b.tg.length c1,Vz a2 b.bs.length c2] nv lv lo a u'/\Up u u') ⟨Xr (.agg #[Vz a1 b.tg.length c1,Vz a2 b.bs.length c2]) nv lv,[]⟩ u:=by
 obtain⟨W1,a0,kA,kB,a3,a4⟩:=cbE2 u [Vz a1 b.tg.length c1,Vz a2 b.bs.length c2] 26 [Nz,Nz] 26;simp only[Pe,Xr,Gi,Tryz.f5,Option.getD_some];apply Al;intro K hK
 go_wp2_with fail;try rw[a0]
 exact⟨rfl,⟨rfl,rfl,rfl,rfl,rfl,kA,kB,by show lo<=u.heap.size+1;omega⟩,a3⟩
variable {x6 lo:Nat} {bk:Bk} {ev:Value}
theorem Xs{i1 i2:Option Addr}{j1 j2:Nat}(v0 v1 v2 v3 v4 v5 v7 v8 v9 v10 v11 v12 v13 v15 v16:Value)(u:World)(kR:CB u x6 [Nz,Nz]){Q:Exit->Act->World->Prop}(HN:Hid (∀(a:Act)(u':World),a.defers=[]->a.tmps.getD 6 undef=Pz x6 0->a.tmps.getD 7 undef=ev->CB u' x6 [Vz i1 bk.tg.length j1,Vz i2 bk.bs.length j2]->u'=(u.setCell ⟨x6,0,none⟩ (Vz i1 bk.tg.length j1)).setCell ⟨x6,1,none⟩ (Vz i2 bk.bs.length j2)->Q .normal a u')):
  wpOps prog Dd Q [7,8,9,10] ⟨#[v0,v1,v2,v3,v4,v5,Pz x6 0,v7,v8,v9,v10,v11,v12,v13,.tuple #[.agg #[Vz i1 bk.tg.length j1,Vz i2 bk.bs.length j2],ev],v15,v16],[]⟩ u:=by
 obtain⟨⟨g0,g1⟩,q0,q1⟩:=kR.c2;rw[show ([7,8,9,10]:List Nat)=List.range' 7 (Dd.toList.drop 7).length from rfl];refine HZ ?_;simp only[Dd,Gi,Tryz.f5,Option.getD_some,List.drop_succ_cons,List.drop_zero];go_wp2_with fail;exact HN.out _ _ rfl rfl rfl (kR.copy2 _ _) rfl
end
theorem Ak6{a:Act}{u:World}{x6:Nat}{y0 y1 v:Value}{R:Value->World->Prop}(hd:a.defers=[])(h4:a.tmps.getD 6 undef=Pz x6 0)(h5:a.tmps.getD 7 undef=v)(k:CB u x6 [y0,y1])(hR:R (.tuple #[.agg #[y0,y1],v]) u):EF prog Tryz.f5 R .ret a u :=
 Eb (Fo (cs:=[y0,y1]) results5 underlying26 rfl M4 h4 h5 k) hd hR
theorem AgU(s:BA)(a:Option Addr)(n c:Nat)(x:Value)(w:World):(callMethod (.iface 51 (.agg #[Tz s,Vz a n c])) "loop.example/maltrun/impl.refusal" #[x]).runT prog w #[]=(.ok (.enter 143 #[.agg #[Tz s,Vz a n c],x]) w,#[]):=by kernel_rfl
theorem AbG{X:Nat->Prop}{Shun:Loc->Prop}{W:World}{b:Bk}{bv lv:Value}{nm:BA}{ls:List BA}(hX:Y9 Shun X)(hbW:M1 X W)(hB:∀τ d,K6 (E0 X W τ d) bv b)(hL:∀τ d,Ls (E0 X W τ d) lv ls)(hE:∀τ d,T8 (E0 X W τ d))(hnz:nm.size<=maxLen):
  AB prog 5 #[bv,Tz nm,lv] X Shun W λv u=>∃x,v=.tuple #[x,Iz (L0 b (As b nm ls))]/\K8 u W.heap.size x (K7 b (As b nm ls) ⟨b.tg,b.bs.take (U3 b nm)++⟨nm,[],ls⟩::b.bs.drop (U3 b nm)⟩):=by
 intro Post c cs gs sl t hh k;obtain⟨a1,c1,a2,c2,rfl,-,-⟩:=(hB (λ_ _=>0) 0).parts;obtain⟨la,lc,rfl,-⟩:=id (hL (λ_ _=>0) 0);have hF:S2 λu=>K6 u (.agg #[Vz a1 b.tg.length c1,Vz a2 b.bs.length c2]) b/\Ls u (Vz la ls.length lc) ls/\T8 u:=⟨λu u' h hb=>⟨h.1.up hb,h.2.1.up hb,h.2.2.up hb⟩,λ_ _ _ h=>h⟩;have hI:=F5.start (F:=λu=>(K6 u (.agg #[Vz a1 b.tg.length c1,Vz a2 b.bs.length c2]) b/\Ls u (Vz la ls.length lc) ls/\T8 u)/\W.heap.size<=u.heap.size) hX hbW λτ d=>⟨⟨hB τ d,hL τ d,hE τ d⟩,by (try unfold Up);rw[I5];exact A3 _⟩;have kF:S2 λu=>(K6 u (.agg #[Vz a1 b.tg.length c1,Vz a2 b.bs.length c2]) b/\Ls u (Vz la ls.length lc) ls/\T8 u)/\W.heap.size<=u.heap.size:=⟨λu u' h hb=>⟨hF.up _ _ h.1 hb,B4 h.2 hb.size⟩,λ_ _ _ h=>h⟩;have a5:∀X' Shun' gs V sl t v,G6 prog Shun' gs (G (c.finish v) cs) t->F5 X W (λu=>∃x,v=.tuple #[x,Iz (L0 b (As b nm ls))]/\K8 u W.heap.size x (K7 b (As b nm ls) ⟨b.tg,b.bs.take (U3 b nm)++⟨nm,[],ls⟩::b.bs.drop (U3 b nm)⟩)) X' Shun' V->E7 prog Post (crowd gs V sl) t:=λX' Shun' gs V sl t v hh hI=>k X' Shun' gs V sl t v hI.hX hI.far hh hI.base λτ d=>⟨hI.hold τ d,hI.low τ d⟩;have a9:∀v:Value,N6 λu=>∃x,v=.tuple #[x,Iz (L0 b (As b nm ls))]/\K8 u W.heap.size x (K7 b (As b nm ls) ⟨b.tg,b.bs.take (U3 b nm)++⟨nm,[],ls⟩::b.bs.drop (U3 b nm)⟩):=λv u τ d ⟨x,e,h⟩=>⟨x,e,Cv h⟩;clear k;rw[Aep,ZY] at hh;refine Hv (l:=[Pe]) R4 (λr hr=>by simp at hr;subst hr;exact AlO) AbE rfl kF hI (G':=AbF [Vz a1 b.tg.length c1,Vz a2 b.bs.length c2] (Tz nm) (Vz la ls.length lc) W.heap.size) (Aeq _ _ _ _) (λu hu=>Aer u hu.2) hh λgs V sl t a hh hd hI=>?_;have b0:∃T,a=⟨T,[]⟩:=⟨a.tmps,by cases a;simp only at hd;subst hd;rfl⟩;obtain⟨T,rfl⟩:=b0;obtain⟨z1,e1,e2,e3,e6,-,-,zl⟩:=(hI.hold (λ_ _=>0) 0).2;replace hI:=hI.mono (F':=λu=>((K6 u (.agg #[Vz a1 b.tg.length c1,Vz a2 b.bs.length c2]) b/\Ls u (Vz la ls.length lc) ls/\T8 u)/\W.heap.size<=u.heap.size)/\CB u (pb ⟨T,[]⟩ 3) [Vz a1 b.tg.length c1,Vz a2 b.bs.length c2]/\CB u (pb ⟨T,[]⟩ 6) [Nz,Nz]) λu hu=>⟨hu.1,hu.2.2.2.2.2.2.1,hu.2.2.2.2.2.2.2.1⟩;generalize pb ⟨T,[]⟩ 3=x3 at *;generalize pb ⟨T,[]⟩ 6=x6 at *;refine D9 hh rfl (λw=>stepG_seq) λgs sl t dd hh=>?_;replace hI:=hI.at dd;refine D9 hh rfl (λw=>stepG_region) λgs sl t dd hh=>?_;replace hI:=hI.at dd;rw[AgS] at hh;change G6 prog Shun gs (G (bEn.at ⟨T,[]⟩ [.inRegion Dd [0,1,2,3,4,5,6,7,8,9,10],.code .ret]) (c::cs)) t at hh
 have hT:O1 17 T [(1,Tz nm),(2,Vz la ls.length lc),(3,Pz x3 0),(6,Pz x6 0)]:=⟨z1,by intro p hp;simp at hp;rcases hp with rfl|rfl|rfl|rfl<;>first|exact e1|exact e2|exact e3|exact e6⟩;clear e1 e2 e3 e6 z1;obtain⟨o,ho,a3,a0,hg⟩:=Aky;refine X9 hI hh hT ho (D6 hg _) rfl a0 a3 (hT.ev 3 (Pz x3 0) (by simp)) (λu hu=>hu.2.1) (by omega) (by simp) λgs sl t dd T hh hT=>?_;replace hI:=hI.at dd;obtain⟨o,ho,a3,a0,hg⟩:=Akz;refine J4 hh hT ho (D6 hg _) rfl a0 (.inl a3) (hT.ev 1 (Tz nm) (by simp)) (by omega) (by simp) λgs sl t dd T hh hT=>?_;replace hI:=hI.at dd;obtain⟨o,ho,a3,a0,hg⟩:=Ak0;refine Di hh hT ho (D6 hg _) rfl a0 (by omega) (by simp) (q:=Instr.build 48 #[(0,Tz nm)]) (by unfold execOp;rw[a3];simp[hT.ev 9 (Tz nm) (by simp)]) (Xj nm) λgs sl t dd T hh hT=>?_;replace hI:=hI.at dd;obtain⟨o,ho,a3,a0,hg⟩:=Ak1;refine J4 hh hT ho (D6 hg _) rfl a0 (.inl a3) (hT.ev 2 (Vz la ls.length lc) (by simp)) (by omega) (by simp) λgs sl t dd T hh hT=>?_;replace hI:=hI.at dd;obtain⟨o,ho,a3,a0,hg⟩:=Ak2;refine Di hh hT ho (D6 hg _) rfl a0 (by omega) (by simp) (q:=Instr.build 51 #[(0,.agg #[Tz nm]),(1,Vz la ls.length lc)]) (by unfold execOp;rw[a3];simp[hT.ev 10 (.agg #[Tz nm]) (by simp),hT.ev 11 (Vz la ls.length lc) (by simp)]) (AgT nm _ _ _) λgs sl t dd T hh hT=>?_;replace hI:=hI.at dd;obtain⟨o,ho,a3,a0,hg⟩:=Ak3;refine Di hh hT ho (D6 hg _) rfl a0 (by omega) (by simp) (q:=Instr.makeInterface 51 (.agg #[Tz nm,Vz la ls.length lc])) (by unfold execOp;rw[a3];simp[hT.ev 12 (.agg #[Tz nm,Vz la ls.length lc]) (by simp)]) (Ak5 _) λgs sl t dd T hh hT=>?_;replace hI:=hI.at dd;obtain⟨o,ho,a3,a0,hg⟩:=Ak4;obtain⟨b4,a3⟩:=a3;have a7:x6<V.heap.size:=(hI.cell (a:=⟨x6,0,none⟩) (v:=Nz) λu hu=>hu.2.2.1 0 _ rfl).2.1;have b1:W.heap.size<=V.heap.size:=hI.size
 refine DL (X:=X) #[.agg #[Vz a1 b.tg.length c1,Vz a2 b.bs.length c2],.iface 51 (.agg #[Tz nm,Vz la ls.length lc])] hh hT ho (D6 hg _) rfl a0 a3 func24 (by kernel_rfl) rfl (by simp[hT.ev 8 (.agg #[Vz a1 b.tg.length c1,Vz a2 b.bs.length c2]) (by simp),hT.ev 13 (.iface 51 (.agg #[Tz nm,Vz la ls.length lc])) (by simp)]) (by omega) (by simp) (R:=λv u=>∃x,v=.tuple #[x,Iz (L0 b (As b nm ls))]/\K8 u V.heap.size x (K7 b (As b nm ls) ⟨b.tg,b.bs.take (U3 b nm)++⟨nm,[],ls⟩::b.bs.drop (U3 b nm)⟩))
  (λd=>JT (b:=b) (nm:=nm) hI.hX (hI.base.at d) hF (λτ d=>(hI.hold τ d).1.1) (λu hu=>hu.1) (λu hu=>hu.2.2) λX' Shun' W' hX' hb' h0'=>QP (b:=b) (rF:=143) hX' hb' hF h0' (λu hu=>hu.1) (λn w=>UA n _ _ w) (λx w=>AgU _ _ _ _ x w)
   (λhok X2 Shun2 W2 hX2 hb2 h02=>Abm R4 (by kernel_rfl) hb2 hX2 (λ_ _ _ _ h=>h) λτ d=>(Th b _ nm _ ls _ (h02 τ d).1 hok (h02 τ d).2.1 hnz).mono λe u' h=>⟨⟨_,h.1,rfl⟩,h.2⟩)
   (λhok hc u hu=>Qs b _ nm _ ls u hu.1 hu.2.1 (by have:=Qi hok hc;omega) hnz hok)) λX1 Shun1 gs V1 sl t v T hX1 hW1 hh hT hb1 hR1=>?_
 obtain⟨x,rfl,a6⟩:=(hR1 (λ_ _=>0) 0).1
 have b2:∀τ d,K8 (E0 X1 V1 τ d) V.heap.size x (K7 b (As b nm ls) ⟨b.tg,b.bs.take (U3 b nm)++⟨nm,[],ls⟩::b.bs.drop (U3 b nm)⟩):=λτ d=>by
  obtain⟨x',e,h⟩:=(hR1 τ d).1;cases e
  exact h
 obtain⟨i1,j1,i2,j2,rfl⟩:=a6.shape;have a4:=hI.up (IC kF) hX1 hb1 hW1 λτ d=>(hR1 τ d).2;clear hI hR1 hW1 hb1 hX1 a3 ho a0 hg o a6;generalize hbk':(K7 b (As b nm ls) ⟨b.tg,b.bs.take (U3 b nm)++⟨nm,[],ls⟩::b.bs.drop (U3 b nm)⟩)=bk at *;have b3:F5 X W (λu=>CB u x6 [Nz,Nz]/\K8 u V.heap.size (.agg #[Vz i1 bk.tg.length j1,Vz i2 bk.bs.length j2]) bk) X1 Shun1 V1:=⟨a4.hX,a4.base,λτ d=>⟨(a4.hold τ d).2.2,b2 τ d⟩,a4.low,a4.far⟩;have w6:=hT.get 6 (Pz x6 0) (by simp);have a8:=hT.get 14 (.tuple #[.agg #[Vz i1 bk.tg.length j1,Vz i2 bk.bs.length j2],Iz (L0 b (As b nm ls))]) (by simp);have z1:=hT.1;refine NB R4 Akx AbE rfl b3 (G':=λa u=>a.tmps.getD 6 undef=Pz x6 0/\a.tmps.getD 7 undef=.int .i64 (L0 b (As b nm ls))/\CB u x6 [Vz i1 bk.tg.length j1,Vz i2 bk.bs.length j2]/\K8 u W.heap.size (.agg #[Vz i1 bk.tg.length j1,Vz i2 bk.bs.length j2]) bk) (λa u τ d h=>⟨h.1,h.2.1,h.2.2.1,Cv h.2.2.2⟩) (λu hu hz=>?_) hh λgs V3 sl t a hh hd hI=>?_
 ·clear hT hh;obtain⟨v0,v1,v2,v3,v4,v5,v6,v7,v8,v9,b5,b6,b7,b8,b9,c3,c4,rfl⟩:=FB T z1;simp only[List.getElem?_toArray,List.getElem?_cons_succ,List.getElem?_cons_zero,Option.some.injEq] at w6 a8;subst w6 a8
  exact Xs _ _ _ _ _ _ _ _ _ _ _ _ _ _ _ u hu.1 (show Hid _ from λa u' hd q6 q7 kX hb=>by
   subst hb;exact⟨rfl,⟨q6,q7,kX,((hu.2.set a7).set a7).low b1⟩,I4 (A4 _ _) zl _ _⟩)
 refine Ex R4 NU AbE hd func5 hI a9 (λu hu hz=>?_) hh (a5 X1 Shun1);exact Je (Ak6 hd hu.1 hu.2.1 hu.2.2.1 ⟨⟨_,rfl,hu.2.2.2⟩,A4 _ _⟩)
theorem Aes{X:Nat->Prop}{Shun:Loc->Prop}{W:World}{b:Bk}{bv lv:Value}{nm:BA}{ls:List BA}(hX:Y9 Shun X)(hbW:M1 X W)(hB:∀τ d,K6 (E0 X W τ d) bv b)(hL:∀τ d,Ls (E0 X W τ d) lv ls)(hE:∀τ d,T8 (E0 X W τ d))(hnz:nm.size<=maxLen):
  AB prog 5 #[bv,Tz nm,lv] X Shun W λv u=>∃x,v=.tuple #[x,Iz (R8 b nm ls)]/\K8 u W.heap.size x (N9 b nm ls):=by
 obtain⟨e1,e2⟩:=LZ b nm ls;rw[← e1,← e2];exact AbG hX hbW hB hL hE hnz
end Go.Proofs.YtcgkgmmclfeohaaGreatDoor
namespace Go.Proofs.YtcgkgmmclfeohaaGreatDoor
open Go.Proofs.Tryz
open Go.RowKit
theorem Ui(b:Bk)(nm:BA):L0 b (O8 b nm [])=Bc b nm/\K7 b (O8 b nm []) ⟨b.tg,b.bs.take (F3 b nm)++b.bs.drop (F3 b nm+1)⟩=S5 b nm:=by
 cases hb:J6 b
 ·obtain⟨h1,h2⟩:=GT (nm:=nm) hb;exact⟨by rw[h1];simp[L0,hb],by rw[h2];simp[K7,hb]⟩
 ·cases hm:D7 (I3 b.bs) nm
  ·obtain⟨h1,h2⟩:=DV hb hm;exact⟨by rw[h1];simp[L0,hb,O8,hm],by rw[h2];simp[K7,hb,O8,hm]⟩
  ·obtain⟨h1,h2⟩:=DB hb hm;exact⟨by rw[h1];simp[L0,hb,O8,hm,RV],by rw[h2];simp[K7,hb,O8,hm,RV]⟩
end Go.Proofs.YtcgkgmmclfeohaaGreatDoor
namespace Go.Proofs.YtcgkgmmclfeohaaGreatDoor
open Go.Proofs.Tryz
open Go.Conc Go.ConcN Go.RowKit Go.Conc.Lib Go.ConcR.Gen Go.ConcN.Gen
open Go.ConcR (KK wgBlock WgAt stA smA rd wr mk Payload DC0)
noncomputable def Gj:Code:=Tryz.f11.body.getD .skip
noncomputable def Pf:Code:=match Gj with | .seq r _=>r|_=>.skip
noncomputable def Dx:Array Oper:=match Gj with | .seq _ (.seq (.region _ o _) _)=>o|_=>#[]
theorem ZZ:Gj=.seq Pf (.seq (.region 1 Dx false) .ret):=by simp only[Pf,Dx,Gj,Tryz.f11,Option.getD_some]
noncomputable def bLv:Frame:=Go.Conc.base 11
def Xt(bv nv:Value):Array Value:=#[bv,nv,undef,undef,undef,undef,undef,undef,undef,undef,undef,undef,undef,undef]
theorem Aet(bv nv:Value):Frame.enter prog 11 #[bv,nv] .normal=bLv.at ⟨Xt bv nv,[]⟩ [.code Gj]:=by
 simp[Frame.enter,Frame.at,func11,bLv,Go.Conc.base,Xt,Gj,Tryz.f11]
theorem AbH:Cm prog bLv:=⟨rfl,_,func11⟩
theorem AlP:O0 prog (λg=>Fm.contains g) Pf=true:=by kernel_rfl
theorem Ak7:X6 prog (λg=>Fm.contains g) (.inRegion Dx [6,7,8,9]):=Ia (by kernel_rfl)
theorem Ak8:∃o,Dx[0]?=some o/\(o.op=.load 26 (.tmp 2))/\o.dst=some 6/\o.guard=none:=⟨_,rfl,rfl,rfl,rfl⟩
theorem Ak9:∃o,Dx[1]?=some o/\(o.op=.move (.tmp 1))/\o.dst=some 7/\o.guard=none:=⟨_,rfl,rfl,rfl,rfl⟩
theorem AkA:∃o,Dx[2]?=some o/\(o.op=.build 48 #[(0,.tmp 7)])/\o.dst=some 8/\o.guard=none:=⟨_,rfl,rfl,rfl,rfl⟩
theorem AkB:∃o,Dx[3]?=some o/\(o.op=.build 66 #[(0,.tmp 8)])/\o.dst=some 9/\o.guard=none:=⟨_,rfl,rfl,rfl,rfl⟩
theorem AkC:∃o,Dx[4]?=some o/\(o.op=.makeInterface 66 (.tmp 9))/\o.dst=some 10/\o.guard=none:=⟨_,rfl,rfl,rfl,rfl⟩
theorem AkD:∃o,Dx[5]?=some o/\(∃ats,o.op=.call {callee:=.value (.func 24),args:=#[.tmp 6,.tmp 10],argTypes:=ats})/\o.dst=some 11/\o.guard=none:=⟨_,rfl,⟨_,rfl⟩,rfl,rfl⟩
theorem AgV:Dx.size=10:=rfl
theorem AgW(s:BA)(w:World):(Instr.build 66 #[(0,.agg #[Tz s])]).runT prog w #[]=(.ok (.agg #[Tz s]) w,#[]):=by kernel_rfl
theorem AkE(v:Value)(w:World):(Instr.makeInterface 66 v).runT prog w #[]=(.ok (.iface 66 v) w,#[]):=by kernel_rfl
theorem Aeu(T:Array Value)(h:T.size=14):∃v0 v1 v2 v3 v4 v5 v6 v7 v8 v9 v10 v11 v12 v13,T=#[v0,v1,v2,v3,v4,v5,v6,v7,v8,v9,v10,v11,v12,v13]:=by
 obtain⟨l⟩:=T;match l,h with
 | [v0,v1,v2,v3,v4,v5,v6,v7,v8,v9,v10,v11,v12,v13],_=>exact⟨v0,v1,v2,v3,v4,v5,v6,v7,v8,v9,v10,v11,v12,v13,rfl⟩
section
variable {b:Bk} {a1 a2:Option Addr} {c1 c2:Nat} {nv:Value}
def AbI(bvs:List Value)(nv:Value)(lo:Nat)(a:Act)(u:World):Prop:=a.tmps.size=14/\a.tmps[1]?=some nv/\a.tmps[2]?=some (.pointer (some ⟨pb a 2,0,none⟩))/\a.tmps[4]?=some (.pointer (some ⟨pb a 4,0,none⟩))/\CB u (pb a 2) bvs/\CB u (pb a 4) [.slice none 0 0,.slice none 0 0]/\lo<=pb a 4
theorem Aev(bvs:List Value)(nv:Value)(lo:Nat)(a:Act):N6 (AbI bvs nv lo a):=λ_ _ _ h=>h
theorem Aew(u:World){lo:Nat}(hlo:lo<=u.heap.size):BG prog [Pf] (λe a u'=>e=.normal/\AbI [Vz a1 b.tg.length c1,Vz a2 b.bs.length c2] nv lo a u'/\Up u u') ⟨Xt (.agg #[Vz a1 b.tg.length c1,Vz a2 b.bs.length c2]) nv,[]⟩ u:=by
 obtain⟨W1,a0,kA,kB,a3,a4⟩:=cbE2 u [Vz a1 b.tg.length c1,Vz a2 b.bs.length c2] 26 [Nz,Nz] 26;simp only[Pf,Xt,Gj,Tryz.f11,Option.getD_some];apply Al;intro K hK
 go_wp2_with fail;try rw[a0]
 exact⟨rfl,⟨rfl,rfl,rfl,rfl,kA,kB,by show lo<=u.heap.size+1;omega⟩,a3⟩
variable {x6 lo:Nat} {bk:Bk} {ev:Value}
theorem Xu{i1 i2:Option Addr}{j1 j2:Nat}(v0 v1 v2 v3 v5 v6 v7 v8 v9 v10 v12 v13:Value)(u:World)(kR:CB u x6 [Nz,Nz]){Q:Exit->Act->World->Prop}(HN:Hid (∀(a:Act)(u':World),a.defers=[]->a.tmps.getD 4 undef=Pz x6 0->a.tmps.getD 5 undef=ev->CB u' x6 [Vz i1 bk.tg.length j1,Vz i2 bk.bs.length j2]->u'=(u.setCell ⟨x6,0,none⟩ (Vz i1 bk.tg.length j1)).setCell ⟨x6,1,none⟩ (Vz i2 bk.bs.length j2)->Q .normal a u')):
  wpOps prog Dx Q [6,7,8,9] ⟨#[v0,v1,v2,v3,Pz x6 0,v5,v6,v7,v8,v9,v10,.tuple #[.agg #[Vz i1 bk.tg.length j1,Vz i2 bk.bs.length j2],ev],v12,v13],[]⟩ u:=by
 obtain⟨⟨g0,g1⟩,q0,q1⟩:=kR.c2;rw[show ([6,7,8,9]:List Nat)=List.range' 6 (Dx.toList.drop 6).length from rfl];refine HZ ?_;simp only[Dx,Gj,Tryz.f11,Option.getD_some,List.drop_succ_cons,List.drop_zero];go_wp2_with fail;exact HN.out _ _ rfl rfl rfl (kR.copy2 _ _) rfl
end
theorem AkF{a:Act}{u:World}{x6:Nat}{y0 y1 v:Value}{R:Value->World->Prop}(hd:a.defers=[])(h4:a.tmps.getD 4 undef=Pz x6 0)(h5:a.tmps.getD 5 undef=v)(k:CB u x6 [y0,y1])(hR:R (.tuple #[.agg #[y0,y1],v]) u):EF prog Tryz.f11 R .ret a u :=
 Eb (Fo (cs:=[y0,y1]) results11 underlying26 rfl M4 h4 h5 k) hd hR
theorem AgX(s:BA)(x:Value)(w:World):(callMethod (.iface 66 (.agg #[Tz s])) "loop.example/maltrun/impl.refusal" #[x]).runT prog w #[]=(.ok (.enter 148 #[.agg #[Tz s],x]) w,#[]):=by kernel_rfl
theorem AbJ{X:Nat->Prop}{Shun:Loc->Prop}{W:World}{b:Bk}{bv:Value}{nm:BA}(hX:Y9 Shun X)(hbW:M1 X W)(hB:∀τ d,K6 (E0 X W τ d) bv b)(hE:∀τ d,T8 (E0 X W τ d)):
  AB prog 11 #[bv,Tz nm] X Shun W λv u=>∃x,v=.tuple #[x,Iz (L0 b (O8 b nm []))]/\K8 u W.heap.size x (K7 b (O8 b nm []) ⟨b.tg,b.bs.take (F3 b nm)++b.bs.drop (F3 b nm+1)⟩):=by
 intro Post c cs gs sl t hh k;obtain⟨a1,c1,a2,c2,rfl,-,-⟩:=(hB (λ_ _=>0) 0).parts;have hF:S2 λu=>K6 u (.agg #[Vz a1 b.tg.length c1,Vz a2 b.bs.length c2]) b/\T8 u:=⟨λu u' h hb=>⟨h.1.up hb,h.2.up hb⟩,λ_ _ _ h=>h⟩;have hI:=F5.start (F:=λu=>(K6 u (.agg #[Vz a1 b.tg.length c1,Vz a2 b.bs.length c2]) b/\T8 u)/\W.heap.size<=u.heap.size) hX hbW λτ d=>⟨⟨hB τ d,hE τ d⟩,by (try unfold Up);rw[I5];exact A3 _⟩;have kF:S2 λu=>(K6 u (.agg #[Vz a1 b.tg.length c1,Vz a2 b.bs.length c2]) b/\T8 u)/\W.heap.size<=u.heap.size:=⟨λu u' h hb=>⟨hF.up _ _ h.1 hb,B4 h.2 hb.size⟩,λ_ _ _ h=>h⟩;have a5:∀X' Shun' gs V sl t v,G6 prog Shun' gs (G (c.finish v) cs) t->F5 X W (λu=>∃x,v=.tuple #[x,Iz (L0 b (O8 b nm []))]/\K8 u W.heap.size x (K7 b (O8 b nm []) ⟨b.tg,b.bs.take (F3 b nm)++b.bs.drop (F3 b nm+1)⟩)) X' Shun' V->E7 prog Post (crowd gs V sl) t:=λX' Shun' gs V sl t v hh hI=>k X' Shun' gs V sl t v hI.hX hI.far hh hI.base λτ d=>⟨hI.hold τ d,hI.low τ d⟩;have a9:∀v:Value,N6 λu=>∃x,v=.tuple #[x,Iz (L0 b (O8 b nm []))]/\K8 u W.heap.size x (K7 b (O8 b nm []) ⟨b.tg,b.bs.take (F3 b nm)++b.bs.drop (F3 b nm+1)⟩):=λv u τ d ⟨x,e,h⟩=>⟨x,e,Cv h⟩;clear k;rw[Aet,ZZ] at hh;refine Hv (l:=[Pf]) R4 (λr hr=>by simp at hr;subst hr;exact AlP) AbH rfl kF hI (G':=AbI [Vz a1 b.tg.length c1,Vz a2 b.bs.length c2] (Tz nm) W.heap.size) (Aev _ _ _) (λu hu=>Aew u hu.2) hh λgs V sl t a hh hd hI=>?_;have b0:∃T,a=⟨T,[]⟩:=⟨a.tmps,by cases a;simp only at hd;subst hd;rfl⟩;obtain⟨T,rfl⟩:=b0;obtain⟨z1,e1,e3,e6,-,-,zl⟩:=(hI.hold (λ_ _=>0) 0).2;replace hI:=hI.mono (F':=λu=>((K6 u (.agg #[Vz a1 b.tg.length c1,Vz a2 b.bs.length c2]) b/\T8 u)/\W.heap.size<=u.heap.size)/\CB u (pb ⟨T,[]⟩ 2) [Vz a1 b.tg.length c1,Vz a2 b.bs.length c2]/\CB u (pb ⟨T,[]⟩ 4) [Nz,Nz]) λu hu=>⟨hu.1,hu.2.2.2.2.2.1,hu.2.2.2.2.2.2.1⟩;generalize pb ⟨T,[]⟩ 2=x3 at *;generalize pb ⟨T,[]⟩ 4=x6 at *;refine D9 hh rfl (λw=>stepG_seq) λgs sl t dd hh=>?_;replace hI:=hI.at dd;refine D9 hh rfl (λw=>stepG_region) λgs sl t dd hh=>?_;replace hI:=hI.at dd;rw[AgV] at hh;change G6 prog Shun gs (G (bLv.at ⟨T,[]⟩ [.inRegion Dx [0,1,2,3,4,5,6,7,8,9],.code .ret]) (c::cs)) t at hh
 have hT:O1 14 T [(1,Tz nm),(2,Pz x3 0),(4,Pz x6 0)]:=⟨z1,by intro p hp;simp at hp;rcases hp with rfl|rfl|rfl<;>first|exact e1|exact e3|exact e6⟩;clear e1 e3 e6 z1;obtain⟨o,ho,a3,a0,hg⟩:=Ak8;refine X9 hI hh hT ho (D6 hg _) rfl a0 a3 (hT.ev 2 (Pz x3 0) (by simp)) (λu hu=>hu.2.1) (by omega) (by simp) λgs sl t dd T hh hT=>?_;replace hI:=hI.at dd;obtain⟨o,ho,a3,a0,hg⟩:=Ak9;refine J4 hh hT ho (D6 hg _) rfl a0 (.inl a3) (hT.ev 1 (Tz nm) (by simp)) (by omega) (by simp) λgs sl t dd T hh hT=>?_;replace hI:=hI.at dd;obtain⟨o,ho,a3,a0,hg⟩:=AkA;refine Di hh hT ho (D6 hg _) rfl a0 (by omega) (by simp) (q:=Instr.build 48 #[(0,Tz nm)]) (by unfold execOp;rw[a3];simp[hT.ev 7 (Tz nm) (by simp)]) (Xj nm) λgs sl t dd T hh hT=>?_;replace hI:=hI.at dd;obtain⟨o,ho,a3,a0,hg⟩:=AkB;refine Di hh hT ho (D6 hg _) rfl a0 (by omega) (by simp) (q:=Instr.build 66 #[(0,.agg #[Tz nm])]) (by unfold execOp;rw[a3];simp[hT.ev 8 (.agg #[Tz nm]) (by simp)]) (AgW nm) λgs sl t dd T hh hT=>?_;replace hI:=hI.at dd;obtain⟨o,ho,a3,a0,hg⟩:=AkC;refine Di hh hT ho (D6 hg _) rfl a0 (by omega) (by simp) (q:=Instr.makeInterface 66 (.agg #[Tz nm])) (by unfold execOp;rw[a3];simp[hT.ev 9 (.agg #[Tz nm]) (by simp)]) (AkE _) λgs sl t dd T hh hT=>?_;replace hI:=hI.at dd;obtain⟨o,ho,a3,a0,hg⟩:=AkD;obtain⟨b4,a3⟩:=a3;have a7:x6<V.heap.size:=(hI.cell (a:=⟨x6,0,none⟩) (v:=Nz) λu hu=>hu.2.2.1 0 _ rfl).2.1;have b1:W.heap.size<=V.heap.size:=hI.size
 refine DL (X:=X) #[.agg #[Vz a1 b.tg.length c1,Vz a2 b.bs.length c2],.iface 66 (.agg #[Tz nm])] hh hT ho (D6 hg _) rfl a0 a3 func24 (by kernel_rfl) rfl (by simp[hT.ev 6 (.agg #[Vz a1 b.tg.length c1,Vz a2 b.bs.length c2]) (by simp),hT.ev 10 (.iface 66 (.agg #[Tz nm])) (by simp)]) (by omega) (by simp) (R:=λv u=>∃x,v=.tuple #[x,Iz (L0 b (O8 b nm []))]/\K8 u V.heap.size x (K7 b (O8 b nm []) ⟨b.tg,b.bs.take (F3 b nm)++b.bs.drop (F3 b nm+1)⟩))
  (λd=>JT (b:=b) (nm:=nm) hI.hX (hI.base.at d) hF (λτ d=>(hI.hold τ d).1.1) (λu hu=>hu.1) (λu hu=>hu.2) λX' Shun' W' hX' hb' h0'=>QP (b:=b) (rF:=148) hX' hb' hF h0' (λu hu=>hu.1) (λn w=>Uy n _ w) (λx w=>AgX _ x w)
   (λhok X2 Shun2 W2 hX2 hb2 h02=>Abm R4 (by kernel_rfl) hb2 hX2 (λ_ _ _ _ h=>h) λτ d=>(RX b _ nm _ (h02 τ d).1 hok).mono λe u' h=>⟨⟨_,h.1,rfl⟩,h.2⟩)
   (λhok hc u hu=>Qn b _ nm u hu.1 hok (Eo hc))) λX1 Shun1 gs V1 sl t v T hX1 hW1 hh hT hb1 hR1=>?_
 obtain⟨x,rfl,a6⟩:=(hR1 (λ_ _=>0) 0).1
 have b2:∀τ d,K8 (E0 X1 V1 τ d) V.heap.size x (K7 b (O8 b nm []) ⟨b.tg,b.bs.take (F3 b nm)++b.bs.drop (F3 b nm+1)⟩):=λτ d=>by
  obtain⟨x',e,h⟩:=(hR1 τ d).1;cases e
  exact h
 obtain⟨i1,j1,i2,j2,rfl⟩:=a6.shape;have a4:=hI.up (IC kF) hX1 hb1 hW1 λτ d=>(hR1 τ d).2;clear hI hR1 hW1 hb1 hX1 a3 ho a0 hg o a6;generalize hbk':(K7 b (O8 b nm []) ⟨b.tg,b.bs.take (F3 b nm)++b.bs.drop (F3 b nm+1)⟩)=bk at *;have b3:F5 X W (λu=>CB u x6 [Nz,Nz]/\K8 u V.heap.size (.agg #[Vz i1 bk.tg.length j1,Vz i2 bk.bs.length j2]) bk) X1 Shun1 V1:=⟨a4.hX,a4.base,λτ d=>⟨(a4.hold τ d).2.2,b2 τ d⟩,a4.low,a4.far⟩;have w6:=hT.get 4 (Pz x6 0) (by simp);have a8:=hT.get 11 (.tuple #[.agg #[Vz i1 bk.tg.length j1,Vz i2 bk.bs.length j2],Iz (L0 b (O8 b nm []))]) (by simp);have z1:=hT.1;refine NB R4 Ak7 AbH rfl b3 (G':=λa u=>a.tmps.getD 4 undef=Pz x6 0/\a.tmps.getD 5 undef=.int .i64 (L0 b (O8 b nm []))/\CB u x6 [Vz i1 bk.tg.length j1,Vz i2 bk.bs.length j2]/\K8 u W.heap.size (.agg #[Vz i1 bk.tg.length j1,Vz i2 bk.bs.length j2]) bk) (λa u τ d h=>⟨h.1,h.2.1,h.2.2.1,Cv h.2.2.2⟩) (λu hu hz=>?_) hh λgs V3 sl t a hh hd hI=>?_
 ·clear hT hh;obtain⟨v0,v1,v2,v3,v4,v5,v6,v7,v8,v9,b5,b6,b7,b8,rfl⟩:=Aeu T z1;simp only[List.getElem?_toArray,List.getElem?_cons_succ,List.getElem?_cons_zero,Option.some.injEq] at w6 a8;subst w6 a8
  exact Xu _ _ _ _ _ _ _ _ _ _ _ _ u hu.1 (show Hid _ from λa u' hd q6 q7 kX hb=>by
   subst hb;exact⟨rfl,⟨q6,q7,kX,((hu.2.set a7).set a7).low b1⟩,I4 (A4 _ _) zl _ _⟩)
 refine Ex R4 NU AbH hd func11 hI a9 (λu hu hz=>?_) hh (a5 X1 Shun1);exact Je (AkF hd hu.1 hu.2.1 hu.2.2.1 ⟨⟨_,rfl,hu.2.2.2⟩,A4 _ _⟩)
theorem Vy{X:Nat->Prop}{Shun:Loc->Prop}{W:World}{b:Bk}{bv:Value}{nm:BA}(hX:Y9 Shun X)(hbW:M1 X W)(hB:∀τ d,K6 (E0 X W τ d) bv b)(hE:∀τ d,T8 (E0 X W τ d)):
  AB prog 11 #[bv,Tz nm] X Shun W λv u=>∃x,v=.tuple #[x,Iz (Bc b nm)]/\K8 u W.heap.size x (S5 b nm):=by
 obtain⟨e1,e2⟩:=Ui b nm;rw[← e1,← e2];exact AbJ hX hbW hB hE
end Go.Proofs.YtcgkgmmclfeohaaGreatDoor
