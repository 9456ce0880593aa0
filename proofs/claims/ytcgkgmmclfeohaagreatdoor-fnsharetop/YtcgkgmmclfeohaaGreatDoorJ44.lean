/- The program's chapter 13, beside leavers: what is asked is done, or refused, 1: the pieces. -/
import Derived.Test.YtcgkgmmclfeohaaGreatDoorJ41
import Derived.Test.YtcgkgmmclfeohaaGreatDoorJ42
set_option maxRecDepth 100000
set_option maxHeartbeats 4000000
namespace Go.Proofs.YtcgkgmmclfeohaaGreatDoor
open Go.Proofs.Tryz
open Go.RowKit
theorem Jd(T:Array Value)(h:T.size=32):∃v0 v1 v2 v3 v4 v5 v6 v7 v8 v9 v10 v11 v12 v13 v14 v15 v16 v17 v18 v19 v20 v21 v22 v23 v24 v25 v26 v27 v28 v29 v30 v31:Value,T=#[v0,v1,v2,v3,v4,v5,v6,v7,v8,v9,v10,v11,v12,v13,v14,v15,v16,v17,v18,v19,v20,v21,v22,v23,v24,v25,v26,v27,v28,v29,v30,v31]:=by
 obtain⟨l⟩:=T;simp only[List.size_toArray] at h;obtain⟨v0,l1,rfl,h1⟩:=E3 h;obtain⟨v1,l2,rfl,h2⟩:=E3 h1;obtain⟨v2,l3,rfl,h3⟩:=E3 h2;obtain⟨v3,l4,rfl,h4⟩:=E3 h3;obtain⟨v4,l5,rfl,h5⟩:=E3 h4;obtain⟨v5,l6,rfl,h6⟩:=E3 h5;obtain⟨v6,l7,rfl,h7⟩:=E3 h6;obtain⟨v7,l8,rfl,h8⟩:=E3 h7;obtain⟨v8,l9,rfl,h9⟩:=E3 h8;obtain⟨v9,c4,rfl,a0⟩:=E3 h9;obtain⟨v10,c5,rfl,a1⟩:=E3 a0;obtain⟨v11,c6,rfl,a2⟩:=E3 a1;obtain⟨v12,c7,rfl,a3⟩:=E3 a2;obtain⟨v13,c8,rfl,a4⟩:=E3 a3;obtain⟨v14,c9,rfl,a5⟩:=E3 a4;obtain⟨v15,d0,rfl,a6⟩:=E3 a5;obtain⟨v16,d1,rfl,a7⟩:=E3 a6;obtain⟨v17,d2,rfl,a8⟩:=E3 a7;obtain⟨v18,d3,rfl,a9⟩:=E3 a8;obtain⟨v19,d4,rfl,b0⟩:=E3 a9;obtain⟨v20,d5,rfl,b1⟩:=E3 b0;obtain⟨v21,d6,rfl,b2⟩:=E3 b1;obtain⟨v22,d7,rfl,b3⟩:=E3 b2;obtain⟨v23,d8,rfl,b4⟩:=E3 b3;obtain⟨v24,d9,rfl,b5⟩:=E3 b4;obtain⟨v25,e0,rfl,b6⟩:=E3 b5;obtain⟨v26,e1,rfl,b7⟩:=E3 b6;obtain⟨v27,e2,rfl,b8⟩:=E3 b7;obtain⟨v28,e3,rfl,b9⟩:=E3 b8;obtain⟨v29,e4,rfl,c1⟩:=E3 b9;obtain⟨v30,e5,rfl,c2⟩:=E3 c1;obtain⟨v31,e6,rfl,c3⟩:=E3 c2;obtain rfl:=List.eq_nil_of_length_eq_zero c3;exact⟨_,_,_,_,_,_,_,_,_,_,_,_,_,_,_,_,_,_,_,_,_,_,_,_,_,_,_,_,_,_,_,_,rfl⟩
noncomputable def Ef:Code:=Tryz.f48.body.getD .skip
noncomputable def Vs:Code:=match Ef with | .seq r _=>r|_=>.skip
noncomputable def Ti:Code:=match Ef with | .seq _ (.seq r _)=>r|_=>.skip
noncomputable def IB:Array Oper:=match Ef with | .seq _ (.seq _ (.seq (.seq (.region _ o _) _) _))=>o|_=>#[]
noncomputable def Qd:Code:=match Ef with | .seq _ (.seq _ (.seq (.seq _ r) _))=>r|_=>.skip
noncomputable def Tj:Code:=match Ef with | .seq _ (.seq _ (.seq _ r))=>r|_=>.skip
theorem Aby:Ef=.seq Vs (.seq Ti (.seq (.seq (.region 3 IB false) Qd) Tj)):=by simp only[Vs,Ti,IB,Qd,Tj,Ef,Tryz.f48,Option.getD_some]
noncomputable def bT:Frame:=Go.Conc.base 48
def slT(bv av:Value):Array Value:=#[bv,av,undef,undef,undef,undef,undef,undef,undef,undef,undef,undef,undef,undef,undef,undef,undef,undef,undef,undef,undef,undef,undef,undef,undef,undef,undef,undef,undef,undef,undef,undef]
theorem AgC(bv av:Value):Frame.enter prog 48 #[bv,av] .normal=bT.at ⟨slT bv av,[]⟩ [.code Ef]:=by
 simp[Frame.enter,Frame.at,func48,bT,Go.Conc.base,slT,Ef,Tryz.f48]
theorem Vt:Cm prog bT:=⟨rfl,_,func48⟩
theorem Vu:∀r∈[Vs,Ti,Qd,Tj],O0 prog (λg=>Fm.contains g) r=true:=by
 intro r hr;simp only[List.mem_cons,List.not_mem_nil,or_false] at hr;rcases hr with rfl|rfl|rfl|rfl<;>kernel_rfl
section
variable {b:Bk} {a1 a2:Option Addr} {c1 c2:Nat} {D:TypeId} {av:Value}
def Qe(bvs:List Value)(asked:Value)(lo:Nat)(a:Act)(u:World):Prop:=a.tmps.size=32/\a.tmps[1]?=some asked/\a.tmps[2]?=some (.pointer (some ⟨pb a 2,0,none⟩))/\a.tmps[4]?=some (.pointer (some ⟨pb a 4,0,none⟩))/\CB u (pb a 2) bvs/\CB u (pb a 4) [.slice none 0 0,.slice none 0 0]/\lo<=pb a 4
theorem Tk(bvs:List Value)(asked:Value)(lo:Nat)(a:Act):N6 (Qe bvs asked lo a):=λ_ _ _ h=>h
theorem AgD(u:World){lo:Nat}(hlo:lo<=u.heap.size):BG prog [Vs] (λe a u'=>e=.normal/\Qe [Vz a1 b.tg.length c1,Vz a2 b.bs.length c2] (.iface D av) lo a u'/\Up u u') ⟨slT (.agg #[Vz a1 b.tg.length c1,Vz a2 b.bs.length c2]) (.iface D av),[]⟩ u:=by
 obtain⟨W1,a0,kA,kB,a3,a4⟩:=cbE2 u [Vz a1 b.tg.length c1,Vz a2 b.bs.length c2] 26 [Nz,Nz] 26;simp only[Vs,slT,Ef,Tryz.f48,Option.getD_some];apply Al;intro K hK
 go_wp2_with fail;try rw[a0]
 exact⟨rfl,⟨rfl,rfl,rfl,rfl,kA,kB,by show lo<=u.heap.size+1;omega⟩,a3⟩
variable {x2 x4 lo:Nat} {nm:BA} {cR:Int} {bN:Bk}
theorem Vv(v0 v3 v5 v6 v7 v8 v9 v10 v11 v12 v13 v14 v15 v16 v17 v18 v19 v20 v21 v22 v23 v24 v25 v26 v27 v28 v29 v30 v31:Value)(u:World)(h:K6 u (.agg #[Vz a1 b.tg.length c1,Vz a2 b.bs.length c2]) b)(kA:CB u x2 [Vz a1 b.tg.length c1,Vz a2 b.bs.length c2])(kR:CB u x4 [Nz,Nz])(hlo:lo<=u.heap.size)(hx:lo<=x4)(hwho:∀n w,(Go.method (n+1) D av "loop.example/maltrun/impl.who").run prog w=.ok (142,.agg #[Tz nm]) w){Q:Exit->Act->World->Prop}
  (HN:Hid (J6 b=true->∀(a:Act)(u':World),a.defers=[]->a.tmps.size=32->a.tmps[1]?=some (.iface D av)->a.tmps[2]?=some (Pz x2 0)->a.tmps[4]?=some (Pz x4 0)->Up u u'->Q .normal a u'))
  (HR:Hid (J6 b=false->∀(a:Act)(u':World)(y0 y1:Value),a.defers=[]->a.tmps.getD 4 undef=Pz x4 0->a.tmps.getD 5 undef=BX nm (L0 b cR)->CB u' x4 [y0,y1]->K8 u' lo (.agg #[y0,y1]) (K7 b cR bN)->Below lo u u'->Q .ret a u')):Ti.wp prog Q ⟨#[v0,.iface D av,Pz x2 0,v3,Pz x4 0,v5,v6,v7,v8,v9,v10,v11,v12,v13,v14,v15,v16,v17,v18,v19,v20,v21,v22,v23,v24,v25,v26,v27,v28,v29,v30,v31],[]⟩ u:=by
 simp only[Ti,Ef,Tryz.f48,Option.getD_some];obtain⟨e0,e1⟩:=kA.c2';go_wp2_with fail;refine (Cf b _ _ h).mono ?_;rintro e w2 ⟨rfl,a0⟩;have a7:=a0.size;have a3:=kR.up a0 kR.2.2;clear e0 e1 kA kR;cases hok:J6 b
 ·have HR0:Hid (∀(a:Act)(u':World)(y0 y1:Value),a.defers=[]->a.tmps.getD 4 undef=Pz x4 0->a.tmps.getD 5 undef=BX nm (L0 b cR)->CB u' x4 [y0,y1]->K8 u' lo (.agg #[y0,y1]) (K7 b cR bN)->Below lo u u'->Q .ret a u'):=HR.out hok;have HC:Hid (BX nm (L0 b cR)=.iface 113 (.agg #[Tz nm,.iface 91 (.agg #[Iz 1])])/\K7 b cR bN=Z7):=⟨by simp[L0,hok,BX],by simp[K7,hok]⟩;clear HR HN;go_wp2_with fail;refine (EM nm _).mono ?_;rintro e w3 ⟨rfl,a5⟩;have a4:=a3.up a5 a3.2.2;have a6:=D4 a0 a5;obtain⟨⟨y0,y1⟩,q0,q1⟩:=a4.c2;go_wp2_with fail
  (try simp only[Exit.inBlock,Exit.then])
  exact HR0.out _ _ _ _ rfl rfl HC.out.1.symm (a4.copy2 _ _) (by rw[HC.out.2];exact Aa2 _ _) (I4 (a6.mono hlo) hx _ _)
 ·have HN0:Hid (∀(a:Act)(u':World),a.defers=[]->a.tmps.size=32->a.tmps[1]?=some (.iface D av)->a.tmps[2]?=some (Pz x2 0)->a.tmps[4]?=some (Pz x4 0)->Up u u'->Q .normal a u'):=HN.out hok;clear HR HN;go_wp2_with fail;exact HN0.out _ _ rfl rfl rfl rfl rfl a0
theorem Vw(v0 v3 v5 v7 v8 v9 v10 v11 v12 v13 v14 v15 v16 v17 v18 v19 v20 v21 v22 v23 v24 v25 v26 v27 v28 v29 v30 v31:Value)(u:World)(h:K6 u (.agg #[Vz a1 b.tg.length c1,Vz a2 b.bs.length c2]) b)(hok:I8 b)(kA:CB u x2 [Vz a1 b.tg.length c1,Vz a2 b.bs.length c2])(kR:CB u x4 [Nz,Nz])(hlo:lo<=u.heap.size)(hx:lo<=x4)(hwho:∀n w,(Go.method (n+1) D av "loop.example/maltrun/impl.who").run prog w=.ok (142,.agg #[Tz nm]) w){Q:Exit->Act->World->Prop}
  (HN:Hid (cR=0->∀(a:Act)(u':World),a.defers=[]->a.tmps.size=32->a.tmps[1]?=some (.iface D av)->a.tmps[2]?=some (Pz x2 0)->a.tmps[4]?=some (Pz x4 0)->Up u u'->Q .normal a u'))
  (HR:Hid (cR≠0->∀(a:Act)(u':World)(y0 y1:Value),a.defers=[]->a.tmps.getD 4 undef=Pz x4 0->a.tmps.getD 5 undef=BX nm (L0 b cR)->CB u' x4 [y0,y1]->K8 u' lo (.agg #[y0,y1]) (K7 b cR bN)->Below lo u u'->Q .ret a u')):Qd.wp prog Q ⟨#[v0,.iface D av,Pz x2 0,v3,Pz x4 0,v5,Y4 cR,v7,v8,v9,v10,v11,v12,v13,v14,v15,v16,v17,v18,v19,v20,v21,v22,v23,v24,v25,v26,v27,v28,v29,v30,v31],[]⟩ u:=by
 obtain⟨s1,s2,s3⟩:=Ai hok;have hq:J6 b=true:=Au hok;simp only[Qd,Ef,Tryz.f48,Option.getD_some];obtain⟨e0,e1⟩:=kA.c2';by_cases hc:cR=0
 ·have HN0:Hid (∀(a:Act)(u':World),a.defers=[]->a.tmps.size=32->a.tmps[1]?=some (.iface D av)->a.tmps[2]?=some (Pz x2 0)->a.tmps[4]?=some (Pz x4 0)->Up u u'->Q .normal a u'):=HN.out hc;clear HR HN;subst hc;rw[Pw];go_wp2_with fail;exact HN0.out _ _ rfl rfl rfl rfl rfl (A4 _ _)
 ·have HR0:Hid (∀(a:Act)(u':World)(y0 y1:Value),a.defers=[]->a.tmps.getD 4 undef=Pz x4 0->a.tmps.getD 5 undef=BX nm (L0 b cR)->CB u' x4 [y0,y1]->K8 u' lo (.agg #[y0,y1]) (K7 b cR bN)->Below lo u u'->Q .ret a u'):=HR.out hc;have HC:Hid (BX nm (L0 b cR)=.iface 113 (.agg #[Tz nm,.iface 91 (.agg #[Iz cR])])/\K7 b cR bN=b):=⟨by simp[L0,hq,BX,hc],by simp[K7,hq,hc]⟩;clear HR HN;rw[Px hc];go_wp2_with fail;refine (FY b _ _ h (by omega) (by omega) (λy hy=>by have:=s3 y hy;omega)).mono ?_;rintro e w4 ⟨a9,a0⟩;have b0:=a0.size;have a4:=kR.up a0 kR.2.2;have a5:=kR.2.2;clear e0 e1 kR kA;obtain⟨i1,j1,i2,j2,ps,rfl,p1,p2,p3⟩:=a9;have hu:K8 w4 u.heap.size (.agg #[Vz i1 b.tg.length j1,Vz i2 b.bs.length j2]) b:=⟨i1,j1,i2,j2,ps,rfl,p1,p2,p3⟩;clear p1 p2 p3;go_wp2_with fail;refine (EM nm _).mono ?_;rintro e w5 ⟨rfl,a3⟩;have a6:=a4.up a3 a4.2.2;have a7:=D4 a0 a3;have a8:=hu.up a3;obtain⟨⟨y0,y1⟩,q0,q1⟩:=a6.c2;go_wp2_with fail
  (try simp only[Exit.inBlock,Exit.then])
  exact HR0.out _ _ _ _ rfl rfl HC.out.1.symm (a6.copy2 _ _) (by rw[HC.out.2];exact ((a8.set a5).set a5).low hlo) (I4 (a7.mono hlo) hx _ _)
theorem AdZ(v0 v3 v5 v6 v7 v8 v9 v10 v11 v12 v13 v14 v15 v16 v17 v18 v19 v20 v21 v22 v23 v24 v25 v26 v27 v28 v29 v30 v31:Value)(u:World)(hok:I8 b)(hc:cR=0)(kA:CB u x2 [Vz a1 b.tg.length c1,Vz a2 b.bs.length c2])(kR:CB u x4 [Nz,Nz])(hlo:lo<=u.heap.size)(hx:lo<=x4)
  (Hdone:Calls prog 61 #[.agg #[Vz a1 b.tg.length c1,Vz a2 b.bs.length c2],.iface D av] u λe w'=>(∃x,e=.returned x/\K8 w' u.heap.size x bN)/\Up u w') {Q:Exit->Act->World->Prop}
  (HR:Hid (∀(a:Act)(u':World)(y0 y1:Value),a.defers=[]->a.tmps.getD 4 undef=Pz x4 0->a.tmps.getD 5 undef=BX nm (L0 b cR)->CB u' x4 [y0,y1]->K8 u' lo (.agg #[y0,y1]) (K7 b cR bN)->Below lo u u'->Q .ret a u')):Tj.wp prog Q ⟨#[v0,.iface D av,Pz x2 0,v3,Pz x4 0,v5,v6,v7,v8,v9,v10,v11,v12,v13,v14,v15,v16,v17,v18,v19,v20,v21,v22,v23,v24,v25,v26,v27,v28,v29,v30,v31],[]⟩ u:=by
 have hq:J6 b=true:=Au hok;have HC:Hid (BX nm (L0 b cR)=.nilIface/\K7 b cR bN=bN):=by subst hc;exact⟨by simp[L0,hq,BX],by simp[K7,hq]⟩
 clear hc;simp only[Tj,Ef,Tryz.f48,Option.getD_some];obtain⟨e0,e1⟩:=kA.c2';go_wp2_with fail;refine Hdone.mono ?_;rintro e w4 ⟨⟨x,rfl,hu⟩,a4⟩;have a0:=kR.up a4 kR.2.2;have a3:=kR.2.2;clear e0 e1 kR kA;obtain⟨i1,j1,i2,j2,rfl⟩:=hu.shape;obtain⟨⟨y0,y1⟩,q0,q1⟩:=a0.c2;go_wp2_with fail
 (try simp only[Exit.inBlock,Exit.then])
 exact HR.out _ _ _ _ rfl rfl HC.out.1.symm (a0.copy2 _ _) (by rw[HC.out.2];exact ((hu.set a3).set a3).low hlo) (I4 (a4.mono hlo) hx _ _)
end
end Go.Proofs.YtcgkgmmclfeohaaGreatDoor
namespace Go.Proofs.YtcgkgmmclfeohaaGreatDoor
open Go.Proofs.Tryz
open Go.Conc Go.ConcN Go.RowKit Go.Conc.Lib Go.ConcR.Gen Go.ConcN.Gen
open Go.ConcR (KK wgBlock WgAt stA smA rd wr mk Payload DC0)
theorem t_0:∃o,IB[0]?=some o/\(o.op=.move (.tmp 1))/\o.dst=some 17/\o.guard=none:=⟨_,rfl,rfl,rfl,rfl⟩
theorem t_1:∃o,IB[1]?=some o/\(o.op=.load 26 (.tmp 2))/\o.dst=some 18/\o.guard=none:=⟨_,rfl,rfl,rfl,rfl⟩
theorem t_2:∃o,IB[2]?=some o/\(∃ats,o.op=.call {callee:=.invoke (.tmp 17) "loop.example/maltrun/impl.refusal",args:=#[.tmp 18],argTypes:=ats})/\o.dst=some 19/\o.guard=none:=⟨_,rfl,⟨_,rfl⟩,rfl,rfl⟩
theorem t_3:∃o,IB[3]?=some o/\(o.op=.assign (.tmp 19))/\o.dst=some 6/\o.guard=none:=⟨_,rfl,rfl,rfl,rfl⟩
theorem AgE:IB.size=4:=rfl
theorem Abz{a:Act}{u:World}{x4:Nat}{y0 y1 v:Value}{R:Value->World->Prop}(hd:a.defers=[])(h4:a.tmps.getD 4 undef=Pz x4 0)(h5:a.tmps.getD 5 undef=v)(k:CB u x4 [y0,y1])(hR:R (.tuple #[.agg #[y0,y1],v]) u):EF prog Tryz.f48 R .ret a u :=
 Eb (Fo (cs:=[y0,y1]) results48 underlying26 rfl M4 h4 h5 k) hd hR
section
variable {X0 X:Nat->Prop} {W0 V:World} {F:World->Prop} {Shun:Loc->Prop}
theorem OY{bvs:List Value}{asked:Value}{lo:Nat}{a:Act}(h:F5 X0 W0 (λu=>F u/\Qe bvs asked lo a u) X Shun V):∃x2 x4,a.tmps.size=32/\a.tmps[1]?=some asked/\a.tmps[2]?=some (Pz x2 0)/\a.tmps[4]?=some (Pz x4 0)/\lo<=x4/\F5 X0 W0 (λu=>F u/\CB u x2 bvs/\CB u x4 [Nz,Nz]) X Shun V:=by
 have h0:=(h.hold (λ_ _=>0) 0).2;exact⟨pb a 2,pb a 4,h0.1,h0.2.1,h0.2.2.1,h0.2.2.2.1,h0.2.2.2.2.2.2,h.mono λu hu=>⟨hu.1,hu.2.2.2.2.2.1,hu.2.2.2.2.2.2.1⟩⟩
theorem ZM{bvs:List Value}{asked:Value}{lo:Nat}{a:Act}{u:World}{x2 x4:Nat}(h1:a.tmps.size=32)(h0:a.tmps[1]?=some asked)(h2:a.tmps[2]?=some (Pz x2 0))(h3:a.tmps[4]?=some (Pz x4 0))(k2:CB u x2 bvs)(k3:CB u x4 [Nz,Nz])(hl:lo<=x4):Qe bvs asked lo a u:=by
 unfold Qe;rw[JQ h2,JQ h3];exact⟨h1,h0,h2,h3,k2,k3,hl⟩
theorem IC{x2 x4:Nat}{l2 l4:List Value}(hF:S2 F):S2 λu=>F u/\CB u x2 l2/\CB u x4 l4:=⟨λ_ _ h hb=>⟨hF.up _ _ h.1 hb,h.2.1.up hb h.2.1.2.2,h.2.2.up hb h.2.2.2.2⟩,λu τ d h=>⟨hF.tl u τ d h.1,h.2⟩⟩
end
theorem Cv{u:World}{τ:Nat->Question->Nat}{d base:Nat}{v:Value}{b:Bk}(h:K8 u base v b):K8 {u with tape:=τ,drawn:=d} base v b :=
 let ⟨a1,c1,a2,c2,ps,e,h1,h2,h3⟩:=h
 ⟨a1,c1,a2,c2,ps,e,h1,h2,⟨h3.own,h3.ap,h3.av⟩⟩
theorem QP{X:Nat->Prop}{Shun:Loc->Prop}{W:World}{b:Bk}{bv:Value}{nm:BA}{D:TypeId}{av:Value}{rF:FuncId}{cR:Int}{bN:Bk}{F:World->Prop}(hX:Y9 Shun X)(hbW:M1 X W)(hF:S2 F)(h0:∀τ d,F (E0 X W τ d))(hB:∀u,F u->K6 u bv b)
  (hwho:∀n w,(Go.method (n+1) D av "loop.example/maltrun/impl.who").run prog w=.ok (142,.agg #[Tz nm]) w)
  (href:∀(x:Value) w,(callMethod (.iface D av) "loop.example/maltrun/impl.refusal" #[x]).runT prog w #[]=(.ok (.enter rF #[av,x]) w,#[]))
  (Href:I8 b->∀X' Shun' W',Y9 Shun' X'->M1 X' W'->(∀τ d,F (E0 X' W' τ d))->AB prog rF #[av,bv] X' Shun' W' λv _=>v=Y4 cR)
  (Hdone:I8 b->cR=0->∀u,F u->Calls prog 61 #[bv,.iface D av] u λe w'=>(∃x,e=.returned x/\K8 w' u.heap.size x bN)/\Up u w') :
  AB prog 48 #[bv,.iface D av] X Shun W λv u=>∃x,v=.tuple #[x,BX nm (L0 b cR)]/\K8 u W.heap.size x (K7 b cR bN):=by
 intro Post c cs gs sl t hh k;obtain⟨a1,c1,a2,c2,rfl,-,-⟩:=(hB _ (h0 (λ_ _=>0) 0)).parts;have hI:=F5.start (F:=λu=>F u/\W.heap.size<=u.heap.size) hX hbW λτ d=>⟨h0 τ d,by (try unfold Up);rw[I5];exact A3 _⟩;have kF:S2 λu=>F u/\W.heap.size<=u.heap.size:=⟨λ_ _ h hb=>⟨hF.up _ _ h.1 hb,B4 h.2 hb.size⟩,λu τ d h=>⟨hF.tl u τ d h.1,h.2⟩⟩;have a5:∀X' Shun' gs V sl t v,G6 prog Shun' gs (G (c.finish v) cs) t->F5 X W (λu=>∃x,v=.tuple #[x,BX nm (L0 b cR)]/\K8 u W.heap.size x (K7 b cR bN)) X' Shun' V->E7 prog Post (crowd gs V sl) t:=λX' Shun' gs V sl t v hh hI=>k X' Shun' gs V sl t v hI.hX hI.far hh hI.base λτ d=>⟨hI.hold τ d,hI.low τ d⟩;have d2:∀v:Value,N6 λu=>∃x,v=.tuple #[x,BX nm (L0 b cR)]/\K8 u W.heap.size x (K7 b cR bN):=λv u τ d ⟨x,e,h⟩=>⟨x,e,Cv h⟩;clear k h0;rw[AgC,Aby] at hh;refine Hv (l:=[Vs]) R4 (λr hr=>Vu r (by simp at hr;simp[hr])) Vt rfl kF hI (G':=Qe [Vz a1 b.tg.length c1,Vz a2 b.bs.length c2] (.iface D av) W.heap.size) (Tk _ _ _) (λu hu=>AgD u hu.2) hh λgs V sl t a hh hd hI=>?_;have hJ:=OY hI;clear hI;obtain⟨x2,x4,z1,z0,z2,z4,zl,hI⟩:=hJ;refine D9 hh rfl (λw=>stepG_seq) λgs sl t dd hh=>?_;replace hI:=hI.at dd;have a6:∃T,a=⟨T,[]⟩:=⟨a.tmps,by cases a;simp only at hd;subst hd;rfl⟩;obtain⟨T,rfl⟩:=a6;cases hok:J6 b with
 | false =>
  refine Ex R4 (Vu Ti (by simp)) Vt rfl func48 hI d2 (λu hu hz=>?_) hh (a5 X Shun);obtain⟨v0,v1,v2,v3,v4,v5,v6,v7,v8,v9,a7,a8,a9,b0,b1,b2,b3,b4,b5,b6,b7,b8,b9,c3,c4,c5,c6,c7,c8,c9,d0,d1,rfl⟩:=Jd T z1;simp only[List.getElem?_toArray,List.getElem?_cons_succ,List.getElem?_cons_zero,Option.some.injEq] at z0 z2 z4;subst z0 z2 z4;exact Vv (lo:=W.heap.size) (nm:=nm) (cR:=cR) (bN:=bN) _ _ _ _ _ _ _ _ _ _ _ _ _ _ _ _ _ _ _ _ _ _ _ _ _ _ _ _ _ u (hB _ hu.1.1) hu.2.1 hu.2.2 hz zl hwho (show Hid _ from λh=>by rw[hok] at h;cases h) (show Hid _ from λ_ a u' y0 y1 hd h4 h5 kk a4 hb=>Abz hd h4 h5 kk ⟨⟨_,rfl,a4⟩,hb⟩)
 | true =>
 have a4:I8 b:=Ad hok;refine Lv R4 (Vu Ti (by simp)) Vt rfl (IC kF) hI (G':=Qe [Vz a1 b.tg.length c1,Vz a2 b.bs.length c2] (.iface D av) W.heap.size) (Tk _ _ _) (λu hu=>?_) hh λgs V sl t a hh hd hI=>?_
 ·obtain⟨v0,v1,v2,v3,v4,v5,v6,v7,v8,v9,a7,a8,a9,b0,b1,b2,b3,b4,b5,b6,b7,b8,b9,c3,c4,c5,c6,c7,c8,c9,d0,d1,rfl⟩:=Jd T z1;simp only[List.getElem?_toArray,List.getElem?_cons_succ,List.getElem?_cons_zero,Option.some.injEq] at z0 z2 z4;subst z0 z2 z4;exact Vv (lo:=W.heap.size) (nm:=nm) (cR:=cR) (bN:=bN) _ _ _ _ _ _ _ _ _ _ _ _ _ _ _ _ _ _ _ _ _ _ _ _ _ _ _ _ _ u (hB _ hu.1.1) hu.2.1 hu.2.2 hu.1.2 zl hwho (show Hid _ from λ_ a u' hd y1 y0 y2 y3 hb=>⟨rfl,ZM y1 y0 y2 y3 (hu.2.1.up hb hu.2.1.2.2) (hu.2.2.up hb hu.2.2.2.2) zl,hb⟩) (show Hid _ from λh=>by rw[hok] at h;cases h)
 clear z0 z1 z2 z4 zl;have hJ:=OY hI;clear hI;obtain⟨y2,y4,z1,z0,z2,z4,zl,hI⟩:=hJ;replace hI:=hI.mono (F':=λu=>(F u/\W.heap.size<=u.heap.size)/\CB u y2 [Vz a1 b.tg.length c1,Vz a2 b.bs.length c2]/\CB u y4 [Nz,Nz]) λu hu=>⟨hu.1.1,hu.2⟩;have a6:∃T,a=⟨T,[]⟩:=⟨a.tmps,by cases a;simp only at hd;subst hd;rfl⟩;obtain⟨T,rfl⟩:=a6;refine D9 hh rfl (λw=>stepG_seq) λgs sl t dd hh=>?_;replace hI:=hI.at dd;refine D9 hh rfl (λw=>stepG_seq) λgs sl t dd hh=>?_;replace hI:=hI.at dd;refine D9 hh rfl (λw=>stepG_region) λgs sl t dd hh=>?_;replace hI:=hI.at dd;rw[AgE] at hh;change G6 prog Shun gs (G (bT.at ⟨T,[]⟩ [.inRegion IB [0,1,2,3],.code Qd,.code Tj]) (c::cs)) t at hh
 have hT:O1 32 T [(1,.iface D av),(2,Pz y2 0),(4,Pz y4 0)]:=⟨z1,by intro p hp;simp at hp;rcases hp with rfl|rfl|rfl<;>first|exact z0|exact z2|exact z4⟩;clear z0 z1 z2 z4;obtain⟨o,ho,a3,a0,hg⟩:=t_0;refine J4 hh hT ho (D6 hg _) rfl a0 (.inl a3) (hT.ev 1 (.iface D av) (by simp)) (by omega) (by simp) λgs sl t dd T hh hT=>?_;replace hI:=hI.at dd;obtain⟨o,ho,a3,a0,hg⟩:=t_1;refine X9 hI hh hT ho (D6 hg _) rfl a0 a3 (hT.ev 2 (Pz y2 0) (by simp)) (λu hu=>hu.2.1) (by omega) (by simp) λgs sl t dd T hh hT=>?_;replace hI:=hI.at dd;obtain⟨o,ho,a3,a0,hg⟩:=t_2;obtain⟨d3,a3⟩:=a3;refine AjW (X:=X) #[av,.agg #[Vz a1 b.tg.length c1,Vz a2 b.bs.length c2]] hh hT ho (D6 hg _) rfl a0 a3 (λw=>?_) (by omega) (by simp) (λd=>Href a4 X Shun _ hI.hX (hI.base.at d) λτ d=>(hI.hold τ d).1.1) λX1 Shun1 gs V1 sl t v T hX1 hW1 hh hT hb1 hR1=>?_
 ·simp only[hT.ev 17 (.iface D av) (by simp),List.map_toArray,List.map_cons,List.map_nil,hT.ev 18 (.agg #[Vz a1 b.tg.length c1,Vz a2 b.bs.length c2]) (by simp)];exact href _ w
 obtain rfl:=(hR1 (λ_ _=>0) 0).1;replace hI:=hI.up (IC kF) hX1 hb1 hW1 λτ d=>(hR1 τ d).2;clear hR1 hW1 hb1 hX1 a3 ho a0 hg o;obtain⟨o,ho,a3,a0,hg⟩:=t_3;refine J4 hh hT ho (D6 hg _) rfl a0 (.inr a3) (hT.ev 19 (Y4 cR) (by simp)) (by omega) (by simp) λgs sl t dd T hh hT=>?_;replace hI:=hI.at dd;clear a3 ho a0 hg o;refine D9 hh rfl (λw=>stepG_region_end) λgs sl t dd hh=>?_;replace hI:=hI.at dd;have w1:=hT.get 1 (.iface D av) (by simp);have w2:=hT.get 2 (Pz y2 0) (by simp);have w4:=hT.get 4 (Pz y4 0) (by simp);have w6:=hT.get 6 (Y4 cR) (by simp);have z1:=hT.1;by_cases hc:cR=0
 case neg =>
  refine Ex R4 (Vu Qd (by simp)) Vt rfl func48 hI d2 (λu hu hz=>?_) hh (a5 X1 Shun1);clear hT hh;obtain⟨v0,v1,v2,v3,v4,v5,v6,v7,v8,v9,a7,a8,a9,b0,b1,b2,b3,b4,b5,b6,b7,b8,b9,c3,c4,c5,c6,c7,c8,c9,d0,d1,rfl⟩:=Jd T z1;simp only[List.getElem?_toArray,List.getElem?_cons_succ,List.getElem?_cons_zero,Option.some.injEq] at w1 w2 w4 w6;subst w1 w2 w4 w6;exact Vw (lo:=W.heap.size) (nm:=nm) (cR:=cR) (bN:=bN) _ _ _ _ _ _ _ _ _ _ _ _ _ _ _ _ _ _ _ _ _ _ _ _ _ _ _ _ u (hB _ hu.1.1) a4 hu.2.1 hu.2.2 hz zl hwho (show Hid _ from λh=>absurd h hc) (show Hid _ from λ_ a u' y0 y1 hd h4 h5 kk a4 hb=>Abz hd h4 h5 kk ⟨⟨_,rfl,a4⟩,hb⟩)
 refine Lv R4 (Vu Qd (by simp)) Vt rfl (IC kF) hI (G':=Qe [Vz a1 b.tg.length c1,Vz a2 b.bs.length c2] (.iface D av) W.heap.size) (Tk _ _ _) (λu hu=>?_) hh λgs V sl t a hh hd hI=>?_
 ·clear hT hh;obtain⟨v0,v1,v2,v3,v4,v5,v6,v7,v8,v9,a7,a8,a9,b0,b1,b2,b3,b4,b5,b6,b7,b8,b9,c3,c4,c5,c6,c7,c8,c9,d0,d1,rfl⟩:=Jd T z1;simp only[List.getElem?_toArray,List.getElem?_cons_succ,List.getElem?_cons_zero,Option.some.injEq] at w1 w2 w4 w6;subst w1 w2 w4 w6;exact Vw (lo:=W.heap.size) (nm:=nm) (cR:=cR) (bN:=bN) _ _ _ _ _ _ _ _ _ _ _ _ _ _ _ _ _ _ _ _ _ _ _ _ _ _ _ _ u (hB _ hu.1.1) a4 hu.2.1 hu.2.2 hu.1.2 zl hwho (show Hid _ from λ_ a u' hd y1 y0 y2 y3 hb=>⟨rfl,ZM y1 y0 y2 y3 (hu.2.1.up hb hu.2.1.2.2) (hu.2.2.up hb hu.2.2.2.2) zl,hb⟩) (show Hid _ from λh=>absurd hc h)
 clear w1 w2 w4 w6 z1 zl hT;have hJ:=OY hI;clear hI;obtain⟨x2,x4,z1,z0,z2,z4,zl,hI⟩:=hJ;have a6:∃T,a=⟨T,[]⟩:=⟨a.tmps,by cases a;simp only at hd;subst hd;rfl⟩;obtain⟨T,rfl⟩:=a6;refine Ex R4 (Vu Tj (by simp)) Vt rfl func48 hI d2 (λu hu hz=>?_) hh (a5 X1 Shun1);obtain⟨v0,v1,v2,v3,v4,v5,v6,v7,v8,v9,a7,a8,a9,b0,b1,b2,b3,b4,b5,b6,b7,b8,b9,c3,c4,c5,c6,c7,c8,c9,d0,d1,rfl⟩:=Jd T z1;simp only[List.getElem?_toArray,List.getElem?_cons_succ,List.getElem?_cons_zero,Option.some.injEq] at z0 z2 z4;subst z0 z2 z4;exact AdZ (lo:=W.heap.size) (nm:=nm) (cR:=cR) (bN:=bN) _ _ _ _ _ _ _ _ _ _ _ _ _ _ _ _ _ _ _ _ _ _ _ _ _ _ _ _ _ u a4 hc hu.2.1 hu.2.2 hz zl (Hdone a4 hc u hu.1.1.1) (show Hid _ from λa u' y0 y1 hd h4 h5 kk a4 hb=>Abz hd h4 h5 kk ⟨⟨_,rfl,a4⟩,hb⟩)
end Go.Proofs.YtcgkgmmclfeohaaGreatDoor
namespace Go.Proofs.YtcgkgmmclfeohaaGreatDoor
open Go.Proofs.Tryz
open Go.RowKit
theorem Vx(T:Array Value)(h:T.size=22):∃v0 v1 v2 v3 v4 v5 v6 v7 v8 v9 v10 v11 v12 v13 v14 v15 v16 v17 v18 v19 v20 v21:Value,T=#[v0,v1,v2,v3,v4,v5,v6,v7,v8,v9,v10,v11,v12,v13,v14,v15,v16,v17,v18,v19,v20,v21]:=by
 obtain⟨l⟩:=T;simp only[List.size_toArray] at h;obtain⟨v0,l1,rfl,h1⟩:=E3 h;obtain⟨v1,l2,rfl,h2⟩:=E3 h1;obtain⟨v2,l3,rfl,h3⟩:=E3 h2;obtain⟨v3,l4,rfl,h4⟩:=E3 h3;obtain⟨v4,l5,rfl,h5⟩:=E3 h4;obtain⟨v5,l6,rfl,h6⟩:=E3 h5;obtain⟨v6,l7,rfl,h7⟩:=E3 h6;obtain⟨v7,l8,rfl,h8⟩:=E3 h7;obtain⟨v8,l9,rfl,h9⟩:=E3 h8;obtain⟨v9,b3,rfl,a0⟩:=E3 h9;obtain⟨v10,b4,rfl,a1⟩:=E3 a0;obtain⟨v11,b5,rfl,a2⟩:=E3 a1;obtain⟨v12,b6,rfl,a3⟩:=E3 a2;obtain⟨v13,b7,rfl,a4⟩:=E3 a3;obtain⟨v14,b8,rfl,a5⟩:=E3 a4;obtain⟨v15,b9,rfl,a6⟩:=E3 a5;obtain⟨v16,c1,rfl,a7⟩:=E3 a6;obtain⟨v17,c2,rfl,a8⟩:=E3 a7;obtain⟨v18,c3,rfl,a9⟩:=E3 a8;obtain⟨v19,c4,rfl,b0⟩:=E3 a9;obtain⟨v20,c5,rfl,b1⟩:=E3 b0;obtain⟨v21,c6,rfl,b2⟩:=E3 b1;obtain rfl:=List.eq_nil_of_length_eq_zero b2;exact⟨_,_,_,_,_,_,_,_,_,_,_,_,_,_,_,_,_,_,_,_,_,_,rfl⟩
theorem HZ{P:Program}{ops:Array Oper}{Q:Exit->Act->World->Prop}{a:Act}{w:World}{k:Nat}(h:wpList P ops Q (ops.toList.drop k) a w):wpOps P ops Q (List.range' k (ops.toList.drop k).length) a w:=by
 rw[wpOps_eq_wpList _ k λj=>by rw[List.getElem?_drop,Array.getElem?_toList]];exact h
noncomputable def Eu:Code:=Tryz.f24.body.getD .skip
noncomputable def OZ:Code:=match Eu with | .seq r _=>r|_=>.skip
noncomputable def Fj:Array Oper:=match Eu with | .seq _ (.seq (.region _ o _) _)=>o|_=>#[]
noncomputable def Mx:Code:=match Eu with | .seq _ (.seq _ r)=>r|_=>.skip
theorem ZN:Eu=.seq OZ (.seq (.region 1 Fj false) Mx):=by simp only[OZ,Fj,Mx,Eu,Tryz.f24,Option.getD_some]
noncomputable def bAn:Frame:=Go.Conc.base 24
def Xf(bv av:Value):Array Value:=#[bv,av,undef,undef,undef,undef,undef,undef,undef,undef,undef,undef,undef,undef,undef,undef,undef,undef,undef,undef,undef,undef]
theorem Aea(bv av:Value):Frame.enter prog 24 #[bv,av] .normal=bAn.at ⟨Xf bv av,[]⟩ [.code Eu]:=by
 simp[Frame.enter,Frame.at,func24,bAn,Go.Conc.base,Xf,Eu,Tryz.f24]
theorem Ab0:Cm prog bAn:=⟨rfl,_,func24⟩
theorem AgF:∀r∈[OZ,Mx],O0 prog (λg=>Fm.contains g) r=true:=by
 intro r hr;simp only[List.mem_cons,List.not_mem_nil,or_false] at hr;rcases hr with rfl|rfl<;>kernel_rfl
section
variable {b:Bk} {a1 a2:Option Addr} {c1 c2:Nat} {asked:Value}
def Xg(bvs:List Value)(asked:Value)(lo:Nat)(a:Act)(u:World):Prop:=a.tmps.size=22/\a.tmps[1]?=some asked/\a.tmps[2]?=some (.pointer (some ⟨pb a 2,0,none⟩))/\a.tmps[4]?=some (.pointer (some ⟨pb a 4,0,none⟩))/\CB u (pb a 2) bvs/\CB u (pb a 4) [.slice none 0 0,.slice none 0 0]/\lo<=pb a 4
theorem Aeb(bvs:List Value)(asked:Value)(lo:Nat)(a:Act):N6 (Xg bvs asked lo a):=λ_ _ _ h=>h
theorem Aec(u:World){lo:Nat}(hlo:lo<=u.heap.size):BG prog [OZ] (λe a u'=>e=.normal/\Xg [Vz a1 b.tg.length c1,Vz a2 b.bs.length c2] asked lo a u'/\Up u u') ⟨Xf (.agg #[Vz a1 b.tg.length c1,Vz a2 b.bs.length c2]) asked,[]⟩ u:=by
 obtain⟨W1,a0,kA,kB,a3,a4⟩:=cbE2 u [Vz a1 b.tg.length c1,Vz a2 b.bs.length c2] 26 [Nz,Nz] 26;simp only[OZ,Xf,Eu,Tryz.f24,Option.getD_some];apply Al;intro K hK
 go_wp2_with fail;try rw[a0]
 exact⟨rfl,⟨rfl,rfl,rfl,rfl,kA,kB,by show lo<=u.heap.size+1;omega⟩,a3⟩
variable {x4 x6 lo:Nat} {nm:BA} {cd:Int} {bk:Bk} {ev:Value}
theorem Xh{i1 i2:Option Addr}{j1 j2:Nat}(v0 v1 v2 v3 v5 v6 v7 v8 v9 v10 v11 v13 v14 v15 v16 v17 v18 v19 v20 v21:Value)(u:World){Q:Exit->Act->World->Prop}(HN:Hid (∀(a:Act)(u':World),a.defers=[]->a.tmps.size=22->a.tmps[4]?=some (Pz x4 0)->a.tmps[6]?=some (Pz u.heap.size 0)->a.tmps[7]?=some ev->CB u' u.heap.size [Vz i1 bk.tg.length j1,Vz i2 bk.bs.length j2]->Up u u'->Q .normal a u')):
  wpOps prog Fj Q [3,4,5,6,7,8] ⟨#[v0,v1,v2,v3,Pz x4 0,v5,v6,v7,v8,v9,v10,v11,.tuple #[.agg #[Vz i1 bk.tg.length j1,Vz i2 bk.bs.length j2],ev],v13,v14,v15,v16,v17,v18,v19,v20,v21],[]⟩ u:=by
 obtain⟨kX,a0,a1⟩:=ML u [Vz i1 bk.tg.length j1,Vz i2 bk.bs.length j2] 26;rw[show ([3,4,5,6,7,8]:List Nat)=List.range' 3 (Fj.toList.drop 3).length from rfl];refine HZ ?_;simp only[Fj,Eu,Tryz.f24,Option.getD_some,List.drop_succ_cons,List.drop_zero];go_wp2_with fail;exact HN.out _ _ rfl rfl rfl rfl rfl kX a0
theorem Ab1{base:Nat}{i1 i2:Option Addr}{j1 j2:Nat}(v0 v1 v2 v3 v5 v8 v9 v10 v11 v12 v13 v14 v15 v16 v17 v18 v19 v20 v21:Value)(u:World)(hg:T8 u)(kR:CB u x4 [Nz,Nz])(kX:CB u x6 [Vz i1 bk.tg.length j1,Vz i2 bk.bs.length j2])(hu:K8 u base (.agg #[Vz i1 bk.tg.length j1,Vz i2 bk.bs.length j2]) bk)(hlo:lo<=u.heap.size)(hx:lo<=x4)(hxb:x4<base)(hlb:lo<=base)(_hne:x6≠x4){Q:Exit->Act->World->Prop}
  (HR:Hid (∀(a:Act)(u':World)(y0 y1:Value),a.defers=[]->a.tmps.getD 4 undef=Pz x4 0->a.tmps.getD 5 undef=.int .i64 cd->CB u' x4 [y0,y1]->K8 u' lo (.agg #[y0,y1]) bk->Below lo u u'->Q .ret a u')):Mx.wp prog Q ⟨#[v0,v1,v2,v3,Pz x4 0,v5,Pz x6 0,BX nm cd,v8,v9,v10,v11,v12,v13,v14,v15,v16,v17,v18,v19,v20,v21],[]⟩ u:=by
 obtain⟨W4,a6,kT,a0,b5⟩:=cbE1 u [Iz 0] 91;have HG:Hid (T8 u):=hg;clear hg;simp only[Mx,Eu,Tryz.f24,Option.getD_some];go_upto_region 3 with fail;try rw[a6]
 clear a6;have b6:=kR.2.2;have b7:=kX.2.2;have a2:=kR.up a0 (by omega);have a3:=kX.up a0 (by omega);have a7:=hu.up a0;have a4:Below lo u W4:=a0.mono hlo;clear kR kX;by_cases hc:cd=0
 ·subst hc;rw[Yk];go_wp2_with fail;refine (AeC _ _).mono ?_;rintro e w5 ⟨rfl,b4⟩;obtain rfl:=b4.symm;obtain⟨⟨f0,f1⟩,-⟩:=a3.c2;obtain⟨⟨g0,g1⟩,q0,q1⟩:=a2.c2;go_wp2_with fail
  (try simp only[Exit.inBlock,Exit.then])
  exact HR.out _ _ _ _ rfl rfl rfl (a2.copy2 _ _) (((a7.set hxb).set hxb).low hlb) (I4 a4 hx _ _)
 ·rw[Yl hc];have t0:At W4 u.heap.size 0 (Iz 0):=kT.1 0 _ rfl;have t1:W4.frozen? ⟨u.heap.size,0,none⟩=false:=(kT.2.1 0 (by simp)).2;have HE:Hid (T8 W4):=HG.out.up a0;go_wp2_with fail;refine (VS nm cd _ _ _ HE.out t0 t1).mono ?_;rintro e w5 ⟨rfl,W5,a1,rfl⟩;have a8:=(a3.up a1 (by omega)).other (q:=u.heap.size) (j:=0) (u:=.int .i64 cd) (by omega);have a5:=(a2.up a1 (by omega)).other (q:=u.heap.size) (j:=0) (u:=.int .i64 cd) (by omega);have a9:=(kT.up a1 (by omega)).set (j:=0) (u:=.int .i64 cd) (by simp);have b0:Below lo u (W5.setCell ⟨u.heap.size,0,none⟩ (Iz cd)):=(a4.trans (a1.mono (by omega))).setCell (p:=⟨u.heap.size,0,none⟩) hlo _;have b1:K8 (W5.setCell ⟨u.heap.size,0,none⟩ (Iz cd)) base _ bk:=hu.up ((D4 a0 a1).setCell (p:=⟨u.heap.size,0,none⟩) (A3 _) _);clear a3 a2 kT a4 a7 hu t0 t1 HE a0 a1;generalize W5.setCell ⟨u.heap.size,0,none⟩ (Iz cd)=W6 at *;obtain⟨⟨f0,f1⟩,-⟩:=a8.c2;obtain⟨⟨g0,g1⟩,q0,q1⟩:=a5.c2;have t0:At W6 u.heap.size 0 (Iz cd):=a9.1 0 _ rfl;have b2:=a5.up (A4 _ _).drew a5.2.2;have b3:=b1.up (A4 _ _).drew;go_wp2_with fail;go_region
  all_goals
   go_wp2_with fail
   (try simp only[Exit.inBlock,Exit.then])
   exact HR.out _ _ _ _ rfl rfl rfl (b2.copy2 _ _) (((b3.set hxb).set hxb).low hlb) (I4 b0.drew hx _ _)
end
end Go.Proofs.YtcgkgmmclfeohaaGreatDoor
namespace Go.Proofs.YtcgkgmmclfeohaaGreatDoor
open Go.Proofs.Tryz
open Go.Conc Go.ConcN Go.RowKit Go.Conc.Lib Go.ConcR.Gen Go.ConcN.Gen
open Go.ConcR (KK wgBlock WgAt stA smA rd wr mk Payload DC0)
theorem n_0:∃o,Fj[0]?=some o/\(o.op=.load 26 (.tmp 2))/\o.dst=some 10/\o.guard=none:=⟨_,rfl,rfl,rfl,rfl⟩
theorem n_1:∃o,Fj[1]?=some o/\(o.op=.move (.tmp 1))/\o.dst=some 11/\o.guard=none:=⟨_,rfl,rfl,rfl,rfl⟩
theorem n_2:∃o,Fj[2]?=some o/\(∃ats,o.op=.call {callee:=.value (.func 48),args:=#[.tmp 10,.tmp 11],argTypes:=ats})/\o.dst=some 12/\o.guard=none:=⟨_,rfl,⟨_,rfl⟩,rfl,rfl⟩
theorem AgG:Fj.size=9:=rfl
theorem Ia{P:Program}{s:Nat->Bool}{ops:Array Oper}{l:List Nat}(h:(l.all λi=>(ops[i]?).all λo=>Gm P s o.op)=true):X6 P s (.inRegion ops l):=λi hi o ho=>by
 have h1:=List.all_eq_true.1 h i hi;rw[ho] at h1;exact h1
theorem Ake:X6 prog (λg=>Fm.contains g) (.inRegion Fj [3,4,5,6,7,8]):=Ia (by kernel_rfl)
theorem Akf{a:Act}{u:World}{x4:Nat}{y0 y1 v:Value}{R:Value->World->Prop}(hd:a.defers=[])(h4:a.tmps.getD 4 undef=Pz x4 0)(h5:a.tmps.getD 5 undef=v)(k:CB u x4 [y0,y1])(hR:R (.tuple #[.agg #[y0,y1],v]) u):EF prog Tryz.f24 R .ret a u :=
 Eb (Fo (cs:=[y0,y1]) results24 underlying26 rfl M4 h4 h5 k) hd hR
section
variable {X0 X:Nat->Prop} {W0 V:World} {F:World->Prop} {Shun:Loc->Prop}
theorem Ab2{bvs:List Value}{asked:Value}{lo:Nat}{a:Act}(h:F5 X0 W0 (λu=>F u/\Xg bvs asked lo a u) X Shun V):∃x2 x4,a.tmps.size=22/\a.tmps[1]?=some asked/\a.tmps[2]?=some (Pz x2 0)/\a.tmps[4]?=some (Pz x4 0)/\lo<=x4/\F5 X0 W0 (λu=>F u/\CB u x2 bvs/\CB u x4 [Nz,Nz]) X Shun V:=by
 have h0:=(h.hold (λ_ _=>0) 0).2;exact⟨pb a 2,pb a 4,h0.1,h0.2.1,h0.2.2.1,h0.2.2.2.1,h0.2.2.2.2.2.2,h.mono λu hu=>⟨hu.1,hu.2.2.2.2.2.1,hu.2.2.2.2.2.2.1⟩⟩
end
theorem JT{X:Nat->Prop}{Shun:Loc->Prop}{W:World}{b:Bk}{bv:Value}{nm:BA}{asked:Value}{cd:Int}{bk:Bk}{F:World->Prop}(hX:Y9 Shun X)(hbW:M1 X W)(hF:S2 F)(h0:∀τ d,F (E0 X W τ d))(hB:∀u,F u->K6 u bv b)(hE:∀u,F u->T8 u)
  (Htry:∀X' Shun' W',Y9 Shun' X'->M1 X' W'->(∀τ d,F (E0 X' W' τ d))->AB prog 48 #[bv,asked] X' Shun' W' λv u=>∃x,v=.tuple #[x,BX nm cd]/\K8 u W'.heap.size x bk) :
  AB prog 24 #[bv,asked] X Shun W λv u=>∃x,v=.tuple #[x,Iz cd]/\K8 u W.heap.size x bk:=by
 intro Post c cs gs sl t hh k;obtain⟨a1,c1,a2,c2,rfl,-,-⟩:=(hB _ (h0 (λ_ _=>0) 0)).parts;have hI:=F5.start (F:=λu=>F u/\W.heap.size<=u.heap.size) hX hbW λτ d=>⟨h0 τ d,by (try unfold Up);rw[I5];exact A3 _⟩;have kF:S2 λu=>F u/\W.heap.size<=u.heap.size:=⟨λu u' h hb=>⟨hF.up _ _ h.1 hb,B4 h.2 hb.size⟩,λu τ d h=>⟨hF.tl u τ d h.1,h.2⟩⟩;have a6:∀X' Shun' gs V sl t v,G6 prog Shun' gs (G (c.finish v) cs) t->F5 X W (λu=>∃x,v=.tuple #[x,Iz cd]/\K8 u W.heap.size x bk) X' Shun' V->E7 prog Post (crowd gs V sl) t:=λX' Shun' gs V sl t v hh hI=>k X' Shun' gs V sl t v hI.hX hI.far hh hI.base λτ d=>⟨hI.hold τ d,hI.low τ d⟩;have c6:∀v:Value,N6 λu=>∃x,v=.tuple #[x,Iz cd]/\K8 u W.heap.size x bk:=λv u τ d ⟨x,e,h⟩=>⟨x,e,Cv h⟩;clear k h0;rw[Aea,ZN] at hh;refine Hv (l:=[OZ]) R4 (λr hr=>AgF r (by simp at hr;simp[hr])) Ab0 rfl kF hI (G':=Xg [Vz a1 b.tg.length c1,Vz a2 b.bs.length c2] asked W.heap.size) (Aeb _ _ _) (λu hu=>Aec u hu.2) hh λgs V sl t a hh hd hI=>?_;have hJ:=Ab2 hI;clear hI;obtain⟨x2,x4,z1,z0,z2,z4,zl,hI⟩:=hJ;have a7:∃T,a=⟨T,[]⟩:=⟨a.tmps,by cases a;simp only at hd;subst hd;rfl⟩;obtain⟨T,rfl⟩:=a7;refine D9 hh rfl (λw=>stepG_seq) λgs sl t dd hh=>?_;replace hI:=hI.at dd;refine D9 hh rfl (λw=>stepG_region) λgs sl t dd hh=>?_;replace hI:=hI.at dd;rw[AgG] at hh;change G6 prog Shun gs (G (bAn.at ⟨T,[]⟩ [.inRegion Fj [0,1,2,3,4,5,6,7,8],.code Mx]) (c::cs)) t at hh
 have hT:O1 22 T [(1,asked),(2,Pz x2 0),(4,Pz x4 0)]:=⟨z1,by intro p hp;simp at hp;rcases hp with rfl|rfl|rfl<;>first|exact z0|exact z2|exact z4⟩;clear z0 z1 z2 z4;obtain⟨o,ho,a3,a0,hg⟩:=n_0;refine X9 hI hh hT ho (D6 hg _) rfl a0 a3 (hT.ev 2 (Pz x2 0) (by simp)) (λu hu=>hu.2.1) (by omega) (by simp) λgs sl t dd T hh hT=>?_;replace hI:=hI.at dd;obtain⟨o,ho,a3,a0,hg⟩:=n_1;refine J4 hh hT ho (D6 hg _) rfl a0 (.inl a3) (hT.ev 1 asked (by simp)) (by omega) (by simp) λgs sl t dd T hh hT=>?_;replace hI:=hI.at dd;obtain⟨o,ho,a3,a0,hg⟩:=n_2;obtain⟨d1,a3⟩:=a3;have c7:x4<V.heap.size:=(hI.cell (a:=⟨x4,0,none⟩) (v:=Nz) λu hu=>hu.2.2.1 0 _ rfl).2.1;have c8:W.heap.size<=V.heap.size:=hI.size;refine DL (X:=X) #[.agg #[Vz a1 b.tg.length c1,Vz a2 b.bs.length c2],asked] hh hT ho (D6 hg _) rfl a0 a3 func48 (by kernel_rfl) rfl (by simp[hT.ev 10 (.agg #[Vz a1 b.tg.length c1,Vz a2 b.bs.length c2]) (by simp),hT.ev 11 asked (by simp)]) (by omega) (by simp) (R:=λv u=>∃x,v=.tuple #[x,BX nm cd]/\K8 u V.heap.size x bk) (λd=>Htry X Shun _ hI.hX (hI.base.at d) λτ d=>(hI.hold τ d).1.1) λX1 Shun1 gs V1 sl t v T hX1 hW1 hh hT hb1 hR1=>?_;obtain⟨x,rfl,a9⟩:=(hR1 (λ_ _=>0) 0).1
 have a5:∀τ d,K8 (E0 X1 V1 τ d) V.heap.size x bk:=λτ d=>by
  obtain⟨x',e,h⟩:=(hR1 τ d).1;cases e
  exact h
 obtain⟨i1,j1,i2,j2,rfl⟩:=a9.shape;have a4:=hI.up (IC kF) hX1 hb1 hW1 λτ d=>(hR1 τ d).2;have c9:F5 X W (λu=>((F u/\W.heap.size<=u.heap.size)/\CB u x2 [Vz a1 b.tg.length c1,Vz a2 b.bs.length c2]/\CB u x4 [Nz,Nz])/\K8 u V.heap.size (.agg #[Vz i1 bk.tg.length j1,Vz i2 bk.bs.length j2]) bk) X1 Shun1 V1:=⟨a4.hX,a4.base,λτ d=>⟨a4.hold τ d,a5 τ d⟩,a4.low,a4.far⟩;clear a4 hI a5 a9 hR1 hW1 hb1 hX1 a3 ho a0 hg o;have w4:=hT.get 4 (Pz x4 0) (by simp);have a8:=hT.get 12 (.tuple #[.agg #[Vz i1 bk.tg.length j1,Vz i2 bk.bs.length j2],BX nm cd]) (by simp);have z1:=hT.1;refine NB R4 Ake Ab0 rfl c9 (G':=λa u=>a.tmps.size=22/\a.tmps[4]?=some (Pz x4 0)/\a.tmps[6]?=some (Pz (pb a 6) 0)/\a.tmps[7]?=some (BX nm cd)/\CB u (pb a 6) [Vz i1 bk.tg.length j1,Vz i2 bk.bs.length j2]/\CB u x4 [Nz,Nz]/\K8 u V.heap.size (.agg #[Vz i1 bk.tg.length j1,Vz i2 bk.bs.length j2]) bk/\T8 u/\W.heap.size<=u.heap.size/\pb a 6≠x4) (λa u τ d h=>⟨h.1,h.2.1,h.2.2.1,h.2.2.2.1,h.2.2.2.2.1,h.2.2.2.2.2.1,Cv h.2.2.2.2.2.2.1,h.2.2.2.2.2.2.2.1,h.2.2.2.2.2.2.2.2⟩) (λu hu hz=>?_) hh λgs V3 sl t a hh hd hI=>?_
 ·clear hT hh;obtain⟨v0,v1,v2,v3,v4,v5,v6,v7,v8,v9,b0,b1,b2,b3,b4,b5,b6,b7,b8,b9,c3,c4,rfl⟩:=Vx T z1;simp only[List.getElem?_toArray,List.getElem?_cons_succ,List.getElem?_cons_zero,Option.some.injEq] at w4 a8;subst w4 a8;have d0:=hu.1.2.2.2.2;exact Xh _ _ _ _ _ _ _ _ _ _ _ _ _ _ _ _ _ _ _ _ u (show Hid _ from λa u' hd e1 e4 e6 e7 kX hb=>⟨rfl,⟨e1,e4,by rw[JQ e6];exact e6,e7,by rw[JQ e6];exact kX,hu.1.2.2.up hb d0,hu.2.up hb,(hE _ hu.1.1.1).up hb,B4 hu.1.1.2 hb.size,by rw[JQ e6];omega⟩,hb.mono hz⟩)
 have a7:∃T,a=⟨T,[]⟩:=⟨a.tmps,by cases a;simp only at hd;subst hd;rfl⟩;obtain⟨T',rfl⟩:=a7;clear w4 a8 z1 hT;have h9:=hI.hold (λ_ _=>0) 0;obtain⟨z1,w4,w6,w7,-,-,-,-,-,c5⟩:=h9;replace hI:=hI.mono (F':=λu=>CB u (pb ⟨T',[]⟩ 6) [Vz i1 bk.tg.length j1,Vz i2 bk.bs.length j2]/\CB u x4 [Nz,Nz]/\K8 u V.heap.size (.agg #[Vz i1 bk.tg.length j1,Vz i2 bk.bs.length j2]) bk/\T8 u/\W.heap.size<=u.heap.size) λu h=>⟨h.2.2.2.2.1,h.2.2.2.2.2.1,h.2.2.2.2.2.2.1,h.2.2.2.2.2.2.2.1,h.2.2.2.2.2.2.2.2.1⟩;generalize pb ⟨T',[]⟩ 6=x6 at *;refine Ex R4 (AgF Mx (by simp)) Ab0 rfl func24 hI c6 (λu hu hz=>?_) hh (a6 X1 Shun1);clear hh;obtain⟨v0,v1,v2,v3,v4,v5,v6,v7,v8,v9,b0,b1,b2,b3,b4,b5,b6,b7,b8,b9,c3,c4,rfl⟩:=Vx T' z1;simp only[List.getElem?_toArray,List.getElem?_cons_succ,List.getElem?_cons_zero,Option.some.injEq] at w4 w6 w7;subst w4 w6 w7;exact Ab1 (lo:=W.heap.size) _ _ _ _ _ _ _ _ _ _ _ _ _ _ _ _ _ _ _ u hu.2.2.2.1 hu.2.1 hu.1 hu.2.2.1 hz zl c7 c8 c5 (show Hid _ from λa u' y0 y1 hd h4 h5 kk a5 hb=>Akf hd h4 h5 kk ⟨⟨_,rfl,a5⟩,hb⟩)
noncomputable def Gg:Code:=Tryz.f7.body.getD .skip
noncomputable def Pa:Code:=match Gg with | .seq r _=>r|_=>.skip
noncomputable def CX:Array Oper:=match Gg with | .seq _ (.seq (.region _ o _) _)=>o|_=>#[]
theorem ZO:Gg=.seq Pa (.seq (.region 1 CX false) .ret):=by simp only[Pa,CX,Gg,Tryz.f7,Option.getD_some]
noncomputable def bAk:Frame:=Go.Conc.base 7
def Xi(bv nv lv:Value):Array Value:=#[bv,nv,lv,undef,undef,undef,undef,undef,undef,undef,undef,undef,undef,undef,undef,undef,undef]
theorem Aed(bv nv lv:Value):Frame.enter prog 7 #[bv,nv,lv] .normal=bAk.at ⟨Xi bv nv lv,[]⟩ [.code Gg]:=by
 simp[Frame.enter,Frame.at,func7,bAk,Go.Conc.base,Xi,Gg,Tryz.f7]
theorem Ab3:Cm prog bAk:=⟨rfl,_,func7⟩
theorem AlJ:O0 prog (λg=>Fm.contains g) Pa=true:=by kernel_rfl
theorem Akg:X6 prog (λg=>Fm.contains g) (.inRegion CX [7,8,9,10]):=Ia (by kernel_rfl)
theorem NU:O0 prog (λg=>Fm.contains g) .ret=true:=rfl
theorem Je{P:Program}{Q:Exit->Act->World->Prop}{a:Act}{u:World}(h:Q .ret a u):Code.ret.wp P Q a u:=by
 go_wp2_with fail;exact h
theorem k_0:∃o,CX[0]?=some o/\(o.op=.load 26 (.tmp 3))/\o.dst=some 8/\o.guard=none:=⟨_,rfl,rfl,rfl,rfl⟩
theorem k_1:∃o,CX[1]?=some o/\(o.op=.move (.tmp 1))/\o.dst=some 9/\o.guard=none:=⟨_,rfl,rfl,rfl,rfl⟩
theorem k_2:∃o,CX[2]?=some o/\(o.op=.build 48 #[(0,.tmp 9)])/\o.dst=some 10/\o.guard=none:=⟨_,rfl,rfl,rfl,rfl⟩
theorem k_3:∃o,CX[3]?=some o/\(o.op=.move (.tmp 2))/\o.dst=some 11/\o.guard=none:=⟨_,rfl,rfl,rfl,rfl⟩
theorem k_4:∃o,CX[4]?=some o/\(o.op=.build 60 #[(0,.tmp 10),(1,.tmp 11)])/\o.dst=some 12/\o.guard=none:=⟨_,rfl,rfl,rfl,rfl⟩
theorem k_5:∃o,CX[5]?=some o/\(o.op=.makeInterface 60 (.tmp 12))/\o.dst=some 13/\o.guard=none:=⟨_,rfl,rfl,rfl,rfl⟩
theorem k_6:∃o,CX[6]?=some o/\(∃ats,o.op=.call {callee:=.value (.func 24),args:=#[.tmp 8,.tmp 13],argTypes:=ats})/\o.dst=some 14/\o.guard=none:=⟨_,rfl,⟨_,rfl⟩,rfl,rfl⟩
theorem AgH:CX.size=11:=rfl
theorem Xj(s:BA)(w:World):(Instr.build 48 #[(0,Tz s)]).runT prog w #[]=(.ok (.agg #[Tz s]) w,#[]):=by kernel_rfl
theorem AlK(s:BA)(a:Option Addr)(n c:Nat)(w:World):(Instr.build 60 #[(0,.agg #[Tz s]),(1,Vz a n c)]).runT prog w #[]=(.ok (.agg #[Tz s,Vz a n c]) w,#[]):=by kernel_rfl
theorem mki(v:Value)(w:World):(Instr.makeInterface 60 v).runT prog w #[]=(.ok (.iface 60 v) w,#[]):=by kernel_rfl
section
variable {P:Program} {Shun:Loc->Prop} {Post:Value->World->Prop} {b:Frame} {k:List Item} {cs:List Frame} {gs:Array Goroutine} {sl:Option (Nat×Nat)} {t:Trace} {V:World} {n:Nat} {T:Array Value} {l:List (Nat×Value)} {ops:Array Oper} {i:Nat} {rest:List Nat} {o:Oper}
theorem Di{v:Value}{q:Sem Value}{d:Nat}(hh:G6 P Shun gs (G (b.at ⟨T,[]⟩ (.inRegion ops (i::rest)::k)) cs) t)(hT:O1 n T l)(ho:ops[i]?=some o)(hw:Region.wanted o (yielded ops T)=true)(hk:b.kind=.normal)(hdst:o.dst=some d)(hd:d<n)(hn:∀p∈l,p.1≠d)
  (hx:execOp (Act.eval ⟨T,[]⟩) o=(do pure (.value (← q)))) (hr:∀w,q.runT P w #[]=(.ok v w,#[]))
  (kk:∀gs' sl' t' x T',G6 P Shun gs' (G (b.at ⟨T',[]⟩ (.inRegion ops rest::k)) cs) t'->O1 n T' ((d,v)::l)->E7 P Post (crowd gs' (V.at x) sl') t'):E7 P Post (crowd gs V sl) t:=by
 have h1:∀w,(execOp (Act.eval ⟨T,[]⟩) o).runT P w #[]=(.ok (.value v) w,#[]):=λw=>by
  rw[hx];show (q.bind _).runT P w #[]=_
  rw[Sem.runT_bind',hr w];rfl
 refine I6 0 hh hT ho hw hk hdst hd hn (λx=>?_) (λx e he=>?_) kk
 ·rw[← Sem.runT_fst P (execOp (Act.eval ⟨T,[]⟩) o) (V.at x) #[],h1]
 ·unfold Sem.events at he;rw[h1] at he;simp at he
end
section
variable {b:Bk} {a1 a2:Option Addr} {c1 c2:Nat} {nv lv:Value}
def Ab4(bvs:List Value)(nv lv:Value)(lo:Nat)(a:Act)(u:World):Prop:=a.tmps.size=17/\a.tmps[1]?=some nv/\a.tmps[2]?=some lv/\a.tmps[3]?=some (.pointer (some ⟨pb a 3,0,none⟩))/\a.tmps[6]?=some (.pointer (some ⟨pb a 6,0,none⟩))/\CB u (pb a 3) bvs/\CB u (pb a 6) [.slice none 0 0,.slice none 0 0]/\lo<=pb a 6
theorem Aee(bvs:List Value)(nv lv:Value)(lo:Nat)(a:Act):N6 (Ab4 bvs nv lv lo a):=λ_ _ _ h=>h
theorem Aef(u:World){lo:Nat}(hlo:lo<=u.heap.size):BG prog [Pa] (λe a u'=>e=.normal/\Ab4 [Vz a1 b.tg.length c1,Vz a2 b.bs.length c2] nv lv lo a u'/\Up u u') ⟨Xi (.agg #[Vz a1 b.tg.length c1,Vz a2 b.bs.length c2]) nv lv,[]⟩ u:=by
 obtain⟨W1,a0,kA,kB,a3,a4⟩:=cbE2 u [Vz a1 b.tg.length c1,Vz a2 b.bs.length c2] 26 [Nz,Nz] 26;simp only[Pa,Xi,Gg,Tryz.f7,Option.getD_some];apply Al;intro K hK
 go_wp2_with fail;try rw[a0]
 exact⟨rfl,⟨rfl,rfl,rfl,rfl,rfl,kA,kB,by show lo<=u.heap.size+1;omega⟩,a3⟩
variable {x6 lo:Nat} {bk:Bk} {ev:Value}
theorem Xk{i1 i2:Option Addr}{j1 j2:Nat}(v0 v1 v2 v3 v4 v5 v7 v8 v9 v10 v11 v12 v13 v15 v16:Value)(u:World)(kR:CB u x6 [Nz,Nz]){Q:Exit->Act->World->Prop}(HN:Hid (∀(a:Act)(u':World),a.defers=[]->a.tmps.getD 6 undef=Pz x6 0->a.tmps.getD 7 undef=ev->CB u' x6 [Vz i1 bk.tg.length j1,Vz i2 bk.bs.length j2]->u'=(u.setCell ⟨x6,0,none⟩ (Vz i1 bk.tg.length j1)).setCell ⟨x6,1,none⟩ (Vz i2 bk.bs.length j2)->Q .normal a u')):
  wpOps prog CX Q [7,8,9,10] ⟨#[v0,v1,v2,v3,v4,v5,Pz x6 0,v7,v8,v9,v10,v11,v12,v13,.tuple #[.agg #[Vz i1 bk.tg.length j1,Vz i2 bk.bs.length j2],ev],v15,v16],[]⟩ u:=by
 obtain⟨⟨g0,g1⟩,q0,q1⟩:=kR.c2;rw[show ([7,8,9,10]:List Nat)=List.range' 7 (CX.toList.drop 7).length from rfl];refine HZ ?_;simp only[CX,Gg,Tryz.f7,Option.getD_some,List.drop_succ_cons,List.drop_zero];go_wp2_with fail;exact HN.out _ _ rfl rfl rfl (kR.copy2 _ _) rfl
end
theorem Akh{a:Act}{u:World}{x6:Nat}{y0 y1 v:Value}{R:Value->World->Prop}(hd:a.defers=[])(h4:a.tmps.getD 6 undef=Pz x6 0)(h5:a.tmps.getD 7 undef=v)(k:CB u x6 [y0,y1])(hR:R (.tuple #[.agg #[y0,y1],v]) u):EF prog Tryz.f7 R .ret a u :=
 Eb (Fo (cs:=[y0,y1]) results7 underlying26 rfl M4 h4 h5 k) hd hR
theorem Aki(s:BA)(a:Option Addr)(n c:Nat)(x:Value)(w:World):(callMethod (.iface 60 (.agg #[Tz s,Vz a n c])) "loop.example/maltrun/impl.refusal" #[x]).runT prog w #[]=(.ok (.enter 144 #[.agg #[Tz s,Vz a n c],x]) w,#[]):=by kernel_rfl
theorem Acq{X:Nat->Prop}{Shun:Loc->Prop}{W:World}{b:Bk}{bv lv:Value}{nm:BA}{ls:List BA}(hX:Y9 Shun X)(hbW:M1 X W)(hB:∀τ d,K6 (E0 X W τ d) bv b)(hL:∀τ d,Ls (E0 X W τ d) lv ls)(hE:∀τ d,T8 (E0 X W τ d)):
  AB prog 7 #[bv,Tz nm,lv] X Shun W λv u=>∃x,v=.tuple #[x,Iz (Ej b nm ls)]/\K8 u W.heap.size x (Z1 b nm ls):=by
 intro Post c cs gs sl t hh k;obtain⟨a1,c1,a2,c2,rfl,-,-⟩:=(hB (λ_ _=>0) 0).parts;obtain⟨la,lc,rfl,-⟩:=id (hL (λ_ _=>0) 0);have hF:S2 λu=>K6 u (.agg #[Vz a1 b.tg.length c1,Vz a2 b.bs.length c2]) b/\Ls u (Vz la ls.length lc) ls/\T8 u:=⟨λu u' h hb=>⟨h.1.up hb,h.2.1.up hb,h.2.2.up hb⟩,λ_ _ _ h=>h⟩;have hI:=F5.start (F:=λu=>(K6 u (.agg #[Vz a1 b.tg.length c1,Vz a2 b.bs.length c2]) b/\Ls u (Vz la ls.length lc) ls/\T8 u)/\W.heap.size<=u.heap.size) hX hbW λτ d=>⟨⟨hB τ d,hL τ d,hE τ d⟩,by (try unfold Up);rw[I5];exact A3 _⟩;have kF:S2 λu=>(K6 u (.agg #[Vz a1 b.tg.length c1,Vz a2 b.bs.length c2]) b/\Ls u (Vz la ls.length lc) ls/\T8 u)/\W.heap.size<=u.heap.size:=⟨λu u' h hb=>⟨hF.up _ _ h.1 hb,B4 h.2 hb.size⟩,λ_ _ _ h=>h⟩;have a5:∀X' Shun' gs V sl t v,G6 prog Shun' gs (G (c.finish v) cs) t->F5 X W (λu=>∃x,v=.tuple #[x,Iz (Ej b nm ls)]/\K8 u W.heap.size x (Z1 b nm ls)) X' Shun' V->E7 prog Post (crowd gs V sl) t:=λX' Shun' gs V sl t v hh hI=>k X' Shun' gs V sl t v hI.hX hI.far hh hI.base λτ d=>⟨hI.hold τ d,hI.low τ d⟩;have a9:∀v:Value,N6 λu=>∃x,v=.tuple #[x,Iz (Ej b nm ls)]/\K8 u W.heap.size x (Z1 b nm ls):=λv u τ d ⟨x,e,h⟩=>⟨x,e,Cv h⟩;clear k;rw[Aed,ZO] at hh;refine Hv (l:=[Pa]) R4 (λr hr=>by simp at hr;subst hr;exact AlJ) Ab3 rfl kF hI (G':=Ab4 [Vz a1 b.tg.length c1,Vz a2 b.bs.length c2] (Tz nm) (Vz la ls.length lc) W.heap.size) (Aee _ _ _ _) (λu hu=>Aef u hu.2) hh λgs V sl t a hh hd hI=>?_;have b0:∃T,a=⟨T,[]⟩:=⟨a.tmps,by cases a;simp only at hd;subst hd;rfl⟩;obtain⟨T,rfl⟩:=b0;obtain⟨z1,e1,e2,e3,e6,-,-,zl⟩:=(hI.hold (λ_ _=>0) 0).2;replace hI:=hI.mono (F':=λu=>((K6 u (.agg #[Vz a1 b.tg.length c1,Vz a2 b.bs.length c2]) b/\Ls u (Vz la ls.length lc) ls/\T8 u)/\W.heap.size<=u.heap.size)/\CB u (pb ⟨T,[]⟩ 3) [Vz a1 b.tg.length c1,Vz a2 b.bs.length c2]/\CB u (pb ⟨T,[]⟩ 6) [Nz,Nz]) λu hu=>⟨hu.1,hu.2.2.2.2.2.2.1,hu.2.2.2.2.2.2.2.1⟩;generalize pb ⟨T,[]⟩ 3=x3 at *;generalize pb ⟨T,[]⟩ 6=x6 at *;refine D9 hh rfl (λw=>stepG_seq) λgs sl t dd hh=>?_;replace hI:=hI.at dd;refine D9 hh rfl (λw=>stepG_region) λgs sl t dd hh=>?_;replace hI:=hI.at dd;rw[AgH] at hh;change G6 prog Shun gs (G (bAk.at ⟨T,[]⟩ [.inRegion CX [0,1,2,3,4,5,6,7,8,9,10],.code .ret]) (c::cs)) t at hh
 have hT:O1 17 T [(1,Tz nm),(2,Vz la ls.length lc),(3,Pz x3 0),(6,Pz x6 0)]:=⟨z1,by intro p hp;simp at hp;rcases hp with rfl|rfl|rfl|rfl<;>first|exact e1|exact e2|exact e3|exact e6⟩;clear e1 e2 e3 e6 z1;obtain⟨o,ho,a3,a0,hg⟩:=k_0;refine X9 hI hh hT ho (D6 hg _) rfl a0 a3 (hT.ev 3 (Pz x3 0) (by simp)) (λu hu=>hu.2.1) (by omega) (by simp) λgs sl t dd T hh hT=>?_;replace hI:=hI.at dd;obtain⟨o,ho,a3,a0,hg⟩:=k_1;refine J4 hh hT ho (D6 hg _) rfl a0 (.inl a3) (hT.ev 1 (Tz nm) (by simp)) (by omega) (by simp) λgs sl t dd T hh hT=>?_;replace hI:=hI.at dd;obtain⟨o,ho,a3,a0,hg⟩:=k_2;refine Di hh hT ho (D6 hg _) rfl a0 (by omega) (by simp) (q:=Instr.build 48 #[(0,Tz nm)]) (by unfold execOp;rw[a3];simp[hT.ev 9 (Tz nm) (by simp)]) (Xj nm) λgs sl t dd T hh hT=>?_;replace hI:=hI.at dd;obtain⟨o,ho,a3,a0,hg⟩:=k_3;refine J4 hh hT ho (D6 hg _) rfl a0 (.inl a3) (hT.ev 2 (Vz la ls.length lc) (by simp)) (by omega) (by simp) λgs sl t dd T hh hT=>?_;replace hI:=hI.at dd;obtain⟨o,ho,a3,a0,hg⟩:=k_4;refine Di hh hT ho (D6 hg _) rfl a0 (by omega) (by simp) (q:=Instr.build 60 #[(0,.agg #[Tz nm]),(1,Vz la ls.length lc)]) (by unfold execOp;rw[a3];simp[hT.ev 10 (.agg #[Tz nm]) (by simp),hT.ev 11 (Vz la ls.length lc) (by simp)]) (AlK nm _ _ _) λgs sl t dd T hh hT=>?_;replace hI:=hI.at dd;obtain⟨o,ho,a3,a0,hg⟩:=k_5;refine Di hh hT ho (D6 hg _) rfl a0 (by omega) (by simp) (q:=Instr.makeInterface 60 (.agg #[Tz nm,Vz la ls.length lc])) (by unfold execOp;rw[a3];simp[hT.ev 12 (.agg #[Tz nm,Vz la ls.length lc]) (by simp)]) (mki _) λgs sl t dd T hh hT=>?_;replace hI:=hI.at dd;obtain⟨o,ho,a3,a0,hg⟩:=k_6;obtain⟨b4,a3⟩:=a3;have a7:x6<V.heap.size:=(hI.cell (a:=⟨x6,0,none⟩) (v:=Nz) λu hu=>hu.2.2.1 0 _ rfl).2.1;have b1:W.heap.size<=V.heap.size:=hI.size
 refine DL (X:=X) #[.agg #[Vz a1 b.tg.length c1,Vz a2 b.bs.length c2],.iface 60 (.agg #[Tz nm,Vz la ls.length lc])] hh hT ho (D6 hg _) rfl a0 a3 func24 (by kernel_rfl) rfl (by simp[hT.ev 8 (.agg #[Vz a1 b.tg.length c1,Vz a2 b.bs.length c2]) (by simp),hT.ev 13 (.iface 60 (.agg #[Tz nm,Vz la ls.length lc])) (by simp)]) (by omega) (by simp) (R:=λv u=>∃x,v=.tuple #[x,Iz (Ej b nm ls)]/\K8 u V.heap.size x (Z1 b nm ls))
  (λd=>JT (b:=b) (nm:=nm) hI.hX (hI.base.at d) hF (λτ d=>(hI.hold τ d).1.1) (λu hu=>hu.1) (λu hu=>hu.2.2) λX' Shun' W' hX' hb' h0'=>QP (b:=b) (rF:=144) hX' hb' hF h0' (λu hu=>hu.1) (λn w=>UB n _ _ w) (λx w=>Aki _ _ _ _ x w)
   (λhok X2 Shun2 W2 hX2 hb2 h02=>ZD hX2 hb2 (λτ d=>(h02 τ d).1) (λτ d=>(h02 τ d).2.1) hok)
   (λhok hc u hu=>LV b _ nm _ ls u hu.1 hu.2.1 (by have:=Fz hok (Ix hc);omega) hok (Ja (Ix hc)) (Eo (Ix hc)))) λX1 Shun1 gs V1 sl t v T hX1 hW1 hh hT hb1 hR1=>?_
 obtain⟨x,rfl,a6⟩:=(hR1 (λ_ _=>0) 0).1
 have b2:∀τ d,K8 (E0 X1 V1 τ d) V.heap.size x (Z1 b nm ls):=λτ d=>by
  obtain⟨x',e,h⟩:=(hR1 τ d).1;cases e
  exact h
 obtain⟨i1,j1,i2,j2,rfl⟩:=a6.shape;have a4:=hI.up (IC kF) hX1 hb1 hW1 λτ d=>(hR1 τ d).2;clear hI hR1 hW1 hb1 hX1 a3 ho a0 hg o a6;generalize hbk':Z1 b nm ls=bk at *;have b3:F5 X W (λu=>CB u x6 [Nz,Nz]/\K8 u V.heap.size (.agg #[Vz i1 bk.tg.length j1,Vz i2 bk.bs.length j2]) bk) X1 Shun1 V1:=⟨a4.hX,a4.base,λτ d=>⟨(a4.hold τ d).2.2,b2 τ d⟩,a4.low,a4.far⟩;have w6:=hT.get 6 (Pz x6 0) (by simp);have a8:=hT.get 14 (.tuple #[.agg #[Vz i1 bk.tg.length j1,Vz i2 bk.bs.length j2],Iz (Ej b nm ls)]) (by simp);have z1:=hT.1;refine NB R4 Akg Ab3 rfl b3 (G':=λa u=>a.tmps.getD 6 undef=Pz x6 0/\a.tmps.getD 7 undef=.int .i64 (Ej b nm ls)/\CB u x6 [Vz i1 bk.tg.length j1,Vz i2 bk.bs.length j2]/\K8 u W.heap.size (.agg #[Vz i1 bk.tg.length j1,Vz i2 bk.bs.length j2]) bk) (λa u τ d h=>⟨h.1,h.2.1,h.2.2.1,Cv h.2.2.2⟩) (λu hu hz=>?_) hh λgs V3 sl t a hh hd hI=>?_
 ·clear hT hh;obtain⟨v0,v1,v2,v3,v4,v5,v6,v7,v8,v9,b5,b6,b7,b8,b9,c3,c4,rfl⟩:=FB T z1;simp only[List.getElem?_toArray,List.getElem?_cons_succ,List.getElem?_cons_zero,Option.some.injEq] at w6 a8;subst w6 a8
  exact Xk _ _ _ _ _ _ _ _ _ _ _ _ _ _ _ u hu.1 (show Hid _ from λa u' hd q6 q7 kX hb=>by
   subst hb;exact⟨rfl,⟨q6,q7,kX,((hu.2.set a7).set a7).low b1⟩,I4 (A4 _ _) zl _ _⟩)
 refine Ex R4 NU Ab3 hd func7 hI a9 (λu hu hz=>?_) hh (a5 X1 Shun1);exact Je (Akh hd hu.1 hu.2.1 hu.2.2.1 ⟨⟨_,rfl,hu.2.2.2⟩,A4 _ _⟩)
end Go.Proofs.YtcgkgmmclfeohaaGreatDoor
