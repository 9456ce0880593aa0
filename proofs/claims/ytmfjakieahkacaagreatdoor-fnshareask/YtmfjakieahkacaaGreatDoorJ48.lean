/- The program's ShareAsk, beside leavers. -/
import Derived.Test.YtmfjakieahkacaaGreatDoorJ47
import Derived.Test.YtmfjakieahkacaaGreatDoorJ46
import Derived.Test.YtmfjakieahkacaaGreatDoorSb
import Derived.Test.YtmfjakieahkacaaGreatDoorKt9
import Derived.Test.YtmfjakieahkacaaGreatDoorJ24
import Derived.Test.YtmfjakieahkacaaGreatDoorJ8
set_option maxRecDepth 100000
set_option maxHeartbeats 4000000
namespace Go.Proofs.YtmfjakieahkacaaGreatDoor
open Go.Conc Go.ConcN Go.RowKit Go.Conc.Lib Go.ConcR.Gen Go.ConcN.Gen
open Go.ConcR (KK wgBlock WgAt stA smA rd wr mk Payload DC0)
noncomputable def EO:Code:=Tryz.f5.body.getD .skip
noncomputable def MG:Code:=match EO with | .seq r _=>r|_=>.skip
noncomputable def Cw:Array Oper:=match EO with | .seq _ (.seq (.region _ o _) _)=>o|_=>#[]
theorem WE:EO=.seq MG (.seq (.region 1 Cw false) .ret):=by simp only[MG,Cw,EO,Tryz.f5,Option.getD_some]
noncomputable def YP:Frame:=Go.Conc.base 5
def Uc(bv nv lv:Value):Array Value:=#[bv,nv,lv,undef,undef,undef,undef,undef,undef,undef,undef,undef,undef,undef,undef,undef,undef]
theorem Aay(bv nv lv:Value):Frame.enter Tryz.prog 5 #[bv,nv,lv] .normal=YP.at ⟨Uc bv nv lv,[]⟩ [.code EO]:=by
 simp[Frame.enter,Frame.at,Tryz.func5,YP,Go.Conc.base,Uc,EO,Tryz.f5]
theorem Yq:CC Tryz.prog YP:=⟨rfl,_,Tryz.func5⟩
theorem AdX:N7 Tryz.prog (λg=>EN.contains g) MG=true:=by kernel_rfl
theorem AcX:U2 Tryz.prog (λg=>EN.contains g) (.inRegion Cw [7,8,9,10]):=Io (by kernel_rfl)
theorem YQ:N7 Tryz.prog (λg=>EN.contains g) .ret=true:=rfl
theorem SG{P:Program}{Q:Exit->Act->World->Prop}{a:Act}{u:World}(h:Q .ret a u):Code.ret.wp P Q a u:=by
 go_wp2_with fail;exact h
theorem k_0:∃o,Cw[0]?=some o/\(o.op=.load 26 (.tmp 3))/\o.dst=some 8/\o.guard=none:=⟨_,rfl,rfl,rfl,rfl⟩
theorem k_1:∃o,Cw[1]?=some o/\(o.op=.move (.tmp 1))/\o.dst=some 9/\o.guard=none:=⟨_,rfl,rfl,rfl,rfl⟩
theorem k_2:∃o,Cw[2]?=some o/\(o.op=.build 41 #[(0,.tmp 9)])/\o.dst=some 10/\o.guard=none:=⟨_,rfl,rfl,rfl,rfl⟩
theorem k_3:∃o,Cw[3]?=some o/\(o.op=.move (.tmp 2))/\o.dst=some 11/\o.guard=none:=⟨_,rfl,rfl,rfl,rfl⟩
theorem k_4:∃o,Cw[4]?=some o/\(o.op=.build 44 #[(0,.tmp 10),(1,.tmp 11)])/\o.dst=some 12/\o.guard=none:=⟨_,rfl,rfl,rfl,rfl⟩
theorem k_5:∃o,Cw[5]?=some o/\(o.op=.makeInterface 44 (.tmp 12))/\o.dst=some 13/\o.guard=none:=⟨_,rfl,rfl,rfl,rfl⟩
theorem k_6:∃o,Cw[6]?=some o/\(∃ats,o.op=.call {callee:=.value (.func 16),args:=#[.tmp 8,.tmp 13],argTypes:=ats})/\o.dst=some 14/\o.guard=none:=⟨_,rfl,⟨_,rfl⟩,rfl,rfl⟩
theorem AbQ:Cw.size=11:=rfl
theorem AdY(s:ByteArray)(w:World):(Instr.build 41 #[(0,.string s)]).runT Tryz.prog w #[]=(.ok (.agg #[.string s]) w,#[]):=by kernel_rfl
theorem AdZ(s:ByteArray)(a:Option Addr)(n c:Nat)(w:World):(Instr.build 44 #[(0,.agg #[.string s]),(1,.slice a n c)]).runT Tryz.prog w #[]=(.ok (.agg #[.string s,.slice a n c]) w,#[]):=by kernel_rfl
theorem mki(v:Value)(w:World):(Instr.makeInterface 44 v).runT Tryz.prog w #[]=(.ok (.iface 44 v) w,#[]):=by kernel_rfl
section
variable {P:Program} {Shun:Loc->Prop} {Post:Value->World->Prop} {b:Frame} {k:List Item} {cs:List Frame} {gs:Array Goroutine} {sl:Option (Nat×Nat)} {t:Trace} {V:World} {n:Nat} {T:Array Value} {l:List (Nat×Value)} {ops:Array Oper} {i:Nat} {rest:List Nat} {o:Oper}
theorem Qs{v:Value}{q:Sem Value}{d:Nat}(hh:K1 P Shun gs (G (b.at ⟨T,[]⟩ (.inRegion ops (i::rest)::k)) cs) t)(hT:P5 n T l)(ho:ops[i]?=some o)(hw:Region.wanted o (yielded ops T)=true)(hk:b.kind=.normal)(hdst:o.dst=some d)(hd:d<n)(hn:∀p∈l,p.1≠d)
  (hx:execOp (Act.eval ⟨T,[]⟩) o=(do pure (.value (← q)))) (hr:∀w,q.runT P w #[]=(.ok v w,#[]))
  (kk:∀gs' sl' t' x T',K1 P Shun gs' (G (b.at ⟨T',[]⟩ (.inRegion ops rest::k)) cs) t'->P5 n T' ((d,v)::l)->G4 P Post (crowd gs' (V.at x) sl') t'):G4 P Post (crowd gs V sl) t:=by
 have h1:∀w,(execOp (Act.eval ⟨T,[]⟩) o).runT P w #[]=(.ok (.value v) w,#[]):=λw=>by
  rw[hx];show (q.bind _).runT P w #[]=_
  rw[Sem.runT_bind',hr w];rfl
 refine Cu 0 hh hT ho hw hk hdst hd hn (λx=>?_) (λx e he=>?_) kk
 ·rw[← Sem.runT_fst P (execOp (Act.eval ⟨T,[]⟩) o) (V.at x) #[],h1]
 ·unfold Sem.events at he;rw[h1] at he;simp at he
end
section
variable {b:Bk} {a1 a2:Option Addr} {c1 c2:Nat} {nv lv:Value}
def Yr(bvs:List Value)(nv lv:Value)(lo:Nat)(a:Act)(u:World):Prop:=a.tmps.size=17/\a.tmps[1]?=some nv/\a.tmps[2]?=some lv/\a.tmps[3]?=some (.pointer (some ⟨pb a 3,0,none⟩))/\a.tmps[6]?=some (.pointer (some ⟨pb a 6,0,none⟩))/\CB u (pb a 3) bvs/\CB u (pb a 6) [.slice none 0 0,.slice none 0 0]/\lo<=pb a 6
theorem Aaz(bvs:List Value)(nv lv:Value)(lo:Nat)(a:Act):P4 (Yr bvs nv lv lo a):=λ_ _ _ h=>h
theorem Aa0(u:World){lo:Nat}(hlo:lo<=u.heap.size):Bb Tryz.prog [MG] (λe a u'=>e=.normal/\Yr [.slice a1 b.tg.length c1,.slice a2 b.bs.length c2] nv lv lo a u'/\Below u.heap.size u u') ⟨Uc (.agg #[.slice a1 b.tg.length c1,.slice a2 b.bs.length c2]) nv lv,[]⟩ u:=by
 obtain⟨W1,hW1,kA,kB,hB1,hs1⟩:=cbE2 u [.slice a1 b.tg.length c1,.slice a2 b.bs.length c2] 26 [.slice none 0 0,.slice none 0 0] 26;simp only[MG,Uc,EO,Tryz.f5,Option.getD_some];apply Y1;intro K hK
 go_wp2_with fail;try rw[hW1]
 exact⟨rfl,⟨rfl,rfl,rfl,rfl,rfl,kA,kB,by show lo<=u.heap.size+1;omega⟩,hB1⟩
variable {x6 lo:Nat} {bk:Bk} {ev:Value}
theorem Ud{i1 i2:Option Addr}{j1 j2:Nat}(v0 v1 v2 v3 v4 v5 v7 v8 v9 v10 v11 v12 v13 v15 v16:Value)(u:World)(kR:CB u x6 [.slice none 0 0,.slice none 0 0]){Q:Exit->Act->World->Prop}(HN:Hid (∀(a:Act)(u':World),a.defers=[]->a.tmps.getD 6 undef=.pointer (some ⟨x6,0,none⟩)->a.tmps.getD 7 undef=ev->CB u' x6 [.slice i1 bk.tg.length j1,.slice i2 bk.bs.length j2]->u'=(u.setCell ⟨x6,0,none⟩ (.slice i1 bk.tg.length j1)).setCell ⟨x6,1,none⟩ (.slice i2 bk.bs.length j2)->Q .normal a u')):
  wpOps Tryz.prog Cw Q [7,8,9,10] ⟨#[v0,v1,v2,v3,v4,v5,.pointer (some ⟨x6,0,none⟩),v7,v8,v9,v10,v11,v12,v13,.tuple #[.agg #[.slice i1 bk.tg.length j1,.slice i2 bk.bs.length j2],ev],v15,v16],[]⟩ u:=by
 obtain⟨⟨g0,g1⟩,q0,q1⟩:=kR.c2;rw[show ([7,8,9,10]:List Nat)=List.range' 7 (Cw.toList.drop 7).length from rfl];refine Im ?_;simp only[Cw,EO,Tryz.f5,Option.getD_some,List.drop_succ_cons,List.drop_zero];go_wp2_with fail;exact HN.out _ _ rfl rfl rfl (kR.copy2 _ _) rfl
end
theorem AcY{a:Act}{u:World}{x6:Nat}{y0 y1 v:Value}{R:Value->World->Prop}(hd:a.defers=[])(h4:a.tmps.getD 6 undef=.pointer (some ⟨x6,0,none⟩))(h5:a.tmps.getD 7 undef=v)(k:CB u x6 [y0,y1])(hR:R (.tuple #[.agg #[y0,y1],v]) u):ET Tryz.prog Tryz.f5 R .ret a u :=
 Ft (Jp (cs:=[y0,y1]) Tryz.results5 Tryz.underlying26 rfl L9 h4 h5 k) hd hR
theorem AcZ(s:ByteArray)(a:Option Addr)(n c:Nat)(x:Value)(w:World):(callMethod (.iface 44 (.agg #[.string s,.slice a n c])) "loop.example/maltrun/impl.refusal" #[x]).runT Tryz.prog w #[]=(.ok (.enter 149 #[.agg #[.string s,.slice a n c],x]) w,#[]):=by kernel_rfl
theorem Ada{X:Nat->Prop}{Shun:Loc->Prop}{W:World}{b:Bk}{bv lv:Value}{nm:ByteArray}{ls:List ByteArray}(hX:AH Shun X)(hbW:N9 X W)(hB:∀τ d,K0 (E0 X W τ d) bv b)(hL:∀τ d,Ls (E0 X W τ d) lv ls)(hE:∀τ d,Bf (E0 X W τ d)):
  CD Tryz.prog 5 #[bv,.string nm,lv] X Shun W λv u=>∃x,v=.tuple #[x,.int .i64 (Y3 b nm ls)]/\U0 u W.heap.size x (Az b nm ls):=by
 intro Post c cs gs sl t hh k;obtain⟨a1,c1,a2,c2,rfl,-,-⟩:=(hB (λ_ _=>0) 0).parts;obtain⟨la,lc,rfl,-⟩:=id (hL (λ_ _=>0) 0);have hF:Ay λu=>K0 u (.agg #[.slice a1 b.tg.length c1,.slice a2 b.bs.length c2]) b/\Ls u (.slice la ls.length lc) ls/\Bf u:=⟨λu u' h hb=>⟨h.1.up hb,h.2.1.up hb,h.2.2.up hb⟩,λ_ _ _ h=>h⟩;have hI:=L8.start (F:=λu=>(K0 u (.agg #[.slice a1 b.tg.length c1,.slice a2 b.bs.length c2]) b/\Ls u (.slice la ls.length lc) ls/\Bf u)/\W.heap.size<=u.heap.size) hX hbW λτ d=>⟨⟨hB τ d,hL τ d,hE τ d⟩,by rw[K5];exact A3 _⟩;have kF:Ay λu=>(K0 u (.agg #[.slice a1 b.tg.length c1,.slice a2 b.bs.length c2]) b/\Ls u (.slice la ls.length lc) ls/\Bf u)/\W.heap.size<=u.heap.size:=⟨λu u' h hb=>⟨hF.up _ _ h.1 hb,B3 h.2 hb.size⟩,λ_ _ _ h=>h⟩;have home:∀X' Shun' gs V sl t v,K1 Tryz.prog Shun' gs (G (c.finish v) cs) t->L8 X W (λu=>∃x,v=.tuple #[x,.int .i64 (Y3 b nm ls)]/\U0 u W.heap.size x (Az b nm ls)) X' Shun' V->G4 Tryz.prog Post (crowd gs V sl) t:=λX' Shun' gs V sl t v hh hI=>k X' Shun' gs V sl t v hI.hX hI.far hh hI.base λτ d=>⟨hI.hold τ d,hI.low τ d⟩;have tlR:∀v:Value,P4 λu=>∃x,v=.tuple #[x,.int .i64 (Y3 b nm ls)]/\U0 u W.heap.size x (Az b nm ls):=λv u τ d ⟨x,e,h⟩=>⟨x,e,Jn h⟩;clear k;rw[Aay,WE] at hh;refine FT (l:=[MG]) R9 (λr hr=>by simp at hr;subst hr;exact AdX) Yq rfl kF hI (G':=Yr [.slice a1 b.tg.length c1,.slice a2 b.bs.length c2] (.string nm) (.slice la ls.length lc) W.heap.size) (Aaz _ _ _ _) (λu hu=>Aa0 u hu.2) hh λgs V sl t a hh hd hI=>?_;have lit:∃T,a=⟨T,[]⟩:=⟨a.tmps,by cases a;simp only at hd;subst hd;rfl⟩;obtain⟨T,rfl⟩:=lit;obtain⟨z1,e1,e2,e3,e6,-,-,zl⟩:=(hI.hold (λ_ _=>0) 0).2;replace hI:=hI.mono (F':=λu=>((K0 u (.agg #[.slice a1 b.tg.length c1,.slice a2 b.bs.length c2]) b/\Ls u (.slice la ls.length lc) ls/\Bf u)/\W.heap.size<=u.heap.size)/\CB u (pb ⟨T,[]⟩ 3) [.slice a1 b.tg.length c1,.slice a2 b.bs.length c2]/\CB u (pb ⟨T,[]⟩ 6) [.slice none 0 0,.slice none 0 0]) λu hu=>⟨hu.1,hu.2.2.2.2.2.2.1,hu.2.2.2.2.2.2.2.1⟩;generalize pb ⟨T,[]⟩ 3=x3 at *;generalize pb ⟨T,[]⟩ 6=x6 at *;refine O9 hh rfl (λw=>stepG_seq) λgs sl t dd hh=>?_;replace hI:=hI.at dd;refine O9 hh rfl (λw=>stepG_region) λgs sl t dd hh=>?_;replace hI:=hI.at dd;rw[AbQ] at hh;change K1 Tryz.prog Shun gs (G (YP.at ⟨T,[]⟩ [.inRegion Cw [0,1,2,3,4,5,6,7,8,9,10],.code .ret]) (c::cs)) t at hh
 have hT:P5 17 T [(1,.string nm),(2,.slice la ls.length lc),(3,.pointer (some ⟨x3,0,none⟩)),(6,.pointer (some ⟨x6,0,none⟩))]:=⟨z1,by intro p hp;simp at hp;rcases hp with rfl|rfl|rfl|rfl<;>first|exact e1|exact e2|exact e3|exact e6⟩;clear e1 e2 e3 e6 z1;obtain⟨o,ho,hop,hdst,hg⟩:=k_0;refine DD hI hh hT ho (S6 hg _) rfl hdst hop (hT.ev 3 (.pointer (some ⟨x3,0,none⟩)) (by simp)) (λu hu=>hu.2.1) (by omega) (by simp) λgs sl t dd T hh hT=>?_;replace hI:=hI.at dd;clear hop ho hdst hg o;obtain⟨o,ho,hop,hdst,hg⟩:=k_1;refine BW hh hT ho (S6 hg _) rfl hdst (.inl hop) (hT.ev 1 (.string nm) (by simp)) (by omega) (by simp) λgs sl t dd T hh hT=>?_;replace hI:=hI.at dd;clear hop ho hdst hg o;obtain⟨o,ho,hop,hdst,hg⟩:=k_2;refine Qs hh hT ho (S6 hg _) rfl hdst (by omega) (by simp) (q:=Instr.build 41 #[(0,.string nm)]) (by unfold execOp;rw[hop];simp[hT.ev 9 (.string nm) (by simp)]) (AdY nm) λgs sl t dd T hh hT=>?_;replace hI:=hI.at dd;clear hop ho hdst hg o;obtain⟨o,ho,hop,hdst,hg⟩:=k_3;refine BW hh hT ho (S6 hg _) rfl hdst (.inl hop) (hT.ev 2 (.slice la ls.length lc) (by simp)) (by omega) (by simp) λgs sl t dd T hh hT=>?_;replace hI:=hI.at dd;clear hop ho hdst hg o;obtain⟨o,ho,hop,hdst,hg⟩:=k_4;refine Qs hh hT ho (S6 hg _) rfl hdst (by omega) (by simp) (q:=Instr.build 44 #[(0,.agg #[.string nm]),(1,.slice la ls.length lc)]) (by unfold execOp;rw[hop];simp[hT.ev 10 (.agg #[.string nm]) (by simp),hT.ev 11 (.slice la ls.length lc) (by simp)]) (AdZ nm _ _ _) λgs sl t dd T hh hT=>?_;replace hI:=hI.at dd;clear hop ho hdst hg o;obtain⟨o,ho,hop,hdst,hg⟩:=k_5;refine Qs hh hT ho (S6 hg _) rfl hdst (by omega) (by simp) (q:=Instr.makeInterface 44 (.agg #[.string nm,.slice la ls.length lc])) (by unfold execOp;rw[hop];simp[hT.ev 12 (.agg #[.string nm,.slice la ls.length lc]) (by simp)]) (mki _) λgs sl t dd T hh hT=>?_;replace hI:=hI.at dd;clear hop ho hdst hg o;obtain⟨o,ho,hop,hdst,hg⟩:=k_6;obtain⟨ats,hop⟩:=hop;have hx6:x6<V.heap.size:=(hI.cell (a:=⟨x6,0,none⟩) (v:=.slice none 0 0) λu hu=>hu.2.2.1 0 _ rfl).2.1;have hWV:W.heap.size<=V.heap.size:=hI.size
 refine Jh (X:=X) #[.agg #[.slice a1 b.tg.length c1,.slice a2 b.bs.length c2],.iface 44 (.agg #[.string nm,.slice la ls.length lc])] hh hT ho (S6 hg _) rfl hdst hop Tryz.func16 (by kernel_rfl) rfl (by simp[hT.ev 8 (.agg #[.slice a1 b.tg.length c1,.slice a2 b.bs.length c2]) (by simp),hT.ev 13 (.iface 44 (.agg #[.string nm,.slice la ls.length lc])) (by simp)]) (by omega) (by simp) (R:=λv u=>∃x,v=.tuple #[x,.int .i64 (Y3 b nm ls)]/\U0 u V.heap.size x (Az b nm ls))
  (λd=>Yp (b:=b) (nm:=nm) hI.hX (hI.base.at d) hF (λτ d=>(hI.hold τ d).1.1) (λu hu=>hu.1) (λu hu=>hu.2.2) λX' Shun' W' hX' hb' h0'=>AcU (b:=b) (rF:=149) hX' hb' hF h0' (λu hu=>hu.1) (λn w=>RD n _ _ w) (λx w=>AcZ _ _ _ _ x w)
   (λhok X2 Shun2 W2 hX2 hb2 h02=>Wv hX2 hb2 (λτ d=>(h02 τ d).1) (λτ d=>(h02 τ d).2.1) hok)
   (λhok hc u hu=>Kd b _ nm _ ls u hu.1 hu.2.1 (by have:=Kq hok (Gj hc);omega) hok (GG (Gj hc)) (Da (Gj hc)))) λX1 Shun1 gs V1 sl t v T hX1 hW1 hh hT hb1 hR1=>?_
 obtain⟨x,rfl,hb0⟩:=(hR1 (λ_ _=>0) 0).1
 have hbk:∀τ d,U0 (E0 X1 V1 τ d) V.heap.size x (Az b nm ls):=λτ d=>by
  obtain⟨x',e,h⟩:=(hR1 τ d).1;cases e
  exact h
 obtain⟨i1,j1,i2,j2,rfl⟩:=hb0.shape;have hI1:=hI.up (LG kF) hX1 hb1 hW1 λτ d=>(hR1 τ d).2;clear hI hR1 hW1 hb1 hX1 hop ho hdst hg o hb0;generalize hbk':Az b nm ls=bk at *;have hI2:L8 X W (λu=>CB u x6 [.slice none 0 0,.slice none 0 0]/\U0 u V.heap.size (.agg #[.slice i1 bk.tg.length j1,.slice i2 bk.bs.length j2]) bk) X1 Shun1 V1:=⟨hI1.hX,hI1.base,λτ d=>⟨(hI1.hold τ d).2.2,hbk τ d⟩,hI1.low,hI1.far⟩;have w6:=hT.get 6 (.pointer (some ⟨x6,0,none⟩)) (by simp);have w14:=hT.get 14 (.tuple #[.agg #[.slice i1 bk.tg.length j1,.slice i2 bk.bs.length j2],.int .i64 (Y3 b nm ls)]) (by simp);have z1:=hT.1;refine Oh R9 AcX Yq rfl hI2 (G':=λa u=>a.tmps.getD 6 undef=.pointer (some ⟨x6,0,none⟩)/\a.tmps.getD 7 undef=.int .i64 (Y3 b nm ls)/\CB u x6 [.slice i1 bk.tg.length j1,.slice i2 bk.bs.length j2]/\U0 u W.heap.size (.agg #[.slice i1 bk.tg.length j1,.slice i2 bk.bs.length j2]) bk) (λa u τ d h=>⟨h.1,h.2.1,h.2.2.1,Jn h.2.2.2⟩) (λu hu hz=>?_) hh λgs V3 sl t a hh hd hI=>?_
 ·clear hT hh;obtain⟨v0,v1,v2,v3,v4,v5,v6,v7,v8,v9,v10,v11,v12,v13,v14,v15,v16,rfl⟩:=JE T z1;simp only[List.getElem?_toArray,List.getElem?_cons_succ,List.getElem?_cons_zero,Option.some.injEq] at w6 w14;subst w6 w14
  exact Ud _ _ _ _ _ _ _ _ _ _ _ _ _ _ _ u hu.1 (show Hid _ from λa u' hd q6 q7 kX hb=>by
   subst hb;exact⟨rfl,⟨q6,q7,kX,((hu.2.set hx6).set hx6).low hWV⟩,I7 (A4 _ _) zl _ _⟩)
 refine Fj R9 YQ Yq hd Tryz.func5 hI tlR (λu hu hz=>?_) hh (home X1 Shun1);exact SG (AcY hd hu.1 hu.2.1 hu.2.2.1 ⟨⟨_,rfl,hu.2.2.2⟩,A4 _ _⟩)
end Go.Proofs.YtmfjakieahkacaaGreatDoor
namespace Go.Proofs.YtmfjakieahkacaaGreatDoor
open Go.Conc Go.RowKit
def GA:Code->Nat->Code
 | .seq r _,0=>r
 | .seq _ c,n+1=>GA c n
 | _,_=>.skip
def Gp:Code->Nat->Code
 | c,0=>c
 | .seq _ c,n+1=>Gp c n
 | _,_=>.skip
noncomputable def Cg:Code:=Tryz.f3.body.getD .skip
noncomputable def pK(i:Nat):Code:=GA Cg i
noncomputable def tK(i:Nat):Code:=Gp Cg i
def NL(v:Value):Array Value:=#[v,undef,undef,undef,undef,undef,undef,undef,undef,undef,undef,undef,undef,undef,undef,undef,undef,undef,undef,undef,undef,undef,undef,undef,undef,undef,undef,undef,undef,undef,undef,undef,undef,undef,undef,undef,undef,undef,undef,undef,undef,undef,undef,undef,undef,undef,undef,undef,undef,undef,undef,undef,undef,undef,undef,undef,undef,undef,undef,undef,undef,undef,undef,undef,undef,undef,undef,undef,undef,undef,undef,undef,undef,undef,undef,undef,undef,undef,undef,undef,undef,undef,undef,undef,undef,undef,undef,undef,undef,undef,undef,undef,undef,undef,undef,undef,undef,undef,undef,undef,undef,undef,undef,undef,undef,undef,undef,undef,undef,undef,undef,undef,undef,undef,undef,undef,undef,undef,undef,undef,undef,undef,undef]
noncomputable def bK:Frame:=base 3
theorem Gq:CC Tryz.prog bK:=⟨rfl,_,Tryz.func3⟩
theorem AbR(v:Value):Frame.enter Tryz.prog 3 #[v] .normal=bK.at ⟨NL v,[]⟩ [.code (tK 0)]:=by
 simp[Frame.enter,Frame.at,Tryz.func3,bK,base,NL,tK,Gp,Cg,Tryz.f3]
theorem Gr{P:Program}{r:Code}{Q:Exit->Act->World->Prop}{a:Act}{w:World}(h:∀K:Exit->Act->World->Prop,(∀e a w,Q e a w->K e a w)->r.wp P K a w):r.wp P Q a w:=h _ λ_ _ _ h=>h
theorem K2{n:Nat}{T:Array Value}{l:List (Nat×Value)}(h:P5 n T l)(i:Nat)(v:Value)(hm:(i,v)∈l):T.getD i undef=v:=by
 have:=h.get i v hm;rw[Array.getD_eq_getD_getElem?,this];rfl
theorem Aea:tK 0=AM [pK 0,pK 1,pK 2] (tK 3):=rfl
theorem Adb:tK 0=AM [pK 0] (.seq (pK 1) (tK 2)):=rfl
theorem Aeb:tK 4=AM [pK 4,pK 5] (tK 6):=rfl
theorem NM:∀r∈[pK 0,pK 1,pK 2,pK 4,pK 5,pK 6,pK 9],N7 Tryz.prog (λg=>EN.contains g) r=true:=by
 intro r hr;simp only[List.mem_cons,List.not_mem_nil,or_false] at hr;rcases hr with rfl|rfl|rfl|rfl|rfl|rfl|rfl<;>kernel_rfl
theorem Bt{α:Type}{l:List α}{n:Nat}(h:l.length=n+8):∃a0 a1 a2 a3 a4 a5 a6 a7 l',l=a0::a1::a2::a3::a4::a5::a6::a7::l'/\l'.length=n:=by
 match l,h with
 | a0::a1::a2::a3::a4::a5::a6::a7::l',h=>exact⟨a0,a1,a2,a3,a4,a5,a6,a7,l',rfl,by simpa using h⟩
theorem AbS{α:Type}{l:List α}(h:l.length=3):∃a0 a1 a2,l=[a0,a1,a2]:=by
 match l,h with
 | [a0,a1,a2],_=>exact⟨a0,a1,a2,rfl⟩
theorem FV(T:Array Value)(h:T.size=123):T=#[T.getD 0 undef,T.getD 1 undef,T.getD 2 undef,T.getD 3 undef,T.getD 4 undef,T.getD 5 undef,T.getD 6 undef,T.getD 7 undef,T.getD 8 undef,T.getD 9 undef,T.getD 10 undef,T.getD 11 undef,T.getD 12 undef,T.getD 13 undef,T.getD 14 undef,T.getD 15 undef,T.getD 16 undef,T.getD 17 undef,T.getD 18 undef,T.getD 19 undef,T.getD 20 undef,T.getD 21 undef,T.getD 22 undef,T.getD 23 undef,T.getD 24 undef,T.getD 25 undef,T.getD 26 undef,T.getD 27 undef,T.getD 28 undef,T.getD 29 undef,T.getD 30 undef,T.getD 31 undef,T.getD 32 undef,T.getD 33 undef,T.getD 34 undef,T.getD 35 undef,T.getD 36 undef,T.getD 37 undef,T.getD 38 undef,T.getD 39 undef,T.getD 40 undef,T.getD 41 undef,T.getD 42 undef,T.getD 43 undef,T.getD 44 undef,T.getD 45 undef,T.getD 46 undef,T.getD 47 undef,T.getD 48 undef,T.getD 49 undef,T.getD 50 undef,T.getD 51 undef,T.getD 52 undef,T.getD 53 undef,T.getD 54 undef,T.getD 55 undef,T.getD 56 undef,T.getD 57 undef,T.getD 58 undef,T.getD 59 undef,T.getD 60 undef,T.getD 61 undef,T.getD 62 undef,T.getD 63 undef,T.getD 64 undef,T.getD 65 undef,T.getD 66 undef,T.getD 67 undef,T.getD 68 undef,T.getD 69 undef,T.getD 70 undef,T.getD 71 undef,T.getD 72 undef,T.getD 73 undef,T.getD 74 undef,T.getD 75 undef,T.getD 76 undef,T.getD 77 undef,T.getD 78 undef,T.getD 79 undef,T.getD 80 undef,T.getD 81 undef,T.getD 82 undef,T.getD 83 undef,T.getD 84 undef,T.getD 85 undef,T.getD 86 undef,T.getD 87 undef,T.getD 88 undef,T.getD 89 undef,T.getD 90 undef,T.getD 91 undef,T.getD 92 undef,T.getD 93 undef,T.getD 94 undef,T.getD 95 undef,T.getD 96 undef,T.getD 97 undef,T.getD 98 undef,T.getD 99 undef,T.getD 100 undef,T.getD 101 undef,T.getD 102 undef,T.getD 103 undef,T.getD 104 undef,T.getD 105 undef,T.getD 106 undef,T.getD 107 undef,T.getD 108 undef,T.getD 109 undef,T.getD 110 undef,T.getD 111 undef,T.getD 112 undef,T.getD 113 undef,T.getD 114 undef,T.getD 115 undef,T.getD 116 undef,T.getD 117 undef,T.getD 118 undef,T.getD 119 undef,T.getD 120 undef,T.getD 121 undef,T.getD 122 undef]:=by
 obtain⟨l⟩:=T;have h0:l.length=115+8:=h;clear h;obtain⟨v0,v1,v2,v3,v4,v5,v6,v7,l1,e1,h1⟩:=Bt (n:=115) h0;obtain⟨v8,v9,v10,v11,v12,v13,v14,v15,l2,e2,h2⟩:=Bt (n:=107) h1;obtain⟨v16,v17,v18,v19,v20,v21,v22,v23,l3,e3,h3⟩:=Bt (n:=99) h2;obtain⟨v24,v25,v26,v27,v28,v29,v30,v31,l4,e4,h4⟩:=Bt (n:=91) h3;obtain⟨v32,v33,v34,v35,v36,v37,v38,v39,l5,e5,h5⟩:=Bt (n:=83) h4;obtain⟨v40,v41,v42,v43,v44,v45,v46,v47,l6,e6,h6⟩:=Bt (n:=75) h5;obtain⟨v48,v49,v50,v51,v52,v53,v54,v55,l7,e7,h7⟩:=Bt (n:=67) h6;obtain⟨v56,v57,v58,v59,v60,v61,v62,v63,l8,e8,h8⟩:=Bt (n:=59) h7;obtain⟨v64,v65,v66,v67,v68,v69,v70,v71,l9,e9,h9⟩:=Bt (n:=51) h8;obtain⟨v72,v73,v74,v75,v76,v77,v78,v79,l10,e10,h10⟩:=Bt (n:=43) h9;obtain⟨v80,v81,v82,v83,v84,v85,v86,v87,l11,e11,h11⟩:=Bt (n:=35) h10;obtain⟨v88,v89,v90,v91,v92,v93,v94,v95,l12,e12,h12⟩:=Bt (n:=27) h11;obtain⟨v96,v97,v98,v99,v100,v101,v102,v103,l13,e13,h13⟩:=Bt (n:=19) h12;obtain⟨v104,v105,v106,v107,v108,v109,v110,v111,l14,e14,h14⟩:=Bt (n:=11) h13;obtain⟨v112,v113,v114,v115,v116,v117,v118,v119,l15,e15,h15⟩:=Bt (n:=3) h14;obtain⟨v120,v121,v122,e16⟩:=AbS h15;subst e16 e15 e14 e13 e12 e11 e10 e9 e8 e7 e6 e5 e4 e3 e2 e1;rfl
def QA(a:Act)(u:World):Prop:=∃T b nm ls a1 c1 a2 c2 la lc bx,a=⟨T,[]⟩/\P5 123 T [(3,.pointer (some ⟨bx,0,none⟩)),(4,.string nm),(5,.slice la ls.length lc)]/\CB u bx [.slice a1 b.tg.length c1,.slice a2 b.bs.length c2]/\K0 u (.agg #[.slice a1 b.tg.length c1,.slice a2 b.bs.length c2]) b/\Ls u (.slice la ls.length lc) ls/\ED b/\nm.size<=maxLen/\ls.length<=101
theorem Adc(a:Act):P4 (QA a):=λ_ _ _ h=>h
theorem AbT{x:Option Addr}{n k:Nat}(u:World)(h:Y4 u u.heap.size (.slice x n k) n)(hcap:n<=k)(hbig:k<=maxLen)(hn:n<=1048576):Bb Tryz.prog [pK 0,pK 1,pK 2] (λe a u'=>e=.normal/\QA a u'/\Below u.heap.size u u') ⟨NL (.slice x n k),[]⟩ u:=by
 have hd:decide ((1048576:Int)<(n:Int))=false:=by simp;omega
 simp only[pK,GA,NL,Cg,Tryz.f3,Option.getD_some];apply Y1;intro K hK
 go_wp2_with fail
 (try clear hK;try clear K)
 apply Y1;intro K hK
 go_wp2_with fail
 (try clear hK;try clear K)
 apply Y1;intro K hK
 go_wp2_with fail;refine (Rl x n k _ h hcap hbig).mono ?_;rintro e w2 ⟨⟨v,b,nm,la,lc,ls,rfl,hD,hz,ho,hlz,hll⟩,hb2⟩;obtain⟨a1,c1,a2,c2,rfl⟩:=hD.parts;obtain⟨W3,hW3,kX,hb3,hs3⟩:=cbE1 w2 [.slice a1 b.tg.length c1,.slice a2 b.bs.length c2] 26;have hk:=hD.bk.up hb3;have hl:=(ho.lst.ls hlz).up hb3;have hB:=D1 hb2 hb3;have HL:Hid (ED b):=hD.2.2;clear hD hb2 hb3 hs3 ho hlz;go_wp2_with fail;try rw[hW3]
 refine⟨rfl,⟨_,b,nm,ls,a1,c1,a2,c2,la,lc,w2.heap.size,rfl,⟨rfl,?_⟩,kX,hk,hl,HL.out,hz,hll⟩,hB⟩;intro p hp;simp only[List.mem_cons,List.not_mem_nil,or_false] at hp;rcases hp with rfl|rfl|rfl<;>rfl
theorem AbU{v:Value}(u:World):Bb Tryz.prog [pK 0] (λe a u'=>e=.normal/\(∃T,a=⟨T,[]⟩/\P5 123 T [(0,v)])/\Below u.heap.size u u') ⟨NL v,[]⟩ u:=by
 simp only[pK,GA,NL,Cg,Tryz.f3,Option.getD_some];apply Y1;intro K hK
 go_wp2_with fail;refine⟨rfl,⟨_,rfl,rfl,?_⟩,A4 _ _⟩;intro p hp;simp only[List.mem_cons,List.not_mem_nil,or_false] at hp;subst hp;rfl
theorem Ade{x:Option Addr}{n k:Nat}(v1 v2 v3 v4 v5 v6 v7 v8 v9 v10 v11 v12 v13 v14 v15 v16 v17 v18 v19 v20 v21 v22 v23 v24 v25 v26 v27 v28 v29 v30 v31 v32 v33 v34 v35 v36 v37 v38 v39 v40 v41 v42 v43 v44 v45 v46 v47 v48 v49 v50 v51 v52 v53 v54 v55 v56 v57 v58 v59 v60 v61 v62 v63 v64 v65 v66 v67 v68 v69 v70 v71 v72 v73 v74 v75 v76 v77 v78 v79 v80 v81 v82 v83 v84 v85 v86 v87 v88 v89 v90 v91 v92 v93 v94 v95 v96 v97 v98 v99 v100 v101 v102 v103 v104 v105 v106 v107 v108 v109 v110 v111 v112 v113 v114 v115 v116 v117 v118 v119 v120 v121 v122:Value)(u:World)(hn:1048576<n):(pK 1).wp Tryz.prog (λe a u'=>e=.ret/\a.tmps.getD 2 undef=.bool true/\Below u.heap.size u u') ⟨#[.slice x n k,v1,v2,v3,v4,v5,v6,v7,v8,v9,v10,v11,v12,v13,v14,v15,v16,v17,v18,v19,v20,v21,v22,v23,v24,v25,v26,v27,v28,v29,v30,v31,v32,v33,v34,v35,v36,v37,v38,v39,v40,v41,v42,v43,v44,v45,v46,v47,v48,v49,v50,v51,v52,v53,v54,v55,v56,v57,v58,v59,v60,v61,v62,v63,v64,v65,v66,v67,v68,v69,v70,v71,v72,v73,v74,v75,v76,v77,v78,v79,v80,v81,v82,v83,v84,v85,v86,v87,v88,v89,v90,v91,v92,v93,v94,v95,v96,v97,v98,v99,v100,v101,v102,v103,v104,v105,v106,v107,v108,v109,v110,v111,v112,v113,v114,v115,v116,v117,v118,v119,v120,v121,v122],[]⟩ u:=by
 have hd:decide ((1048576:Int)<(n:Int))=true:=by simp;omega
 simp only[pK,GA,Cg,Tryz.f3,Option.getD_some];apply Gr
 intro K hK;go_wp2_with fail;exact A4 _ _
theorem Aec{T:Array Value}{x:Option Addr}{n k:Nat}(u:World)(hT:P5 123 T [(0,.slice x n k)])(hn:1048576<n):(pK 1).wp Tryz.prog (λe a u'=>e=.ret/\a.tmps.getD 2 undef=.bool true/\Below u.heap.size u u') ⟨T,[]⟩ u:=by
 rw[FV T hT.1,K2 hT 0 (.slice x n k) (by simp)];exact Ade _ _ _ _ _ _ _ _ _ _ _ _ _ _ _ _ _ _ _ _ _ _ _ _ _ _ _ _ _ _ _ _ _ _ _ _ _ _ _ _ _ _ _ _ _ _ _ _ _ _ _ _ _ _ _ _ _ _ _ _ _ _ _ _ _ _ _ _ _ _ _ _ _ _ _ _ _ _ _ _ _ _ _ _ _ _ _ _ _ _ _ _ _ _ _ _ _ _ _ _ _ _ _ _ _ _ _ _ _ _ _ _ _ _ _ _ _ _ _ _ _ _ u hn
end Go.Proofs.YtmfjakieahkacaaGreatDoor
namespace Go.Proofs.YtmfjakieahkacaaGreatDoor
open Go.Conc Go.ConcN Go.RowKit Go.Conc.Lib Go.ConcR.Gen Go.ConcN.Gen
structure AA (W w:World):Prop where
 os:w.os=W.os
 output:w.output=W.output
 size:W.heap.size<=w.heap.size
 block:∀k,k<W.heap.size->w.heap[k]?=W.heap[k]?
theorem AA.at{W w:World}(h:AA W w)(d:Nat):AA W (w.at d):=⟨h.os,h.output,h.size,h.block⟩
theorem YR(w:World)(τ:Nat->Question->Nat)(d:Nat):(E0 (λ_=>False) w τ d).heap=w.heap:=by
 apply Array.ext_getElem?
 intro b;show (pz (λ_=>False) w).heap[b]?=_
 rw[Cz];cases w.heap[b]? with
 | none=>rfl
 | some o=>simp[BQ]
theorem L8.bel{W0 V:World}{F:World->Prop}{X:Nat->Prop}{Shun:Loc->Prop}(h:L8 (λ_=>False) W0 F X Shun V):AA W0 V:=by
 have hb:=h.low (λ_ _=>0) 0;refine⟨hb.os,hb.output,h.size,λk hk=>?_⟩;have h1:(pz X V).heap[k]?=(E0 (λ_=>False) W0 (λ_ _=>0) 0).heap[k]?:=hb.block k hk;rw[YR,Cz] at h1
 have hx:¬X k:=λhx=>by
  rcases h.far k hx with h|h
  ·exact h
  ·omega
 rw[← h1];cases V.heap[k]? with
 | none=>rfl
 | some o=>simp[BQ,hx]
section
variable {W0:World} {Shun:Loc->Prop} {gs:Array Goroutine} {sl:Option (Nat×Nat)} {t:Trace} {V:World}
theorem Qt{a:Act}{todo:List Item}(hh:K1 Tryz.prog Shun gs (G {bK.at a todo with mode:=.returning} []) t)(hd:a.defers=[])(h2:a.tmps.getD 2 undef=.bool true)(hB:AA W0 V):G4 Tryz.prog (λv w=>v=.bool true/\AA W0 w) (crowd gs V sl) t:=by
 obtain⟨T,rfl⟩:∃T,a=⟨T,[]⟩:=⟨a.tmps,by cases a;simp only at hd;subst hd;rfl⟩;refine VD hh rfl (v:=.bool true) (λx=>?_) λd=>⟨rfl,hB.at d⟩;have hr:=results_tmp (fn:=Tryz.f3) (t:=2) rfl T Tryz.prog x;have he:=events_results_tmp (P:=Tryz.prog) (w:=x) (fn:=Tryz.f3) (t:=2) rfl T;rw[show T.getD 2 undef=.bool true from h2] at hr;simp[G,stepG,unwind,doReturn,Frame.at,hr,he,seen,GStep.after,bK,base]
theorem AbV{X:Nat->Prop}{x:Option Addr}{n k:Nat}(hn:1048576<n)(hI:L8 (λ_=>False) W0 (λ_=>True) X Shun V)(hh:K1 Tryz.prog Shun gs (G (bK.at ⟨NL (.slice x n k),[]⟩ [.code (tK 0)]) []) t):G4 Tryz.prog (λv w=>v=.bool true/\AA W0 w) (crowd gs V sl) t:=by
 rw[Adb] at hh;refine FT (l:=[pK 0]) R9 (λr hr=>NM r (by simp at hr;subst hr;simp)) Gq rfl ND hI (G':=λa _=>∃T,a=⟨T,[]⟩/\P5 123 T [(0,.slice x n k)]) (λ_ _ _ _ h=>h) (λu _=>AbU u) hh λgs V sl t a hh hd hI=>?_;obtain⟨T,rfl,hT⟩:=(hI.hold (λ_ _=>0) 0).2;refine O9 hh rfl (λw=>stepG_seq) λgs sl t dd hh=>?_;replace hI:=(hI.at dd).mono (F':=λ_=>True) λ_ _=>trivial;refine LE R9 (NM (pK 1) (by simp)) Gq rfl ND hI (G':=λa _=>a.tmps.getD 2 undef=.bool true) (λ_ _ _ _ h=>h) (λu _=>Aec u hT hn) hh λgs V sl t a todo hh hd hI=>?_;exact Qt hh hd (hI.hold (λ_ _=>0) 0).2 hI.bel
end
end Go.Proofs.YtmfjakieahkacaaGreatDoor
namespace Go.Proofs.YtmfjakieahkacaaGreatDoor
open Go.Conc Go.RowKit
noncomputable def Eg:Array Oper:=match tK 3 with | .seq (.region _ o _) _=>o|_=>#[]
theorem tK3:tK 3=.seq (.region 4 Eg false) (tK 4):=rfl
theorem AbW:Eg.size=10:=rfl
theorem Aed:∃o,Eg[0]?=some o/\(o.op=.load 26 (.tmp 3))/\o.dst=some 22/\o.guard=none:=⟨_,rfl,rfl,rfl,rfl⟩
theorem Aee:∃o,Eg[1]?=some o/\(o.op=.move (.tmp 4))/\o.dst=some 23/\o.guard=none:=⟨_,rfl,rfl,rfl,rfl⟩
theorem Aef:∃o,Eg[2]?=some o/\(o.op=.move (.tmp 5))/\o.dst=some 24/\o.guard=none:=⟨_,rfl,rfl,rfl,rfl⟩
theorem Aeg:∃o,Eg[3]?=some o/\(∃ats,o.op=.call {callee:=.value (.func 5),args:=#[.tmp 22,.tmp 23,.tmp 24],argTypes:=ats})/\o.dst=some 25/\o.guard=none:=⟨_,rfl,⟨_,rfl⟩,rfl,rfl⟩
theorem Aeh:U2 Tryz.prog (λg=>EN.contains g) (.inRegion Eg [4,5,6,7,8,9]):=Io (by kernel_rfl)
def QB(x3:Nat)(nm:ByteArray)(lv cv:Value)(uv:List Value)(a:Act)(u:World):Prop:=∃T x6,a=⟨T,[]⟩/\P5 123 T [(3,.pointer (some ⟨x3,0,none⟩)),(4,.string nm),(5,lv),(6,.pointer (some ⟨x6,0,none⟩)),(7,cv)]/\CB u x6 uv
section
variable {x3:Nat} {nm:ByteArray} {lv:Value} {c:Int} {bk:Bk} {i1 i2:Option Addr} {j1 j2:Nat}
theorem Rm(v0 v1 v2 v6 v7 v8 v9 v10 v11 v12 v13 v14 v15 v16 v17 v18 v19 v20 v21 v22 v23 v24 v26 v27 v28 v29 v30 v31 v32 v33 v34 v35 v36 v37 v38 v39 v40 v41 v42 v43 v44 v45 v46 v47 v48 v49 v50 v51 v52 v53 v54 v55 v56 v57 v58 v59 v60 v61 v62 v63 v64 v65 v66 v67 v68 v69 v70 v71 v72 v73 v74 v75 v76 v77 v78 v79 v80 v81 v82 v83 v84 v85 v86 v87 v88 v89 v90 v91 v92 v93 v94 v95 v96 v97 v98 v99 v100 v101 v102 v103 v104 v105 v106 v107 v108 v109 v110 v111 v112 v113 v114 v115 v116 v117 v118 v119 v120 v121 v122:Value)(u:World){Q:Exit->Act->World->Prop}(HN:Hid (∀(T:Array Value)(u':World),P5 123 T [(3,.pointer (some ⟨x3,0,none⟩)),(4,.string nm),(5,lv),(6,.pointer (some ⟨u.heap.size,0,none⟩)),(7,.int .i64 c)]->CB u' u.heap.size [.slice i1 bk.tg.length j1,.slice i2 bk.bs.length j2]->Below u.heap.size u u'->Q .normal ⟨T,[]⟩ u')):wpOps Tryz.prog Eg Q [4,5,6,7,8,9] ⟨#[v0,v1,v2,.pointer (some ⟨x3,0,none⟩),.string nm,lv,v6,v7,v8,v9,v10,v11,v12,v13,v14,v15,v16,v17,v18,v19,v20,v21,v22,v23,v24,.tuple #[.agg #[.slice i1 bk.tg.length j1,.slice i2 bk.bs.length j2],.int .i64 c],v26,v27,v28,v29,v30,v31,v32,v33,v34,v35,v36,v37,v38,v39,v40,v41,v42,v43,v44,v45,v46,v47,v48,v49,v50,v51,v52,v53,v54,v55,v56,v57,v58,v59,v60,v61,v62,v63,v64,v65,v66,v67,v68,v69,v70,v71,v72,v73,v74,v75,v76,v77,v78,v79,v80,v81,v82,v83,v84,v85,v86,v87,v88,v89,v90,v91,v92,v93,v94,v95,v96,v97,v98,v99,v100,v101,v102,v103,v104,v105,v106,v107,v108,v109,v110,v111,v112,v113,v114,v115,v116,v117,v118,v119,v120,v121,v122],[]⟩ u:=by
 obtain⟨W3,hW3,kX,hb3,hs3⟩:=cbE1 u [.slice i1 bk.tg.length j1,.slice i2 bk.bs.length j2] 26;rw[show ([4,5,6,7,8,9]:List Nat)=List.range' 4 (Eg.toList.drop 4).length from rfl];refine Im ?_;simp only[Eg,tK,Gp,Cg,Tryz.f3,Option.getD_some,List.drop_succ_cons,List.drop_zero];clear hs3;go_wp2_with fail;try rw[hW3]
 refine HN.out _ _ ⟨rfl,?_⟩ kX hb3;intro p hp;simp only[List.mem_cons,List.not_mem_nil,or_false] at hp;rcases hp with rfl|rfl|rfl|rfl|rfl<;>rfl
end
def QS(l:List (Nat×Value))(a:Act)(_:World):Prop:=∃T,a=⟨T,[]⟩/\P5 123 T l
theorem LH(l:List (Nat×Value))(a:Act):P4 (QS l a):=λ_ _ _ h=>h
section
variable {b bk:Bk} {nm:ByteArray} {ls:List ByteArray} {x3 x6:Nat} {a1 a2 i1 i2 la:Option Addr} {c1 c2 j1 j2 lc:Nat} {c:Int}
theorem Aa1(v0 v1 v2 v8 v9 v10 v11 v12 v13 v14 v15 v16 v17 v18 v19 v20 v21 v22 v23 v24 v25 v26 v27 v28 v29 v30 v31 v32 v33 v34 v35 v36 v37 v38 v39 v40 v41 v42 v43 v44 v45 v46 v47 v48 v49 v50 v51 v52 v53 v54 v55 v56 v57 v58 v59 v60 v61 v62 v63 v64 v65 v66 v67 v68 v69 v70 v71 v72 v73 v74 v75 v76 v77 v78 v79 v80 v81 v82 v83 v84 v85 v86 v87 v88 v89 v90 v91 v92 v93 v94 v95 v96 v97 v98 v99 v100 v101 v102 v103 v104 v105 v106 v107 v108 v109 v110 v111 v112 v113 v114 v115 v116 v117 v118 v119 v120 v121 v122:Value)(u:World)(kA:CB u x3 [.slice a1 b.tg.length c1,.slice a2 b.bs.length c2])(kX:CB u x6 [.slice i1 bk.tg.length j1,.slice i2 bk.bs.length j2])(hb:K0 u (.agg #[.slice a1 b.tg.length c1,.slice a2 b.bs.length c2]) b)(hx:K0 u (.agg #[.slice i1 bk.tg.length j1,.slice i2 bk.bs.length j2]) bk)(hl:Ls u (.slice la ls.length lc) ls)(hn:ls.length<=101)(hc:c=Y3 b nm ls)(hbk:bk=Az b nm ls):
  Bb Tryz.prog [pK 4,pK 5] (λe a u'=>e=.normal/\QS [(3,.pointer (some ⟨x3,0,none⟩)),(4,.string nm),(5,.slice la ls.length lc),(6,.pointer (some ⟨x6,0,none⟩)),(7,.int .i64 c)] a u'/\Below u.heap.size u u') ⟨#[v0,v1,v2,.pointer (some ⟨x3,0,none⟩),.string nm,.slice la ls.length lc,.pointer (some ⟨x6,0,none⟩),.int .i64 c,v8,v9,v10,v11,v12,v13,v14,v15,v16,v17,v18,v19,v20,v21,v22,v23,v24,v25,v26,v27,v28,v29,v30,v31,v32,v33,v34,v35,v36,v37,v38,v39,v40,v41,v42,v43,v44,v45,v46,v47,v48,v49,v50,v51,v52,v53,v54,v55,v56,v57,v58,v59,v60,v61,v62,v63,v64,v65,v66,v67,v68,v69,v70,v71,v72,v73,v74,v75,v76,v77,v78,v79,v80,v81,v82,v83,v84,v85,v86,v87,v88,v89,v90,v91,v92,v93,v94,v95,v96,v97,v98,v99,v100,v101,v102,v103,v104,v105,v106,v107,v108,v109,v110,v111,v112,v113,v114,v115,v116,v117,v118,v119,v120,v121,v122],[]⟩ u:=by
 have Hsz:Hid (Bh bk):=hx.szb;have Hc:Hid (c=Y3 b nm ls):=hc;have Hbk:Hid (bk=Az b nm ls):=hbk;clear hc hbk;simp only[pK,GA,Cg,Tryz.f3,Option.getD_some];obtain⟨e0,e1⟩:=kA.c2';apply Y1;intro K hK
 go_wp2_with fail;refine (JZ b _ _ nm ls u hb hl (by omega)).mono ?_;rintro e w2 ⟨⟨v',cd,b',rfl,his,hW⟩,hb2⟩;obtain⟨q1,q2⟩:=Aar his;have hcd:c=cd:=Hc.out.trans q1.symm;have hbb:bk=b':=Hbk.out.trans q2.symm;clear q1 q2 his;subst hcd hbb;have hbw:=hW.bk Hsz.out;obtain⟨a3,d3,a4,d4,rfl,-,-⟩:=hbw.parts;obtain⟨W3,hW3,kY,hb3,hs3⟩:=cbE1 w2 [.slice a3 bk.tg.length d3,.slice a4 bk.bs.length d4] 26;have hB3:=D1 hb2 hb3;have hx3:=hx.up hB3;have hy3:=hbw.up hb3;have kX3:=kX.up hB3 kX.2.2;clear hs3 hW hbw e0 e1 hb hl kA;go_wp2_with fail;try rw[hW3]
 clear hW3
 (try clear hK;try clear K)
 obtain⟨f0,f1⟩:=kX3.c2';obtain⟨g0,g1⟩:=kY.c2';have hcc:(c != c)=false:=by simp
 apply Y1;intro K hK
 go_wp2_with fail;refine (Ii bk _ _ _ hx3 hy3).mono ?_;rintro e w4 ⟨rfl,hb4⟩;have hB4:=D1 hB3 hb4;go_wp2_with fail;refine⟨rfl,⟨_,rfl,rfl,?_⟩,hB4⟩;intro p hp;simp only[List.mem_cons,List.not_mem_nil,or_false] at hp;rcases hp with rfl|rfl|rfl|rfl|rfl<;>rfl
theorem AbX{T:Array Value}(u:World)(hT:P5 123 T [(3,.pointer (some ⟨x3,0,none⟩)),(4,.string nm),(5,.slice la ls.length lc),(6,.pointer (some ⟨x6,0,none⟩)),(7,.int .i64 c)])(kA:CB u x3 [.slice a1 b.tg.length c1,.slice a2 b.bs.length c2])(kX:CB u x6 [.slice i1 bk.tg.length j1,.slice i2 bk.bs.length j2])(hb:K0 u (.agg #[.slice a1 b.tg.length c1,.slice a2 b.bs.length c2]) b)(hx:K0 u (.agg #[.slice i1 bk.tg.length j1,.slice i2 bk.bs.length j2]) bk)(hl:Ls u (.slice la ls.length lc) ls)(hn:ls.length<=101)(hc:c=Y3 b nm ls)(hbk:bk=Az b nm ls):
  Bb Tryz.prog [pK 4,pK 5] (λe a u'=>e=.normal/\QS [(3,.pointer (some ⟨x3,0,none⟩)),(4,.string nm),(5,.slice la ls.length lc),(6,.pointer (some ⟨x6,0,none⟩)),(7,.int .i64 c)] a u'/\Below u.heap.size u u') ⟨T,[]⟩ u:=by
 rw[FV T hT.1,K2 hT 3 (.pointer (some ⟨x3,0,none⟩)) (by simp),K2 hT 4 (.string nm) (by simp),K2 hT 5 (.slice la ls.length lc) (by simp),K2 hT 6 (.pointer (some ⟨x6,0,none⟩)) (by simp),K2 hT 7 (.int .i64 c) (by simp)];exact Aa1 _ _ _ _ _ _ _ _ _ _ _ _ _ _ _ _ _ _ _ _ _ _ _ _ _ _ _ _ _ _ _ _ _ _ _ _ _ _ _ _ _ _ _ _ _ _ _ _ _ _ _ _ _ _ _ _ _ _ _ _ _ _ _ _ _ _ _ _ _ _ _ _ _ _ _ _ _ _ _ _ _ _ _ _ _ _ _ _ _ _ _ _ _ _ _ _ _ _ _ _ _ _ _ _ _ _ _ _ _ _ _ _ _ _ _ _ _ _ u kA kX hb hx hl hn hc hbk
theorem AbY(v0 v1 v2 v8 v9 v10 v11 v12 v13 v14 v15 v16 v17 v18 v19 v20 v21 v22 v23 v24 v25 v26 v27 v28 v29 v30 v31 v32 v33 v34 v35 v36 v37 v38 v39 v40 v41 v42 v43 v44 v45 v46 v47 v48 v49 v50 v51 v52 v53 v54 v55 v56 v57 v58 v59 v60 v61 v62 v63 v64 v65 v66 v67 v68 v69 v70 v71 v72 v73 v74 v75 v76 v77 v78 v79 v80 v81 v82 v83 v84 v85 v86 v87 v88 v89 v90 v91 v92 v93 v94 v95 v96 v97 v98 v99 v100 v101 v102 v103 v104 v105 v106 v107 v108 v109 v110 v111 v112 v113 v114 v115 v116 v117 v118 v119 v120 v121 v122:Value)(u:World)(hc:c≠1):(pK 6).wp Tryz.prog (λe a u'=>e=.normal/\QS [(3,.pointer (some ⟨x3,0,none⟩)),(4,.string nm),(5,.slice la ls.length lc),(6,.pointer (some ⟨x6,0,none⟩)),(7,.int .i64 c)] a u'/\Below u.heap.size u u') ⟨#[v0,v1,v2,.pointer (some ⟨x3,0,none⟩),.string nm,.slice la ls.length lc,.pointer (some ⟨x6,0,none⟩),.int .i64 c,v8,v9,v10,v11,v12,v13,v14,v15,v16,v17,v18,v19,v20,v21,v22,v23,v24,v25,v26,v27,v28,v29,v30,v31,v32,v33,v34,v35,v36,v37,v38,v39,v40,v41,v42,v43,v44,v45,v46,v47,v48,v49,v50,v51,v52,v53,v54,v55,v56,v57,v58,v59,v60,v61,v62,v63,v64,v65,v66,v67,v68,v69,v70,v71,v72,v73,v74,v75,v76,v77,v78,v79,v80,v81,v82,v83,v84,v85,v86,v87,v88,v89,v90,v91,v92,v93,v94,v95,v96,v97,v98,v99,v100,v101,v102,v103,v104,v105,v106,v107,v108,v109,v110,v111,v112,v113,v114,v115,v116,v117,v118,v119,v120,v121,v122],[]⟩ u:=by
 have hd:(c==1)=false:=by simpa using hc
 simp only[pK,GA,Cg,Tryz.f3,Option.getD_some];apply Gr
 intro K hK;go_wp2_with fail;refine⟨⟨_,rfl,rfl,?_⟩,A4 _ _⟩;intro p hp;simp only[List.mem_cons,List.not_mem_nil,or_false] at hp;rcases hp with rfl|rfl|rfl|rfl|rfl<;>rfl
theorem Adf{T:Array Value}(u:World)(hT:P5 123 T [(3,.pointer (some ⟨x3,0,none⟩)),(4,.string nm),(5,.slice la ls.length lc),(6,.pointer (some ⟨x6,0,none⟩)),(7,.int .i64 c)])(hc:c≠1):(pK 6).wp Tryz.prog (λe a u'=>e=.normal/\QS [(3,.pointer (some ⟨x3,0,none⟩)),(4,.string nm),(5,.slice la ls.length lc),(6,.pointer (some ⟨x6,0,none⟩)),(7,.int .i64 c)] a u'/\Below u.heap.size u u') ⟨T,[]⟩ u:=by
 rw[FV T hT.1,K2 hT 3 (.pointer (some ⟨x3,0,none⟩)) (by simp),K2 hT 4 (.string nm) (by simp),K2 hT 5 (.slice la ls.length lc) (by simp),K2 hT 6 (.pointer (some ⟨x6,0,none⟩)) (by simp),K2 hT 7 (.int .i64 c) (by simp)];exact AbY _ _ _ _ _ _ _ _ _ _ _ _ _ _ _ _ _ _ _ _ _ _ _ _ _ _ _ _ _ _ _ _ _ _ _ _ _ _ _ _ _ _ _ _ _ _ _ _ _ _ _ _ _ _ _ _ _ _ _ _ _ _ _ _ _ _ _ _ _ _ _ _ _ _ _ _ _ _ _ _ _ _ _ _ _ _ _ _ _ _ _ _ _ _ _ _ _ _ _ _ _ _ _ _ _ _ _ _ _ _ _ _ _ _ _ _ _ _ u hc
theorem AbZ(v0 v1 v2 v3 v4 v5 v8 v9 v10 v11 v12 v13 v14 v15 v16 v17 v18 v19 v20 v21 v22 v23 v24 v25 v26 v27 v28 v29 v30 v31 v32 v33 v34 v35 v36 v37 v38 v39 v40 v41 v42 v43 v44 v45 v46 v47 v48 v49 v50 v51 v52 v53 v54 v55 v56 v57 v58 v59 v60 v61 v62 v63 v64 v65 v66 v67 v68 v69 v70 v71 v72 v73 v74 v75 v76 v77 v78 v79 v80 v81 v82 v83 v84 v85 v86 v87 v88 v89 v90 v91 v92 v93 v94 v95 v96 v97 v98 v99 v100 v101 v102 v103 v104 v105 v106 v107 v108 v109 v110 v111 v112 v113 v114 v115 v116 v117 v118 v119 v120 v121 v122:Value)(u:World)(kX:CB u x6 [.slice i1 bk.tg.length j1,.slice i2 bk.bs.length j2])(hx:K0 u (.agg #[.slice i1 bk.tg.length j1,.slice i2 bk.bs.length j2]) S7):(pK 6).wp Tryz.prog (λe a u'=>e=.ret/\a.tmps.getD 2 undef=.bool true/\Below u.heap.size u u') ⟨#[v0,v1,v2,v3,v4,v5,.pointer (some ⟨x6,0,none⟩),.int .i64 1,v8,v9,v10,v11,v12,v13,v14,v15,v16,v17,v18,v19,v20,v21,v22,v23,v24,v25,v26,v27,v28,v29,v30,v31,v32,v33,v34,v35,v36,v37,v38,v39,v40,v41,v42,v43,v44,v45,v46,v47,v48,v49,v50,v51,v52,v53,v54,v55,v56,v57,v58,v59,v60,v61,v62,v63,v64,v65,v66,v67,v68,v69,v70,v71,v72,v73,v74,v75,v76,v77,v78,v79,v80,v81,v82,v83,v84,v85,v86,v87,v88,v89,v90,v91,v92,v93,v94,v95,v96,v97,v98,v99,v100,v101,v102,v103,v104,v105,v106,v107,v108,v109,v110,v111,v112,v113,v114,v115,v116,v117,v118,v119,v120,v121,v122],[]⟩ u:=by
 obtain⟨f0,f1⟩:=kX.c2';have hz:K0 u (.agg #[.slice none 0 0,.slice none 0 0]) S7:=(FF u 0).bk Ek;simp only[pK,GA,Cg,Tryz.f3,Option.getD_some];apply Gr
 intro K hK;go_wp2_with fail;refine (Ii S7 _ _ _ hx hz).mono ?_;rintro e w4 ⟨rfl,hb4⟩;go_wp2_with fail
theorem Adg{T:Array Value}(u:World)(hT:P5 123 T [(6,.pointer (some ⟨x6,0,none⟩)),(7,.int .i64 1)])(kX:CB u x6 [.slice i1 bk.tg.length j1,.slice i2 bk.bs.length j2])(hx:K0 u (.agg #[.slice i1 bk.tg.length j1,.slice i2 bk.bs.length j2]) S7):(pK 6).wp Tryz.prog (λe a u'=>e=.ret/\a.tmps.getD 2 undef=.bool true/\Below u.heap.size u u') ⟨T,[]⟩ u:=by
 rw[FV T hT.1,K2 hT 6 (.pointer (some ⟨x6,0,none⟩)) (by simp),K2 hT 7 (.int .i64 1) (by simp)];exact AbZ _ _ _ _ _ _ _ _ _ _ _ _ _ _ _ _ _ _ _ _ _ _ _ _ _ _ _ _ _ _ _ _ _ _ _ _ _ _ _ _ _ _ _ _ _ _ _ _ _ _ _ _ _ _ _ _ _ _ _ _ _ _ _ _ _ _ _ _ _ _ _ _ _ _ _ _ _ _ _ _ _ _ _ _ _ _ _ _ _ _ _ _ _ _ _ _ _ _ _ _ _ _ _ _ _ _ _ _ _ _ _ _ _ _ _ _ _ _ _ _ _ u kX hx
end
noncomputable def Qu:Code:=match tK 7 with | .seq (.seq r _) _=>r|_=>.skip
noncomputable def WF:Code:=match tK 7 with | .seq (.seq _ (.cond _ (.seq l _) _)) _=>l|_=>.skip
noncomputable def Af:Array Oper:=match tK 7 with | .seq (.seq _ (.cond _ (.seq _ (.seq (.region _ o _) _)) _)) _=>o|_=>#[]
theorem tK7:tK 7=.seq (.seq Qu (.cond (.tmp 50) (.seq WF (.seq (.region 16 Af false) .ret)) .skip)) (tK 8):=rfl
noncomputable def O8:Array Oper:=match tK 8 with | .seq (.seq (.region _ o _) _) _=>o|_=>#[]
theorem tK8:∃x,tK 8=.seq (.seq (.region 17 O8 false) (.cond (.tmp 97) x .skip)) (tK 9):=⟨_,rfl⟩
theorem tK9:tK 9=.seq (pK 9) (tK 10):=rfl
theorem Adh:N7 Tryz.prog (λg=>EN.contains g) Qu=true:=by kernel_rfl
theorem Adi:N7 Tryz.prog (λg=>EN.contains g) WF=true:=by kernel_rfl
theorem Aei:N7 Tryz.prog (λg=>EN.contains g) (tK 10)=true:=by kernel_rfl
section
variable {nm:ByteArray} {ls:List ByteArray} {x3 x6:Nat} {la:Option Addr} {lc:Nat} {c:Int}
theorem Aca(v0 v1 v2 v8 v9 v10 v11 v12 v13 v14 v15 v16 v17 v18 v19 v20 v21 v22 v23 v24 v25 v26 v27 v28 v29 v30 v31 v32 v33 v34 v35 v36 v37 v38 v39 v40 v41 v42 v43 v44 v45 v46 v47 v48 v49 v50 v51 v52 v53 v54 v55 v56 v57 v58 v59 v60 v61 v62 v63 v64 v65 v66 v67 v68 v69 v70 v71 v72 v73 v74 v75 v76 v77 v78 v79 v80 v81 v82 v83 v84 v85 v86 v87 v88 v89 v90 v91 v92 v93 v94 v95 v96 v97 v98 v99 v100 v101 v102 v103 v104 v105 v106 v107 v108 v109 v110 v111 v112 v113 v114 v115 v116 v117 v118 v119 v120 v121 v122:Value)(u:World)(t:Bool)(ht:(c==0)=t):Qu.wp Tryz.prog (λe a u'=>e=.normal/\QS ((50,.bool t)::[(3,.pointer (some ⟨x3,0,none⟩)),(4,.string nm),(5,.slice la ls.length lc),(6,.pointer (some ⟨x6,0,none⟩)),(7,.int .i64 c)]) a u'/\Below u.heap.size u u') ⟨#[v0,v1,v2,.pointer (some ⟨x3,0,none⟩),.string nm,.slice la ls.length lc,.pointer (some ⟨x6,0,none⟩),.int .i64 c,v8,v9,v10,v11,v12,v13,v14,v15,v16,v17,v18,v19,v20,v21,v22,v23,v24,v25,v26,v27,v28,v29,v30,v31,v32,v33,v34,v35,v36,v37,v38,v39,v40,v41,v42,v43,v44,v45,v46,v47,v48,v49,v50,v51,v52,v53,v54,v55,v56,v57,v58,v59,v60,v61,v62,v63,v64,v65,v66,v67,v68,v69,v70,v71,v72,v73,v74,v75,v76,v77,v78,v79,v80,v81,v82,v83,v84,v85,v86,v87,v88,v89,v90,v91,v92,v93,v94,v95,v96,v97,v98,v99,v100,v101,v102,v103,v104,v105,v106,v107,v108,v109,v110,v111,v112,v113,v114,v115,v116,v117,v118,v119,v120,v121,v122],[]⟩ u:=by
 simp only[Qu,tK,Gp,Cg,Tryz.f3,Option.getD_some];apply Gr
 intro K hK;go_wp2_with fail
 first
  | refine⟨⟨_,rfl,rfl,?_⟩,A4 _ _⟩
  | refine⟨rfl,⟨_,rfl,rfl,?_⟩,A4 _ _⟩
 intro p hp;simp only[List.mem_cons,List.not_mem_nil,or_false] at hp;rcases hp with rfl|rfl|rfl|rfl|rfl|rfl<;>rfl
theorem Adj{T:Array Value}(u:World)(hT:P5 123 T [(3,.pointer (some ⟨x3,0,none⟩)),(4,.string nm),(5,.slice la ls.length lc),(6,.pointer (some ⟨x6,0,none⟩)),(7,.int .i64 c)])(t:Bool)(ht:(c==0)=t):Qu.wp Tryz.prog (λe a u'=>e=.normal/\QS ((50,.bool t)::[(3,.pointer (some ⟨x3,0,none⟩)),(4,.string nm),(5,.slice la ls.length lc),(6,.pointer (some ⟨x6,0,none⟩)),(7,.int .i64 c)]) a u'/\Below u.heap.size u u') ⟨T,[]⟩ u:=by
 rw[FV T hT.1,K2 hT 3 (.pointer (some ⟨x3,0,none⟩)) (by simp),K2 hT 4 (.string nm) (by simp),K2 hT 5 (.slice la ls.length lc) (by simp),K2 hT 6 (.pointer (some ⟨x6,0,none⟩)) (by simp),K2 hT 7 (.int .i64 c) (by simp)];exact Aca _ _ _ _ _ _ _ _ _ _ _ _ _ _ _ _ _ _ _ _ _ _ _ _ _ _ _ _ _ _ _ _ _ _ _ _ _ _ _ _ _ _ _ _ _ _ _ _ _ _ _ _ _ _ _ _ _ _ _ _ _ _ _ _ _ _ _ _ _ _ _ _ _ _ _ _ _ _ _ _ _ _ _ _ _ _ _ _ _ _ _ _ _ _ _ _ _ _ _ _ _ _ _ _ _ _ _ _ _ _ _ _ _ _ _ _ _ _ u t ht
theorem Adk(v0 v1 v2 v3 v4 v5 v6 v7 v8 v9 v10 v11 v12 v13 v14 v15 v16 v17 v18 v19 v20 v21 v22 v23 v24 v25 v26 v27 v28 v29 v30 v31 v32 v33 v34 v35 v36 v37 v38 v39 v40 v41 v42 v43 v44 v45 v46 v47 v48 v49 v50 v51 v52 v53 v54 v55 v56 v57 v58 v59 v60 v61 v62 v63 v64 v65 v66 v67 v68 v69 v70 v71 v72 v73 v74 v75 v76 v77 v78 v79 v80 v81 v82 v83 v84 v85 v86 v87 v88 v89 v90 v91 v92 v93 v94 v95 v96 v97 v98 v99 v100 v101 v102 v103 v104 v105 v106 v107 v108 v109 v110 v111 v112 v113 v114 v115 v116 v117 v118 v119 v120 v121 v122:Value)(u:World):(tK 10).wp Tryz.prog (λe a u'=>e=.ret/\a.tmps.getD 2 undef=.bool true/\Below u.heap.size u u') ⟨#[v0,v1,v2,v3,v4,v5,v6,v7,v8,v9,v10,v11,v12,v13,v14,v15,v16,v17,v18,v19,v20,v21,v22,v23,v24,v25,v26,v27,v28,v29,v30,v31,v32,v33,v34,v35,v36,v37,v38,v39,v40,v41,v42,v43,v44,v45,v46,v47,v48,v49,v50,v51,v52,v53,v54,v55,v56,v57,v58,v59,v60,v61,v62,v63,v64,v65,v66,v67,v68,v69,v70,v71,v72,v73,v74,v75,v76,v77,v78,v79,v80,v81,v82,v83,v84,v85,v86,v87,v88,v89,v90,v91,v92,v93,v94,v95,v96,v97,v98,v99,v100,v101,v102,v103,v104,v105,v106,v107,v108,v109,v110,v111,v112,v113,v114,v115,v116,v117,v118,v119,v120,v121,v122],[]⟩ u:=by
 simp only[tK,Gp,Cg,Tryz.f3,Option.getD_some];apply Gr
 intro K hK;go_wp2_with fail;exact A4 _ _
theorem Aej{T:Array Value}(u:World)(hT:T.size=123):(tK 10).wp Tryz.prog (λe a u'=>e=.ret/\a.tmps.getD 2 undef=.bool true/\Below u.heap.size u u') ⟨T,[]⟩ u:=by
 rw[FV T hT];exact Adk _ _ _ _ _ _ _ _ _ _ _ _ _ _ _ _ _ _ _ _ _ _ _ _ _ _ _ _ _ _ _ _ _ _ _ _ _ _ _ _ _ _ _ _ _ _ _ _ _ _ _ _ _ _ _ _ _ _ _ _ _ _ _ _ _ _ _ _ _ _ _ _ _ _ _ _ _ _ _ _ _ _ _ _ _ _ _ _ _ _ _ _ _ _ _ _ _ _ _ _ _ _ _ _ _ _ _ _ _ _ _ _ _ _ _ _ _ _ _ _ _ _ _ u
end
theorem Ip{P:Program}{c:Code}{K:Act->World->Prop}{Q:Exit->Act->World->Prop}{a:Act}{w:World}(h:c.wp P (Exit.then K λ_ _ _=>False) a w):c.wp P (Exit.then K Q) a w :=
 Code.wp_mono (λe _ _ he=>by cases e<;>first|exact he|exact he.elim) h
section
variable {bk:Bk} {nm:ByteArray} {ls:List ByteArray} {x3 x6:Nat} {i1 i2 la:Option Addr} {j1 j2 lc:Nat} {c:Int}
theorem Acb(v0 v1 v2 v8 v9 v10 v11 v12 v13 v14 v15 v16 v17 v18 v19 v20 v21 v22 v23 v24 v25 v26 v27 v28 v29 v30 v31 v32 v33 v34 v35 v36 v37 v38 v39 v40 v41 v42 v43 v44 v45 v46 v47 v48 v49 v50 v51 v52 v53 v54 v55 v56 v57 v58 v59 v60 v61 v62 v63 v64 v65 v66 v67 v68 v69 v70 v71 v72 v73 v74 v75 v76 v77 v78 v79 v80 v81 v82 v83 v84 v85 v86 v87 v88 v89 v90 v91 v92 v93 v94 v95 v96 v97 v98 v99 v100 v101 v102 v103 v104 v105 v106 v107 v108 v109 v110 v111 v112 v113 v114 v115 v116 v117 v118 v119 v120 v121 v122:Value)(u:World)(kX:CB u x6 [.slice i1 bk.tg.length j1,.slice i2 bk.bs.length j2])(hx:K0 u (.agg #[.slice i1 bk.tg.length j1,.slice i2 bk.bs.length j2]) bk)(hl:Ls u (.slice la ls.length lc) ls)(hn:ls.length<=101)(hw:∀s∈ls,X5 bk s=nm):WF.wp Tryz.prog (λe a u'=>e=.normal/\QS [(3,.pointer (some ⟨x3,0,none⟩)),(4,.string nm),(5,.slice la ls.length lc),(6,.pointer (some ⟨x6,0,none⟩)),(7,.int .i64 c)] a u'/\Below u.heap.size u u') ⟨#[v0,v1,v2,.pointer (some ⟨x3,0,none⟩),.string nm,.slice la ls.length lc,.pointer (some ⟨x6,0,none⟩),.int .i64 c,v8,v9,v10,v11,v12,v13,v14,v15,v16,v17,v18,v19,v20,v21,v22,v23,v24,v25,v26,v27,v28,v29,v30,v31,v32,v33,v34,v35,v36,v37,v38,v39,v40,v41,v42,v43,v44,v45,v46,v47,v48,v49,v50,v51,v52,v53,v54,v55,v56,v57,v58,v59,v60,v61,v62,v63,v64,v65,v66,v67,v68,v69,v70,v71,v72,v73,v74,v75,v76,v77,v78,v79,v80,v81,v82,v83,v84,v85,v86,v87,v88,v89,v90,v91,v92,v93,v94,v95,v96,v97,v98,v99,v100,v101,v102,v103,v104,v105,v106,v107,v108,v109,v110,v111,v112,v113,v114,v115,v116,v117,v118,v119,v120,v121,v122],[]⟩ u:=by
 have Hw:Hid (∀s∈ls,X5 bk s=nm):=hw;obtain⟨-,hzs,hpos⟩:=hl.inv;have Hzs:Hid (∀s∈ls,s.size<=maxLen):=hzs;obtain⟨f0,f1⟩:=kX.c2';have hxl:=kX.2.2;clear hw hzs;simp only[WF,tK,Gp,Cg,Tryz.f3,Option.getD_some];apply Gr
 intro KK hKK;have HK:Hid _:=hKK;clear hKK;go_wp2_with fail;go_loopw [10] (λi w'=>∃k:Nat,k<=ls.length/\i=.int .i64 k/\Below u.heap.size u w') (λi _=>ls.length-(intOf i).toNat)
 case atStart=>exact⟨0,by omega,rfl,A4 _ _⟩
 case round =>
  obtain⟨k,hk,rfl,hB⟩:=hrel;by_cases hp:k<ls.length
  ·obtain⟨g,o,rfl,hS,hg⟩:=hpos (by omega);have c0:=hS.cell hp;have Hz:Hid ((ls[k]).size<=maxLen):=Hzs.out _ (by simp);have HW:Hid (X5 bk ls[k]=nm):=Hw.out _ (by simp);generalize ls[k]=s0 at *;have Mk:Hid (∀X,Below u.heap.size u X->(World.cell? X ⟨x6,0,none⟩=some (.slice i1 bk.tg.length j1)/\World.cell? X ⟨x6,1,none⟩=some (.slice i2 bk.bs.length j2)/\World.cell? X ⟨g,o+k,none⟩=some (.string s0))):=λX hX=>⟨(hX.cell (p:=⟨x6,0,none⟩) hxl).trans f0,(hX.cell (p:=⟨x6,1,none⟩) hxl).trans f1,(hX.cell (p:=⟨g,o+k,none⟩) hg).trans c0⟩;clear c0 f0 f1 hS hpos;go_upto_region 14 with fail;go_cut [64] from 51 to 64 (λv64 wc=>v64=.bool false/\Below u.heap.size u wc)
   case first =>
    have hS1:=Mk.out wr.drew hB.drew;have hh:(nm.toList != nm.toList)=false:=by simp
    refine Ip (M4 99 (λw'=>(World.cell? w' ⟨x6,0,none⟩=some (.slice i1 bk.tg.length j1)/\World.cell? w' ⟨x6,1,none⟩=some (.slice i2 bk.bs.length j2)/\World.cell? w' ⟨g,o+k,none⟩=some (.string s0))) (by kernel_rfl) ?_);refine E6 0 rfl hS1 ?_;refine E6 1 rfl hS1 ?_;refine E6 2 rfl hS1 ?_;refine E6 3 rfl hS1 ?_;refine E6 4 rfl hS1 ?_;refine E6 6 rfl hS1 ?_;refine K4 5 rfl (λK hK=>?_);go_simp;go_wp2_with (go_at_call 8;refine (Mm bk _ _ _ (hx.up hB.drew) Hz.out).mono ?_;rintro e w5 ⟨rfl,hb5⟩;have hb5:=D1 hB.drew hb5;have hS5:=Mk.out _ hb5)
    rw[HW.out];refine K9 hK hS5 ?_;clear hK K;refine K4 7 rfl (λK hK=>?_);go_simp;refine K9 hK hS5 ?_;clear hK K;refine N2 (by kernel_rfl) ?_ _;clear hS1 hS5 Mk;go_wp2_with fail;go_meet
    case rel=>exact⟨rfl,hb5⟩
   case rest =>
    obtain⟨rfl,hbc⟩:=hcut;go_wp2_with fail;go_roundw
    case rel=>exact⟨k+1,by omega,by go_num,hbc⟩
    case measure=>simp[intOf];omega
  ·go_wp2_with fail;refine HK.out _ _ _ ⟨rfl,⟨_,rfl,rfl,?_⟩,hB⟩;intro p hp;simp only[List.mem_cons,List.not_mem_nil,or_false] at hp;rcases hp with rfl|rfl|rfl|rfl|rfl<;>rfl
theorem Adl{T:Array Value}(u:World)(hT:P5 123 T [(3,.pointer (some ⟨x3,0,none⟩)),(4,.string nm),(5,.slice la ls.length lc),(6,.pointer (some ⟨x6,0,none⟩)),(7,.int .i64 c)])(kX:CB u x6 [.slice i1 bk.tg.length j1,.slice i2 bk.bs.length j2])(hx:K0 u (.agg #[.slice i1 bk.tg.length j1,.slice i2 bk.bs.length j2]) bk)(hl:Ls u (.slice la ls.length lc) ls)(hn:ls.length<=101)(hw:∀s∈ls,X5 bk s=nm):WF.wp Tryz.prog (λe a u'=>e=.normal/\QS [(3,.pointer (some ⟨x3,0,none⟩)),(4,.string nm),(5,.slice la ls.length lc),(6,.pointer (some ⟨x6,0,none⟩)),(7,.int .i64 c)] a u'/\Below u.heap.size u u') ⟨T,[]⟩ u:=by
 rw[FV T hT.1,K2 hT 3 (.pointer (some ⟨x3,0,none⟩)) (by simp),K2 hT 4 (.string nm) (by simp),K2 hT 5 (.slice la ls.length lc) (by simp),K2 hT 6 (.pointer (some ⟨x6,0,none⟩)) (by simp),K2 hT 7 (.int .i64 c) (by simp)];exact Acb _ _ _ _ _ _ _ _ _ _ _ _ _ _ _ _ _ _ _ _ _ _ _ _ _ _ _ _ _ _ _ _ _ _ _ _ _ _ _ _ _ _ _ _ _ _ _ _ _ _ _ _ _ _ _ _ _ _ _ _ _ _ _ _ _ _ _ _ _ _ _ _ _ _ _ _ _ _ _ _ _ _ _ _ _ _ _ _ _ _ _ _ _ _ _ _ _ _ _ _ _ _ _ _ _ _ _ _ _ _ _ _ _ _ _ _ _ _ u kX hx hl hn hw
end
end Go.Proofs.YtmfjakieahkacaaGreatDoor
