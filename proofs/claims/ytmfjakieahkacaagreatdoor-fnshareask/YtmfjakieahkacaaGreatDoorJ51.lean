/- What the row's list gives: the errors package's handle of the type error; a world for the witness. -/
import Derived.Test.YtmfjakieahkacaaGreatDoorRows
import Derived.Test.YtmfjakieahkacaaGreatDoorJ14
import Derived.Test.YtmfjakieahkacaaGreatDoorJ33
import Derived.LaidHandle
import Derived.Test.YtmfjakieahkacaaGreatDoorJ50
import Derived.Test.YtmfjakieahkacaaGreatDoorLk7
namespace Go.Proofs.YtmfjakieahkacaaGreatDoor
open Go.ChangeShapes Go.WideShapes Go.ChangeAt Go.RowKit
theorem etN:Tryz.prog.globalNamed "errors.errorType"=some 0:=by kernel_rfl
theorem rtN:(Tryz.prog.cutTypes.find? (·.1 == "internal/reflectlite.rtype")).map (·.2)=some 155:=by kernel_rfl
theorem Acg:((List.range Tryz.prog.types.size).filter λt=>Tryz.prog.rowNamed t [101,114,114,111,114])=[74]:=by kernel_rfl
theorem Bf.of_laid{W:World}(h:laidMetH Tryz.prog [("errors.errorType",Rows.laid_errors_errorType)] W):Bf W:=by
 have h':laidMet Tryz.prog [] W/\handlesMet Tryz.prog [("errors.errorType",Rows.laid_errors_errorType)] W:=h;obtain⟨name,u,ty,e1,e2,e3,e4,e5⟩:=h'.2 _ (C7.2 rfl);have en:name=[101,114,114,111,114]:=(A5 e1).symm;subst en;obtain rfl:=A5 (rtN.symm.trans e2);have hm:ty∈(List.range Tryz.prog.types.size).filter λt=>Tryz.prog.rowNamed t [101,114,114,111,114]:=List.mem_filter.2 ⟨List.mem_range.2 e3,e4⟩;rw[Acg] at hm;obtain rfl:=C7.1 hm;have hh:typeHandle Tryz.prog 74=(Value.pointer (some ⟨1,74,none⟩)):=by kernel_rfl
 rw[hh] at e5;unfold Bf;simpa using World.var?_cell etN e5 0
noncomputable def Iq(os:Os):World :=
 {World.holding Tryz.prog os ⟨#[],#[],[]⟩ with heap:=(World.holding Tryz.prog os ⟨#[],#[],[]⟩).heap.modify 0 fun
   | .cells _ t frozen=>.cells #[(Value.iface 155 (.agg #[(Value.pointer (some ⟨1,74,none⟩))]))] t frozen
   | o=>o}
theorem WG(os:Os)(args:Array Value):laidMetH Tryz.prog [("errors.errorType",Rows.laid_errors_errorType)] ((Iq os).forCall (λ_ _=>0) ⟨#[],args,[]⟩).memory :=
 laidMetH_of_parts (laidMet_nil _ _) (by kernel_rfl)
end Go.Proofs.YtmfjakieahkacaaGreatDoor
namespace Go.Proofs.YtmfjakieahkacaaGreatDoor
open Go.Conc Go.ConcN Go.RowKit Go.Conc.Lib Go.ConcR.Gen Go.ConcN.Gen
theorem Au{ops:Array Oper}{T:Array Value}{o:Oper}{n j s:Nat}{t t':Bool}{l:List (Nat×Value)}(hg:o.guard=some (j,t))(hj:∃oj,ops[j]?=some oj/\oj.dst=some s)(hT:P5 n T l)(hm:(s,.bool t')∈l):Region.wanted o (yielded ops T)=(t'==t) :=
 let ⟨_,h1,h2⟩:=hj
 YE hg h1 h2 (hT.get s _ hm)
theorem Oj:∃oj,O8[4]?=some oj/\oj.dst=some 80:=⟨_,rfl,rfl⟩
theorem Gs:∃oj,O8[7]?=some oj/\oj.dst=some 83:=⟨_,rfl,rfl⟩
section
variable {W0:World} {X:Nat->Prop} {Shun:Loc->Prop} {gs:Array Goroutine} {sl:Option (Nat×Nat)} {t:Trace} {V:World} {T:Array Value} {b bk:Bk} {nm:ByteArray} {ls:List ByteArray} {x3 x6:Nat} {a1 a2 i1 i2 la:Option Addr} {c1 c2 j1 j2 lc:Nat} {c:Int} {k:List Item}
theorem Ael(hbk:bk=b)(hh:K1 Tryz.prog Shun gs (G (bK.at ⟨T,[]⟩ (.inRegion O8 [0,1,2,3,4,5,6,7,8,9,10,11,12,13,14,15,16,17,18,19,20,21]::k)) []) t)(hT:P5 123 T [(3,.pointer (some ⟨x3,0,none⟩)),(4,.string nm),(5,.slice la ls.length lc),(6,.pointer (some ⟨x6,0,none⟩)),(7,.int .i64 c)])(hI:L8 (λ_=>False) W0 (λu=>FB b ls x3 [.slice a1 b.tg.length c1,.slice a2 b.bs.length c2] (.slice la ls.length lc) u/\CB u x6 [.slice i1 bk.tg.length j1,.slice i2 bk.bs.length j2]/\K0 u (.agg #[.slice i1 bk.tg.length j1,.slice i2 bk.bs.length j2]) bk) X Shun V)
  (kk:∀gs V sl t T,K1 Tryz.prog Shun gs (G (bK.at ⟨T,[]⟩ (.inRegion O8 [8,9,10,11,12,13,14,15,16,17,18,19,20,21]::k)) []) t->P5 123 T ([(83,.bool (c==6)),(80,.bool false)]++[(3,.pointer (some ⟨x3,0,none⟩)),(4,.string nm),(5,.slice la ls.length lc),(6,.pointer (some ⟨x6,0,none⟩)),(7,.int .i64 c)])->L8 (λ_=>False) W0 (λu=>FB b ls x3 [.slice a1 b.tg.length c1,.slice a2 b.bs.length c2] (.slice la ls.length lc) u/\CB u x6 [.slice i1 bk.tg.length j1,.slice i2 bk.bs.length j2]/\K0 u (.agg #[.slice i1 bk.tg.length j1,.slice i2 bk.bs.length j2]) bk) X Shun V->G4 Tryz.prog (λv w=>v=.bool true/\AA W0 w) (crowd gs V sl) t):G4 Tryz.prog (λv w=>v=.bool true/\AA W0 w) (crowd gs V sl) t:=by
 obtain⟨o,ho,hop,hdst,hg⟩:=Adp;refine DD hI hh hT ho (S6 hg _) rfl hdst hop (hT.ev 6 (.pointer (some ⟨x6,0,none⟩)) (by simp)) (λu hu=>hu.2.1) (by omega) (by simp) λgs sl t dd T hh hT=>?_;replace hI:=hI.at dd;clear hop ho hdst hg o;obtain⟨o,ho,hop,hdst,hg⟩:=Adq;refine DD hI hh hT ho (S6 hg _) rfl hdst hop (hT.ev 3 (.pointer (some ⟨x3,0,none⟩)) (by simp)) (λu hu=>hu.1.2.1) (by omega) (by simp) λgs sl t dd T hh hT=>?_;replace hI:=hI.at dd;clear hop ho hdst hg o;obtain⟨o,ho,hop,hdst,hg⟩:=Adr;obtain⟨ats,hop⟩:=hop
 refine PV R9 hI.hX hI.base #[.agg #[.slice i1 bk.tg.length j1,.slice i2 bk.bs.length j2],.agg #[.slice a1 b.tg.length c1,.slice a2 b.bs.length c2]] hh hT ho (S6 hg _) rfl hdst hop Tryz.func7 (by kernel_rfl) rfl (by kernel_rfl) (by simp[hT.ev 76 (.agg #[.slice i1 bk.tg.length j1,.slice i2 bk.bs.length j2]) (by simp),hT.ev 77 (.agg #[.slice a1 b.tg.length c1,.slice a2 b.bs.length c2]) (by simp)]) (by omega) (by simp) (R:=λv _=>v=.bool true) (λ_ _ _ _ h=>h)
  (λτ d=>(Ii b _ _ _ (by have:=(hI.hold τ d).2.2;rw[hbk] at this ⊢;exact this) (hI.hold τ d).1.2.2.1).mono λe u' h=>⟨⟨_,h.1,rfl⟩,h.2⟩) λgs V1 sl t v T hh hT hb1 hR1=>?_
 obtain rfl:=(hR1 (λ_ _=>0) 0).1;have hI:=hI.up AJ hI.hX hb1 (λk hk=>.inl hk) λτ d=>(hR1 τ d).2;clear hop ho hdst hg o hR1 hb1;obtain⟨o,ho,hop,hdst,hg⟩:=Ads;obtain⟨ty,hop⟩:=hop;refine Cu (v:=.bool false) 0 hh hT ho (S6 hg _) rfl hdst (by omega) (by simp) (λd=>by unfold execOp;rw[hop];simp[go_sem,Act.eval,hT.get 78 (.bool true) (by simp)]) (λd e he=>by unfold execOp at he;rw[hop] at he;simp[go_sem,Act.eval,hT.get 78 (.bool true) (by simp)] at he) λgs sl t dd T hh hT=>?_;replace hI:=hI.at dd;clear hop ho hdst hg o;obtain⟨o,ho,hop,hdst,hg⟩:=Adt;refine BW hh hT ho (S6 hg _) rfl hdst (.inl hop) (hT.ev 79 (.bool false) (by simp)) (by omega) (by simp) λgs sl t dd T hh hT=>?_;replace hI:=hI.at dd;clear hop ho hdst hg o;obtain⟨o,ho,hop,hdst,hg⟩:=Adu;refine BW hh hT ho (by rw[Au hg Oj hT (t':=false) (by simp)];rfl) rfl hdst (.inl hop) (hT.ev 7 (.int .i64 c) (by simp)) (by omega) (by simp) λgs sl t dd T hh hT=>?_;replace hI:=hI.at dd;clear hop ho hdst hg o;obtain⟨o,ho,hop,hdst,hg⟩:=Adv;refine Cu (v:=.bool (c==6)) 0 hh hT ho (by rw[Au hg Oj hT (t':=false) (by simp)];rfl) rfl hdst (by omega) (by simp) (λd=>by unfold execOp;rw[hop];simp[go_sem,Act.eval,hT.get 81 (.int .i64 c) (by simp)]) (λd e he=>by unfold execOp at he;rw[hop] at he;simp[go_sem,Act.eval,hT.get 81 (.int .i64 c) (by simp)] at he) λgs sl t dd T hh hT=>?_;replace hI:=hI.at dd;clear hop ho hdst hg o;obtain⟨o,ho,hop,hdst,hg⟩:=Adw;refine BW hh hT ho (by rw[Au hg Oj hT (t':=false) (by simp)];rfl) rfl hdst (.inl hop) (hT.ev 82 (.bool (c==6)) (by simp)) (by omega) (by simp) λgs sl t dd T hh hT=>?_;exact kk gs _ sl t T hh (hT.sub (by simp)) (hI.at dd)
end
theorem Yu{b:Bk}{nm:ByteArray}{ls:List ByteArray}(h:Y3 b nm ls=5):∃s∈ls,(X5 b s).toList≠nm.toList/\(X5 b s).toList≠[]:=by
 cases hb:I1 b with
 | false=>simp[Y3,S0,hb] at h
 | true =>
  have h5:As b nm ls=5:=by simpa [Y3,S0,hb] using h
  by_cases h0:Y0 b nm ls=0
  ·by_cases ht:T4 b.bs (I3 b nm:Int) ls
   ·obtain⟨s,hs,ho⟩:=(NC (O7.1 hb) (Da h0)).1 ht;refine⟨s,hs,?_⟩;rw[X5,if_pos hb];refine⟨λe=>ho.2 (EG e),λe=>ho.1 (EG (e.trans ?_))⟩;rw[Go.ByteArray.toList_eq]
   ·rw[DO h0 ht] at h5;split at h5<;>simp at h5
  ·rw[Fs h0] at h5;unfold Y0 at h5;split at h5
   ·simp at h5
   ·split at h5<;>simp at h5
section
variable {W0:World} {X:Nat->Prop} {Shun:Loc->Prop} {gs:Array Goroutine} {sl:Option (Nat×Nat)} {t:Trace} {V:World} {T:Array Value} {b bk:Bk} {nm:ByteArray} {ls:List ByteArray} {x3 x6:Nat} {a1 a2 i1 i2 la:Option Addr} {c1 c2 j1 j2 lc:Nat} {c:Int}
set_option maxRecDepth 20000 in
theorem Ach(hc:c=Y3 b nm ls)(hll:ls.length<=101)(hh:K1 Tryz.prog Shun gs (G (bK.at ⟨T,[]⟩ [.code (tK 9)]) []) t)(hT:P5 123 T [(3,.pointer (some ⟨x3,0,none⟩)),(4,.string nm),(5,.slice la ls.length lc),(6,.pointer (some ⟨x6,0,none⟩)),(7,.int .i64 c)])(hI:L8 (λ_=>False) W0 (λu=>FB b ls x3 [.slice a1 b.tg.length c1,.slice a2 b.bs.length c2] (.slice la ls.length lc) u/\CB u x6 [.slice i1 bk.tg.length j1,.slice i2 bk.bs.length j2]/\K0 u (.agg #[.slice i1 bk.tg.length j1,.slice i2 bk.bs.length j2]) bk) X Shun V):G4 Tryz.prog (λv w=>v=.bool true/\AA W0 w) (crowd gs V sl) t:=by
 rw[tK9] at hh;refine O9 hh rfl (λw=>stepG_seq) λgs sl t dd hh=>?_;replace hI:=hI.at dd;by_cases h5:c=5
 ·subst h5;refine LE R9 (NM (pK 9) (by simp)) Gq rfl AJ hI (G':=λa _=>a.tmps.getD 2 undef=.bool true) (λ_ _ _ _ h=>h) (λu hu=>Adn u (hT.sub (by simp)) hu.1.2.1 hu.1.2.2.1 hu.1.2.2.2 hll (Yu hc.symm)) hh λgs V sl t a todo hh hd hI=>?_;exact Qt hh hd (hI.hold (λ_ _=>0) 0).2 hI.bel
 ·refine DP R9 (NM (pK 9) (by simp)) Gq rfl AJ hI (G':=QS [(3,.pointer (some ⟨x3,0,none⟩)),(4,.string nm),(5,.slice la ls.length lc),(6,.pointer (some ⟨x6,0,none⟩)),(7,.int .i64 c)]) (LH _) (λu hu=>Adm u hT h5) hh λgs V sl t a hh hd hI=>?_;obtain⟨T,rfl,hT⟩:=(hI.hold (λ_ _=>0) 0).2;refine LE R9 Aei Gq rfl AJ (hI.mono (F':=(λu=>FB b ls x3 [.slice a1 b.tg.length c1,.slice a2 b.bs.length c2] (.slice la ls.length lc) u/\CB u x6 [.slice i1 bk.tg.length j1,.slice i2 bk.bs.length j2]/\K0 u (.agg #[.slice i1 bk.tg.length j1,.slice i2 bk.bs.length j2]) bk)) λu hu=>hu.1) (G':=λa _=>a.tmps.getD 2 undef=.bool true) (λ_ _ _ _ h=>h) (λu hu=>Aej u hT.1) hh λgs V sl t a todo hh hd hI=>?_;exact Qt hh hd (hI.hold (λ_ _=>0) 0).2 hI.bel
end
section
variable {W0:World} {X:Nat->Prop} {Shun:Loc->Prop} {gs:Array Goroutine} {sl:Option (Nat×Nat)} {t:Trace} {V:World} {T:Array Value} {b bk:Bk} {nm:ByteArray} {ls:List ByteArray} {x3 x6:Nat} {a1 a2 i1 i2 la:Option Addr} {c1 c2 j1 j2 lc:Nat} {c:Int} {k:List Item}
set_option maxRecDepth 20000 in
theorem Adx(hc:c=Y3 b nm ls)(h6:c=6)(hlo:ED b)(hz:nm.size<=maxLen)(hh:K1 Tryz.prog Shun gs (G (bK.at ⟨T,[]⟩ (.inRegion O8 [8,9,10,11,12,13,14,15,16,17,18,19,20,21]::k)) []) t)(hT:P5 123 T ([(83,.bool true),(80,.bool false)]++[(3,.pointer (some ⟨x3,0,none⟩)),(4,.string nm),(5,.slice la ls.length lc),(6,.pointer (some ⟨x6,0,none⟩)),(7,.int .i64 c)]))(hI:L8 (λ_=>False) W0 (λu=>FB b ls x3 [.slice a1 b.tg.length c1,.slice a2 b.bs.length c2] (.slice la ls.length lc) u/\CB u x6 [.slice i1 bk.tg.length j1,.slice i2 bk.bs.length j2]/\K0 u (.agg #[.slice i1 bk.tg.length j1,.slice i2 bk.bs.length j2]) bk) X Shun V)
  (kk:∀(X:Nat->Prop)(Shun:Loc->Prop) gs V sl t T,K1 Tryz.prog Shun gs (G (bK.at ⟨T,[]⟩ k) []) t->P5 123 T ((97,.bool false)::[(3,.pointer (some ⟨x3,0,none⟩)),(4,.string nm),(5,.slice la ls.length lc),(6,.pointer (some ⟨x6,0,none⟩)),(7,.int .i64 c)])->L8 (λ_=>False) W0 (λu=>FB b ls x3 [.slice a1 b.tg.length c1,.slice a2 b.bs.length c2] (.slice la ls.length lc) u/\CB u x6 [.slice i1 bk.tg.length j1,.slice i2 bk.bs.length j2]/\K0 u (.agg #[.slice i1 bk.tg.length j1,.slice i2 bk.bs.length j2]) bk) X Shun V->G4 Tryz.prog (λv w=>v=.bool true/\AA W0 w) (crowd gs V sl) t):G4 Tryz.prog (λv w=>v=.bool true/\AA W0 w) (crowd gs V sl) t:=by
 obtain⟨hok,h0,ht,hs,hns⟩:=Aa7 (hc.symm.trans h6);have hW:=Yh hok h0;have hok':=Lo hok h0 ht;obtain⟨o,ho,hop,hdst,hg⟩:=YS;refine DD hI hh hT ho (by rw[Au hg Gs hT (t':=true) (by simp)];rfl) rfl hdst hop (hT.ev 3 (.pointer (some ⟨x3,0,none⟩)) (by simp)) (λu hu=>hu.1.2.1) (by omega) (by simp) λgs sl t dd T hh hT=>?_;replace hI:=hI.at dd;clear hop ho hdst hg o;obtain⟨o,ho,hop,hdst,hg⟩:=YT;obtain⟨ats,hop⟩:=hop;refine Jh (X:=X) #[.agg #[.slice a1 b.tg.length c1,.slice a2 b.bs.length c2]] hh hT ho (by rw[Au hg Gs hT (t':=true) (by simp)];rfl) rfl hdst hop Tryz.func12 (by kernel_rfl) rfl (by simp[hT.ev 84 (.agg #[.slice a1 b.tg.length c1,.slice a2 b.bs.length c2]) (by simp)]) (by omega) (by simp) (R:=λv u=>E5 u V.heap.size v (Ae b)) (λd=>Aas (b:=b) hI.hX (hI.base.at d) λτ d=>(hI.hold τ d).1.2.2.1) λX1 Shun1 gs V1 sl t v T hX1 hW1 hh hT hb1 hR1=>?_;obtain⟨ma,mc,rfl⟩:=K3 (hR1 (λ_ _=>0) 0).1;have hsm:=Qo (hI.hold (λ_ _=>0) 0).1.2.2.1;have hI1:=hI.up AJ hX1 hb1 hW1 λτ d=>(hR1 τ d).2;have hI2:L8 (λ_=>False) W0 (λu=>(λu=>FB b ls x3 [.slice a1 b.tg.length c1,.slice a2 b.bs.length c2] (.slice la ls.length lc) u/\CB u x6 [.slice i1 bk.tg.length j1,.slice i2 bk.bs.length j2]/\K0 u (.agg #[.slice i1 bk.tg.length j1,.slice i2 bk.bs.length j2]) bk) u/\Ls u (.slice ma (Ae b).length mc) (Ae b)) X1 Shun1 V1:=⟨hI1.hX,hI1.base,λτ d=>⟨hI1.hold τ d,((hR1 τ d).1.lst).ls hsm⟩,hI1.low,hI1.far⟩;refine Oh R9 Ado Gq rfl hI2 (G':=λa u=>QS ((97,.bool false)::[(3,.pointer (some ⟨x3,0,none⟩)),(4,.string nm),(5,.slice la ls.length lc),(6,.pointer (some ⟨x6,0,none⟩)),(7,.int .i64 c)]) a u/\(λu=>FB b ls x3 [.slice a1 b.tg.length c1,.slice a2 b.bs.length c2] (.slice la ls.length lc) u/\CB u x6 [.slice i1 bk.tg.length j1,.slice i2 bk.bs.length j2]/\K0 u (.agg #[.slice i1 bk.tg.length j1,.slice i2 bk.bs.length j2]) bk) u) (λ_ _ _ _ h=>h) (λu hu hz'=>?_) hh λgs V3 sl t a hh hd hI=>?_
 ·rw[FV T hT.1,K2 hT 3 (.pointer (some ⟨x3,0,none⟩)) (by simp),K2 hT 4 (.string nm) (by simp),K2 hT 5 (.slice la ls.length lc) (by simp),K2 hT 6 (.pointer (some ⟨x6,0,none⟩)) (by simp),K2 hT 7 (.int .i64 c) (by simp),K2 hT 80 (.bool false) (by simp),K2 hT 83 (.bool true) (by simp),K2 hT 85 (.slice ma (Ae b).length mc) (by simp)];exact Aa6 _ _ _ _ _ _ _ _ _ _ _ _ _ _ _ _ _ _ _ _ _ _ _ _ _ _ _ _ _ _ _ _ _ _ _ _ _ _ _ _ _ _ _ _ _ _ _ _ _ _ _ _ _ _ _ _ _ _ _ _ _ _ _ _ _ _ _ _ _ _ _ _ _ _ _ _ _ _ _ _ _ _ _ _ _ _ _ _ _ _ _ _ _ _ _ _ _ _ _ _ _ _ _ _ _ _ _ _ _ _ _ _ _ _ _ u hu.1.1.2.1 hu.1.1.2.2.1 hu.1.1.2.2.2 hu.2 (Wz hok h0 ht hs hns) hz (by have:=hlo.2.1;omega) (λy hy=>by have:=hlo.2.2 y hy;omega) (by rw[hW];exact hok') (by rw[hW];exact λh=>hns ((Jf hok').2 (by obtain⟨r,hr⟩:=h;exact⟨_,(Ic.1 hr).2⟩))) (show Hid _ from λT u' h1 h2=>⟨rfl,⟨⟨T,rfl,h1⟩,AJ.up _ _ hu.1 h2⟩,h2.mono hz'⟩)
 obtain⟨T,rfl,hT⟩:=(hI.hold (λ_ _=>0) 0).1;exact kk X1 Shun1 gs V3 sl t T hh hT (hI.mono λu hu=>hu.2)
end
theorem Aci:∃o,O8[10]?=some o/\(True)/\o.dst=some 86/\o.guard=some (7,true):=⟨_,rfl,trivial,rfl,rfl⟩
theorem Acj:∃o,O8[11]?=some o/\(True)/\o.dst=some 87/\o.guard=some (7,true):=⟨_,rfl,trivial,rfl,rfl⟩
theorem Ack:∃o,O8[12]?=some o/\(True)/\o.dst=some 88/\o.guard=some (7,true):=⟨_,rfl,trivial,rfl,rfl⟩
theorem Acl:∃o,O8[13]?=some o/\(True)/\o.dst=some 89/\o.guard=some (12,false):=⟨_,rfl,trivial,rfl,rfl⟩
theorem Acm:∃o,O8[14]?=some o/\(True)/\o.dst=some 90/\o.guard=some (12,false):=⟨_,rfl,trivial,rfl,rfl⟩
theorem Acn:∃o,O8[15]?=some o/\(True)/\o.dst=some 91/\o.guard=some (12,false):=⟨_,rfl,trivial,rfl,rfl⟩
theorem Aco:∃o,O8[16]?=some o/\(True)/\o.dst=some 92/\o.guard=some (12,false):=⟨_,rfl,trivial,rfl,rfl⟩
theorem Acp:∃o,O8[17]?=some o/\(True)/\o.dst=some 93/\o.guard=some (12,false):=⟨_,rfl,trivial,rfl,rfl⟩
theorem Acq:∃o,O8[18]?=some o/\(True)/\o.dst=some 94/\o.guard=some (12,false):=⟨_,rfl,trivial,rfl,rfl⟩
theorem Acr:∃o,O8[19]?=some o/\(True)/\o.dst=some 95/\o.guard=some (7,true):=⟨_,rfl,trivial,rfl,rfl⟩
theorem Acs:∃o,O8[20]?=some o/\(o.op=.pick (.tmp 83) (.tmp 95) (.const (.bool false)))/\o.dst=some 96/\o.guard=some (4,false):=⟨_,rfl,rfl,rfl,rfl⟩
theorem Acu:∃o,O8[21]?=some o/\(o.op=.pick (.tmp 80) (.const (.bool true)) (.tmp 96))/\o.dst=some 97/\o.guard=none:=⟨_,rfl,rfl,rfl,rfl⟩
theorem GM:∃oj,O8[12]?=some oj/\oj.dst=some 88:=⟨_,rfl,rfl⟩
theorem JM{ops:Array Oper}{T:Array Value}{o:Oper}{n j s:Nat}{t:Bool}{l:List (Nat×Value)}(hg:o.guard=some (j,t))(hj:∃oj,ops[j]?=some oj/\oj.dst=some s)(hT:P5 n T l)(hm:(s,undef)∈l):Region.wanted o (yielded ops T)=false:=by
 obtain⟨oj,h1,h2⟩:=hj;simp[Region.wanted,hg,yielded,h1,h2,hT.get s _ hm,undef]
section
variable {P:Program} {Shun:Loc->Prop} {Post:Value->World->Prop} {b:Frame} {k:List Item} {cs:List Frame} {gs:Array Goroutine} {sl:Option (Nat×Nat)} {t:Trace} {V:World} {n:Nat} {T:Array Value} {l:List (Nat×Value)} {ops:Array Oper} {i:Nat} {rest:List Nat} {o:Oper}
theorem Aa8{d:Nat}(hh:K1 P Shun gs (G (b.at ⟨T,[]⟩ (.inRegion ops (i::rest)::k)) cs) t)(hT:P5 n T l)(ho:ops[i]?=some o)(hw:Region.wanted o (yielded ops T)=false)(hdst:o.dst=some d)(hd:d<n)(hn:∀p∈l,p.1≠d)
  (kk:∀gs' sl' t' x T',K1 P Shun gs' (G (b.at ⟨T',[]⟩ (.inRegion ops rest::k)) cs) t'->P5 n T' ((d,undef)::l)->G4 P Post (crowd gs' (V.at x) sl') t'):G4 P Post (crowd gs V sl) t :=
 Wd hh ho hw hdst λgs' sl' t' x hh'=>kk gs' sl' t' x (T.setIfInBounds d undef) hh' (hT.put d undef hd hn)
end
section
variable {W0:World} {X:Nat->Prop} {Shun:Loc->Prop} {gs:Array Goroutine} {sl:Option (Nat×Nat)} {t:Trace} {V:World} {T:Array Value} {b bk:Bk} {nm:ByteArray} {ls:List ByteArray} {x3 x6:Nat} {a1 a2 i1 i2 la:Option Addr} {c1 c2 j1 j2 lc:Nat} {c:Int} {k:List Item}
theorem Ady(hh:K1 Tryz.prog Shun gs (G (bK.at ⟨T,[]⟩ (.inRegion O8 [8,9,10,11,12,13,14,15,16,17,18,19,20,21]::k)) []) t)(hT:P5 123 T ([(83,.bool false),(80,.bool false)]++[(3,.pointer (some ⟨x3,0,none⟩)),(4,.string nm),(5,.slice la ls.length lc),(6,.pointer (some ⟨x6,0,none⟩)),(7,.int .i64 c)]))(hI:L8 (λ_=>False) W0 (λu=>FB b ls x3 [.slice a1 b.tg.length c1,.slice a2 b.bs.length c2] (.slice la ls.length lc) u/\CB u x6 [.slice i1 bk.tg.length j1,.slice i2 bk.bs.length j2]/\K0 u (.agg #[.slice i1 bk.tg.length j1,.slice i2 bk.bs.length j2]) bk) X Shun V)
  (kk:∀gs V sl t T,K1 Tryz.prog Shun gs (G (bK.at ⟨T,[]⟩ k) []) t->P5 123 T ((97,.bool false)::[(3,.pointer (some ⟨x3,0,none⟩)),(4,.string nm),(5,.slice la ls.length lc),(6,.pointer (some ⟨x6,0,none⟩)),(7,.int .i64 c)])->L8 (λ_=>False) W0 (λu=>FB b ls x3 [.slice a1 b.tg.length c1,.slice a2 b.bs.length c2] (.slice la ls.length lc) u/\CB u x6 [.slice i1 bk.tg.length j1,.slice i2 bk.bs.length j2]/\K0 u (.agg #[.slice i1 bk.tg.length j1,.slice i2 bk.bs.length j2]) bk) X Shun V->G4 Tryz.prog (λv w=>v=.bool true/\AA W0 w) (crowd gs V sl) t):G4 Tryz.prog (λv w=>v=.bool true/\AA W0 w) (crowd gs V sl) t:=by
 obtain⟨o,ho,hop,hdst,hg⟩:=YS;refine Ad hh hT ho (by rw[Au hg Gs hT (t':=false) (by simp)];rfl) hdst (by omega) (by simp) λgs sl t dd T hh hT=>?_;replace hI:=hI.at dd;clear hop ho hdst hg o;obtain⟨o,ho,hop,hdst,hg⟩:=YT;refine Ad hh hT ho (by rw[Au hg Gs hT (t':=false) (by simp)];rfl) hdst (by omega) (by simp) λgs sl t dd T hh hT=>?_;replace hI:=hI.at dd;clear hop ho hdst hg o;obtain⟨o,ho,hop,hdst,hg⟩:=Aci;refine Ad hh hT ho (by rw[Au hg Gs hT (t':=false) (by simp)];rfl) hdst (by omega) (by simp) λgs sl t dd T hh hT=>?_;replace hI:=hI.at dd;clear hop ho hdst hg o;obtain⟨o,ho,hop,hdst,hg⟩:=Acj;refine Ad hh hT ho (by rw[Au hg Gs hT (t':=false) (by simp)];rfl) hdst (by omega) (by simp) λgs sl t dd T hh hT=>?_;replace hI:=hI.at dd;clear hop ho hdst hg o;obtain⟨o,ho,hop,hdst,hg⟩:=Ack;refine Aa8 hh hT ho (by rw[Au hg Gs hT (t':=false) (by simp)];rfl) hdst (by omega) (by simp) λgs sl t dd T hh hT=>?_;replace hI:=hI.at dd;clear hop ho hdst hg o;obtain⟨o,ho,hop,hdst,hg⟩:=Acl;refine Ad hh hT ho (JM hg GM hT (by simp)) hdst (by omega) (by simp) λgs sl t dd T hh hT=>?_;replace hI:=hI.at dd;clear hop ho hdst hg o;obtain⟨o,ho,hop,hdst,hg⟩:=Acm;refine Ad hh hT ho (JM hg GM hT (by simp)) hdst (by omega) (by simp) λgs sl t dd T hh hT=>?_;replace hI:=hI.at dd;clear hop ho hdst hg o;obtain⟨o,ho,hop,hdst,hg⟩:=Acn;refine Ad hh hT ho (JM hg GM hT (by simp)) hdst (by omega) (by simp) λgs sl t dd T hh hT=>?_;replace hI:=hI.at dd;clear hop ho hdst hg o;obtain⟨o,ho,hop,hdst,hg⟩:=Aco;refine Ad hh hT ho (JM hg GM hT (by simp)) hdst (by omega) (by simp) λgs sl t dd T hh hT=>?_;replace hI:=hI.at dd;clear hop ho hdst hg o;obtain⟨o,ho,hop,hdst,hg⟩:=Acp;refine Ad hh hT ho (JM hg GM hT (by simp)) hdst (by omega) (by simp) λgs sl t dd T hh hT=>?_;replace hI:=hI.at dd;clear hop ho hdst hg o;obtain⟨o,ho,hop,hdst,hg⟩:=Acq;refine Ad hh hT ho (JM hg GM hT (by simp)) hdst (by omega) (by simp) λgs sl t dd T hh hT=>?_;replace hI:=hI.at dd;clear hop ho hdst hg o;obtain⟨o,ho,hop,hdst,hg⟩:=Acr;refine Ad hh hT ho (by rw[Au hg Gs hT (t':=false) (by simp)];rfl) hdst (by omega) (by simp) λgs sl t dd T hh hT=>?_;replace hI:=hI.at dd;clear hop ho hdst hg o;obtain⟨o,ho,hop,hdst,hg⟩:=Acs;refine Cu (v:=.bool false) 0 hh hT ho (by rw[Au hg Oj hT (t':=false) (by simp)];rfl) rfl hdst (by omega) (by simp) (λd=>?_) (λd e he=>?_) λgs sl t dd T hh hT=>?_
 ·unfold execOp;rw[hop];simp only[hT.ev 83 (.bool false) (by simp)];simp[go_sem,Act.eval]
 ·unfold execOp at he;rw[hop] at he;simp only[hT.ev 83 (.bool false) (by simp)] at he;simp[go_sem] at he
 replace hI:=hI.at dd;clear hop ho hdst hg o;obtain⟨o,ho,hop,hdst,hg⟩:=Acu;refine Cu (v:=.bool false) 0 hh hT ho (S6 hg _) rfl hdst (by omega) (by simp) (λd=>?_) (λd e he=>?_) λgs sl t dd T hh hT=>?_
 ·unfold execOp;rw[hop];simp only[hT.ev 80 (.bool false) (by simp),hT.ev 96 (.bool false) (by simp)];simp[go_sem]
 ·unfold execOp at he;rw[hop] at he;simp only[hT.ev 80 (.bool false) (by simp),hT.ev 96 (.bool false) (by simp)] at he;simp[go_sem] at he
 replace hI:=hI.at dd;clear hop ho hdst hg o;refine O9 hh rfl (λw=>stepG_region_end) λgs sl t dd hh=>?_;exact kk gs _ sl t T hh (hT.sub (by simp)) (hI.at dd)
end
theorem Adz:∃o,Af[0]?=some o/\(o.op=.load 26 (.tmp 6))/\o.dst=some 65/\o.guard=none:=⟨_,rfl,rfl,rfl,rfl⟩
theorem Ad0:∃o,Af[1]?=some o/\(∃ats,o.op=.call {callee:=.value (.func 9),args:=#[.tmp 65],argTypes:=ats})/\o.dst=some 66/\o.guard=none:=⟨_,rfl,⟨_,rfl⟩,rfl,rfl⟩
theorem Ad1:∃o,Af[2]?=some o/\(o.op=.move (.tmp 66))/\o.dst=some 67/\o.guard=none:=⟨_,rfl,rfl,rfl,rfl⟩
theorem Ad2:∃o,Af[3]?=some o/\(o.op=.load 26 (.tmp 6))/\o.dst=some 68/\o.guard=some (2,true):=⟨_,rfl,rfl,rfl,rfl⟩
theorem Ad3:∃o,Af[4]?=some o/\(∃ats,o.op=.call {callee:=.value (.func 10),args:=#[.tmp 68],argTypes:=ats})/\o.dst=some 69/\o.guard=some (2,true):=⟨_,rfl,⟨_,rfl⟩,rfl,rfl⟩
theorem Ad4:∃o,Af[5]?=some o/\(o.op=.move (.tmp 69))/\o.dst=some 70/\o.guard=some (2,true):=⟨_,rfl,rfl,rfl,rfl⟩
theorem YU:∃o,Af[6]?=some o/\(o.op=.load 26 (.tmp 3))/\o.dst=some 71/\o.guard=some (5,false):=⟨_,rfl,rfl,rfl,rfl⟩
theorem YV:∃o,Af[7]?=some o/\(∃ats,o.op=.call {callee:=.value (.func 10),args:=#[.tmp 71],argTypes:=ats})/\o.dst=some 72/\o.guard=some (5,false):=⟨_,rfl,⟨_,rfl⟩,rfl,rfl⟩
theorem YW:∃o,Af[8]?=some o/\(∃ty,o.op=.unOp .not ty (.tmp 72))/\o.dst=some 73/\o.guard=some (5,false):=⟨_,rfl,⟨_,rfl⟩,rfl,rfl⟩
theorem YX:∃o,Af[9]?=some o/\(o.op=.pick (.tmp 70) (.const (.bool true)) (.tmp 73))/\o.dst=some 74/\o.guard=some (2,true):=⟨_,rfl,rfl,rfl,rfl⟩
theorem Acv:∃o,Af[10]?=some o/\(o.op=.pick (.tmp 67) (.tmp 74) (.const (.bool false)))/\o.dst=some 75/\o.guard=none:=⟨_,rfl,rfl,rfl,rfl⟩
theorem Acw:∃o,Af[11]?=some o/\(o.op=.assign (.tmp 75))/\o.dst=some 2/\o.guard=none:=⟨_,rfl,rfl,rfl,rfl⟩
theorem Aa9:Af.size=12:=rfl
theorem LI:∃oj,Af[2]?=some oj/\oj.dst=some 67:=⟨_,rfl,rfl⟩
theorem JN:∃oj,Af[5]?=some oj/\oj.dst=some 70:=⟨_,rfl,rfl⟩
section
variable {W0:World} {X:Nat->Prop} {Shun:Loc->Prop} {gs:Array Goroutine} {sl:Option (Nat×Nat)} {t:Trace} {V:World} {T:Array Value} {b bk:Bk} {nm:ByteArray} {ls:List ByteArray} {x3 x6:Nat} {a1 a2 i1 i2 la:Option Addr} {c1 c2 j1 j2 lc:Nat} {c:Int} {k:List Item}
theorem YY(hh:K1 Tryz.prog Shun gs (G (bK.at ⟨T,[]⟩ (.inRegion Af [10,11]::.code .ret::k)) []) t)(hT:P5 123 T [(74,.bool true),(67,.bool true),(6,.pointer (some ⟨x6,0,none⟩))])(hI:L8 (λ_=>False) W0 (λu=>FB b ls x3 [.slice a1 b.tg.length c1,.slice a2 b.bs.length c2] (.slice la ls.length lc) u/\CB u x6 [.slice i1 bk.tg.length j1,.slice i2 bk.bs.length j2]/\K0 u (.agg #[.slice i1 bk.tg.length j1,.slice i2 bk.bs.length j2]) bk) X Shun V):G4 Tryz.prog (λv w=>v=.bool true/\AA W0 w) (crowd gs V sl) t:=by
 obtain⟨o,ho,hop,hdst,hg⟩:=Acv;refine Cu (v:=.bool true) 0 hh hT ho (S6 hg _) rfl hdst (by omega) (by simp) (λd=>?_) (λd e he=>?_) λgs sl t dd T hh hT=>?_
 ·unfold execOp;rw[hop];simp only[hT.ev 67 (.bool true) (by simp),hT.ev 74 (.bool true) (by simp)];simp[go_sem]
 ·unfold execOp at he;rw[hop] at he;simp only[hT.ev 67 (.bool true) (by simp),hT.ev 74 (.bool true) (by simp)] at he;simp[go_sem] at he
 replace hI:=hI.at dd;clear hop ho hdst hg o;obtain⟨o,ho,hop,hdst,hg⟩:=Acw;refine BW hh hT ho (S6 hg _) rfl hdst (.inr hop) (hT.ev 75 (.bool true) (by simp)) (by omega) (by simp) λgs sl t dd T hh hT=>?_;replace hI:=hI.at dd;clear hop ho hdst hg o;refine O9 hh rfl (λw=>stepG_region_end) λgs sl t dd hh=>?_;replace hI:=hI.at dd;refine LE R9 YQ Gq rfl AJ hI (G':=λa _=>a.tmps.getD 2 undef=.bool true) (λ_ _ _ _ h=>h) (λu hu=>SG ⟨rfl,K2 hT 2 (.bool true) (by simp),A4 _ _⟩) hh λgs V sl t a todo hh hd hI=>?_;exact Qt hh hd (hI.hold (λ_ _=>0) 0).2 hI.bel
theorem Acx(hc:c=Y3 b nm ls)(h0:c=0)(hbk:bk=Az b nm ls)(hh:K1 Tryz.prog Shun gs (G (bK.at ⟨T,[]⟩ [.code (.seq (.region 16 Af false) .ret),.code (tK 8)]) []) t)(hT:P5 123 T [(3,.pointer (some ⟨x3,0,none⟩)),(4,.string nm),(5,.slice la ls.length lc),(6,.pointer (some ⟨x6,0,none⟩)),(7,.int .i64 c)])(hI:L8 (λ_=>False) W0 (λu=>FB b ls x3 [.slice a1 b.tg.length c1,.slice a2 b.bs.length c2] (.slice la ls.length lc) u/\CB u x6 [.slice i1 bk.tg.length j1,.slice i2 bk.bs.length j2]/\K0 u (.agg #[.slice i1 bk.tg.length j1,.slice i2 bk.bs.length j2]) bk) X Shun V):G4 Tryz.prog (λv w=>v=.bool true/\AA W0 w) (crowd gs V sl) t:=by
 obtain⟨h1,h2,h3,h4,h5⟩:=Qw (hc.symm.trans h0);have hok:J0 bk:=by rw[hbk,h5];exact Lo h1 h2 h3
 have hsf:BV b->BV bk:=by rw[hbk,h5];exact h4
 clear h1 h2 h3 h4 h5 hbk hc h0;refine O9 hh rfl (λw=>stepG_seq) λgs sl t dd hh=>?_;replace hI:=hI.at dd;refine O9 hh rfl (λw=>stepG_region) λgs sl t dd hh=>?_;replace hI:=hI.at dd;rw[Aa9] at hh;change K1 Tryz.prog Shun gs (G (bK.at ⟨T,[]⟩ [.inRegion Af [0,1,2,3,4,5,6,7,8,9,10,11],.code .ret,.code (tK 8)]) []) t at hh
 obtain⟨o,ho,hop,hdst,hg⟩:=Adz;refine DD hI hh hT ho (S6 hg _) rfl hdst hop (hT.ev 6 (.pointer (some ⟨x6,0,none⟩)) (by simp)) (λu hu=>hu.2.1) (by omega) (by simp) λgs sl t dd T hh hT=>?_;replace hI:=hI.at dd;clear hop ho hdst hg o;obtain⟨o,ho,hop,hdst,hg⟩:=Ad0;obtain⟨ats,hop⟩:=hop
 refine PV R9 hI.hX hI.base #[.agg #[.slice i1 bk.tg.length j1,.slice i2 bk.bs.length j2]] hh hT ho (S6 hg _) rfl hdst hop Tryz.func9 (by kernel_rfl) rfl (by kernel_rfl) (by simp[hT.ev 65 (.agg #[.slice i1 bk.tg.length j1,.slice i2 bk.bs.length j2]) (by simp)]) (by omega) (by simp) (R:=λv _=>v=.bool (I1 bk)) (λ_ _ _ _ h=>h)
  (λτ d=>(BK bk _ _ (hI.hold τ d).2.2).mono λe u' h=>⟨⟨_,h.1,rfl⟩,h.2⟩) λgs V1 sl t v T hh hT hb1 hR1=>?_
 obtain rfl:=(hR1 (λ_ _=>0) 0).1;rw[show I1 bk=true from Z3 hok] at hT;replace hI:=hI.up AJ hI.hX hb1 (λk hk=>.inl hk) λτ d=>(hR1 τ d).2;clear hop ho hdst hg o hR1 hb1;obtain⟨o,ho,hop,hdst,hg⟩:=Ad1;refine BW hh hT ho (S6 hg _) rfl hdst (.inl hop) (hT.ev 66 (.bool true) (by simp)) (by omega) (by simp) λgs sl t dd T hh hT=>?_;replace hI:=hI.at dd;clear hop ho hdst hg o;obtain⟨o,ho,hop,hdst,hg⟩:=Ad2;refine DD hI hh hT ho (by rw[Au hg LI hT (t':=true) (by simp)];rfl) rfl hdst hop (hT.ev 6 (.pointer (some ⟨x6,0,none⟩)) (by simp)) (λu hu=>hu.2.1) (by omega) (by simp) λgs sl t dd T hh hT=>?_;replace hI:=hI.at dd;clear hop ho hdst hg o;obtain⟨o,ho,hop,hdst,hg⟩:=Ad3;obtain⟨ats,hop⟩:=hop;refine Jh (X:=X) #[.agg #[.slice i1 bk.tg.length j1,.slice i2 bk.bs.length j2]] hh hT ho (by rw[Au hg LI hT (t':=true) (by simp)];rfl) rfl hdst hop Tryz.func10 (by kernel_rfl) rfl (by simp[hT.ev 68 (.agg #[.slice i1 bk.tg.length j1,.slice i2 bk.bs.length j2]) (by simp)]) (by omega) (by simp) (λd=>LA (b:=bk) hI.hX (hI.base.at d) (λτ d=>(hI.hold τ d).2.2)) λX1 Shun1 gs V1 sl t v T hX1 hW1 hh hT hb1 hR1=>?_;obtain⟨ss,ok,rfl,hord⟩:=(hR1 (λ_ _=>0) 0).1;replace hI:=hI.up AJ hX1 hb1 hW1 λτ d=>(hR1 τ d).2;have hk1:=De hord;clear hR1 hW1 hb1 hX1 hop ho hdst hg o hord ss;obtain⟨o,ho,hop,hdst,hg⟩:=Ad4;refine BW hh hT ho (by rw[Au hg LI hT (t':=true) (by simp)];rfl) rfl hdst (.inl hop) (hT.ev 69 (.bool ok) (by simp)) (by omega) (by simp) λgs sl t dd T hh hT=>?_;replace hI:=hI.at dd;clear hop ho hdst hg o;cases ok with
 | true =>
  obtain⟨o,ho,hop,hdst,hg⟩:=YU;refine Ad hh hT ho (by rw[Au hg JN hT (t':=true) (by simp)];rfl) hdst (by omega) (by simp) λgs sl t dd T hh hT=>?_;replace hI:=hI.at dd;clear hop ho hdst hg o;obtain⟨o,ho,hop,hdst,hg⟩:=YV;refine Ad hh hT ho (by rw[Au hg JN hT (t':=true) (by simp)];rfl) hdst (by omega) (by simp) λgs sl t dd T hh hT=>?_;replace hI:=hI.at dd;clear hop ho hdst hg o;obtain⟨o,ho,hop,hdst,hg⟩:=YW;refine Ad hh hT ho (by rw[Au hg JN hT (t':=true) (by simp)];rfl) hdst (by omega) (by simp) λgs sl t dd T hh hT=>?_;replace hI:=hI.at dd;clear hop ho hdst hg o;obtain⟨o,ho,hop,hdst,hg⟩:=YX;refine Cu (v:=.bool true) 0 hh hT ho (by rw[Au hg LI hT (t':=true) (by simp)];rfl) rfl hdst (by omega) (by simp) (λd=>?_) (λd e he=>?_) λgs sl t dd T hh hT=>?_
  ·unfold execOp;rw[hop];simp only[hT.ev 70 (.bool true) (by simp)];simp[go_sem,Act.eval]
  ·unfold execOp at he;rw[hop] at he;simp only[hT.ev 70 (.bool true) (by simp)] at he;simp[go_sem] at he
  replace hI:=hI.at dd;clear hop ho hdst hg o;exact YY hh (hT.sub (by simp)) hI
 | false =>
  obtain⟨o,ho,hop,hdst,hg⟩:=YU;refine DD hI hh hT ho (by rw[Au hg JN hT (t':=false) (by simp)];rfl) rfl hdst hop (hT.ev 3 (.pointer (some ⟨x3,0,none⟩)) (by simp)) (λu hu=>hu.1.2.1) (by omega) (by simp) λgs sl t dd T hh hT=>?_;replace hI:=hI.at dd;clear hop ho hdst hg o;obtain⟨o,ho,hop,hdst,hg⟩:=YV;obtain⟨ats,hop⟩:=hop;refine Jh (X:=X1) #[.agg #[.slice a1 b.tg.length c1,.slice a2 b.bs.length c2]] hh hT ho (by rw[Au hg JN hT (t':=false) (by simp)];rfl) rfl hdst hop Tryz.func10 (by kernel_rfl) rfl (by simp[hT.ev 71 (.agg #[.slice a1 b.tg.length c1,.slice a2 b.bs.length c2]) (by simp)]) (by omega) (by simp) (λd=>LA (b:=b) hI.hX (hI.base.at d) (λτ d=>(hI.hold τ d).1.2.2.1)) λX2 Shun2 gs V2 sl t v T hX2 hW2 hh hT hb2 hR2=>?_;obtain⟨ss,ok,rfl,hord⟩:=(hR2 (λ_ _=>0) 0).1;replace hI:=hI.up AJ hX2 hb2 hW2 λτ d=>(hR2 τ d).2;have hk2:=De hord
  obtain rfl:ok=false:=by
   cases ok with
   | false=>rfl
   | true =>
    have h9:=Z3 (hsf (O7.1 hk2.symm));rw[← hk1] at h9;cases h9
  clear hR2 hW2 hb2 hX2 hop ho hdst hg o hord ss;obtain⟨o,ho,hop,hdst,hg⟩:=YW;obtain⟨ty,hop⟩:=hop;refine Cu (v:=.bool true) 0 hh hT ho (by rw[Au hg JN hT (t':=false) (by simp)];rfl) rfl hdst (by omega) (by simp) (λd=>?_) (λd e he=>?_) λgs sl t dd T hh hT=>?_
  ·unfold execOp;rw[hop];simp[go_sem,Act.eval,hT.get 72 (.bool false) (by simp)]
  ·unfold execOp at he;rw[hop] at he;simp[go_sem,Act.eval,hT.get 72 (.bool false) (by simp)] at he
  replace hI:=hI.at dd;clear hop ho hdst hg o;obtain⟨o,ho,hop,hdst,hg⟩:=YX;refine Cu (v:=.bool true) 0 hh hT ho (by rw[Au hg LI hT (t':=true) (by simp)];rfl) rfl hdst (by omega) (by simp) (λd=>?_) (λd e he=>?_) λgs sl t dd T hh hT=>?_
  ·unfold execOp;rw[hop];simp only[hT.ev 70 (.bool false) (by simp),hT.ev 73 (.bool true) (by simp)];simp[go_sem]
  ·unfold execOp at he;rw[hop] at he;simp only[hT.ev 70 (.bool false) (by simp),hT.ev 73 (.bool true) (by simp)] at he;simp[go_sem] at he
  replace hI:=hI.at dd;clear hop ho hdst hg o;exact YY hh (hT.sub (by simp)) hI
end
section
variable {W0:World} {X:Nat->Prop} {Shun:Loc->Prop} {gs:Array Goroutine} {sl:Option (Nat×Nat)} {t:Trace} {V:World} {T:Array Value} {b bk:Bk} {nm:ByteArray} {ls:List ByteArray} {x3 x6:Nat} {a1 a2 i1 i2 la:Option Addr} {c1 c2 j1 j2 lc:Nat} {c:Int}
theorem Acy(hc:c=Y3 b nm ls)(hbk:bk=Az b nm ls)(hn0:c≠0)(hn1:c≠1)(hlo:ED b)(hz:nm.size<=maxLen)(hll:ls.length<=101)(hh:K1 Tryz.prog Shun gs (G (bK.at ⟨T,[]⟩ [.code (tK 8)]) []) t)(hT:P5 123 T [(3,.pointer (some ⟨x3,0,none⟩)),(4,.string nm),(5,.slice la ls.length lc),(6,.pointer (some ⟨x6,0,none⟩)),(7,.int .i64 c)])(hI:L8 (λ_=>False) W0 (λu=>FB b ls x3 [.slice a1 b.tg.length c1,.slice a2 b.bs.length c2] (.slice la ls.length lc) u/\CB u x6 [.slice i1 bk.tg.length j1,.slice i2 bk.bs.length j2]/\K0 u (.agg #[.slice i1 bk.tg.length j1,.slice i2 bk.bs.length j2]) bk) X Shun V):G4 Tryz.prog (λv w=>v=.bool true/\AA W0 w) (crowd gs V sl) t:=by
 obtain⟨x,e8⟩:=tK8;have hsame:bk=b:=hbk.trans (NO (hc ▸ hn0) (hc ▸ hn1)).2.1;rw[e8] at hh;refine O9 hh rfl (λw=>stepG_seq) λgs sl t dd hh=>?_;replace hI:=hI.at dd;refine O9 hh rfl (λw=>stepG_seq) λgs sl t dd hh=>?_;replace hI:=hI.at dd;refine O9 hh rfl (λw=>stepG_region) λgs sl t dd hh=>?_;replace hI:=hI.at dd;rw[Aa5] at hh;change K1 Tryz.prog Shun gs (G (bK.at ⟨T,[]⟩ [.inRegion O8 [0,1,2,3,4,5,6,7,8,9,10,11,12,13,14,15,16,17,18,19,20,21],.code (.cond (.tmp 97) x .skip),.code (tK 9)]) []) t at hh
 have fin:∀(X:Nat->Prop)(Shun:Loc->Prop) gs V sl t T,K1 Tryz.prog Shun gs (G (bK.at ⟨T,[]⟩ [.code (.cond (.tmp 97) x .skip),.code (tK 9)]) []) t->P5 123 T ((97,.bool false)::[(3,.pointer (some ⟨x3,0,none⟩)),(4,.string nm),(5,.slice la ls.length lc),(6,.pointer (some ⟨x6,0,none⟩)),(7,.int .i64 c)])->L8 (λ_=>False) W0 (λu=>FB b ls x3 [.slice a1 b.tg.length c1,.slice a2 b.bs.length c2] (.slice la ls.length lc) u/\CB u x6 [.slice i1 bk.tg.length j1,.slice i2 bk.bs.length j2]/\K0 u (.agg #[.slice i1 bk.tg.length j1,.slice i2 bk.bs.length j2]) bk) X Shun V->G4 Tryz.prog (λv w=>v=.bool true/\AA W0 w) (crowd gs V sl) t:=λX Shun gs V sl t T hh hT hI=>by
  refine O9 hh rfl (λw=>stepG_cond (t:=false) (hT.ev 97 (.bool false) (by simp))) λgs sl t dd hh=>?_;replace hI:=hI.at dd;refine O9 hh rfl (λw=>stepG_skip) λgs sl t dd hh=>?_;exact Ach hc hll hh (hT.sub (by simp)) (hI.at dd)
 refine Ael hsame hh hT hI λgs V sl t T hh hT hI=>?_;by_cases h6:c=6
 ·rw[show (c==6)=true by simpa using h6] at hT;exact Adx hc h6 hlo hz hh hT hI fin
 ·rw[show (c==6)=false by simpa using h6] at hT;exact Ady hh hT hI λgs V sl t T=>fin X Shun gs V sl t T
end
section
variable {W0:World} {x:Option Addr} {n k:Nat}
theorem Yv(W:World)(τ:Nat->Question->Nat)(d:Nat):Below W.heap.size W {E0 (λ_=>False) W τ d with tape:=W.tape} :=
 ⟨rfl,rfl,rfl,by show _<=(E0 (λ_=>False) W τ d).heap.size;rw[K5];exact A3 _,λi _=>by show (E0 (λ_=>False) W τ d).heap[i]?=_;rw[YR]⟩
theorem Rn(hE:Bf W0)(h0:Y4 W0 W0.heap.size (.slice x n k) n)(hcap:n<=k)(hbig:k<=maxLen)(hp:∀(b:Nat)(c:Array Value)(t:TypeId),W0.heap[b]?=some (Obj.pending c t)->gN<=b):
  G4 Tryz.prog (λv w=>v=.bool true/\AA W0 w) (crowd #[G (Frame.enter Tryz.prog 3 #[.slice x n k] .normal) []] W0 none) #[]:=by
 have hb0:N9 (λ_=>False) W0:=⟨λ_ h=>h.elim,λ_ h=>h.elim,hp⟩;have hX0:AH (λ_=>False) (λ_=>False):=λ_ h=>h.elim;have hh:K1 Tryz.prog (λ_=>False) #[G (Frame.enter Tryz.prog 3 #[.slice x n k] .normal) []] (G (Frame.enter Tryz.prog 3 #[.slice x n k] .normal) []) #[]:=⟨rfl,⟨_,leavers_one _ _⟩,⟨0,AaM⟩⟩;obtain⟨gs0,hgs0⟩:∃gs0,#[G (Frame.enter Tryz.prog 3 #[.slice x n k] .normal) []]=gs0:=⟨_,rfl⟩;rw[hgs0] at hh ⊢
 clear hgs0;rw[AbR] at hh;by_cases hn:1048576<n
 ·exact AbV hn (L8.start (F:=λ_=>True) hX0 hb0 λ_ _=>trivial) hh
 refine Aek (Nat.le_of_not_lt hn) hcap hbig (L8.start hX0 hb0 λτ d=>?_) hh ?_
 ·have hB:=Yv W0 τ d;have e1:=hE.up hB;have e2:=h0.up hB hB.size;exact⟨e1,e2⟩
 intro b bk nm ls a1 c1 a2 c2 la lc x3 x6 i1 j1 i2 j2 c X Shun gs V sl t T hc hbk hlo hz hll hh hT hI;refine Ace hc hbk hll hh hT hI λhn1 gs V sl t T hh hT hI=>?_;refine Acf hc hbk hll hh hT hI (λhn0 gs V sl t T hh hT hI=>?_) λh0 gs V sl t T hh hT hI=>?_
 ·exact Acy hc hbk hn0 hn1 hlo hz hll hh hT hI
 ·exact Acx hc h0 hbk hh hT hI
end
end Go.Proofs.YtmfjakieahkacaaGreatDoor
