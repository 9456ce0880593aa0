/- Workers who read, add to one sum and leave, 8: a worker's Done. -/
import Derived.Test.YtmfjakieahkacaaGreatDoorGw7
import Derived.Test.YtmfjakieahkacaaGreatDoorChecked
import Derived.Conc.CompanyMem
set_option maxRecDepth 100000
set_option maxHeartbeats 4000000
namespace Go.Proofs.YtmfjakieahkacaaGreatDoor
open Go.Conc Go.ConcN Go.RowKit Go.Conc.Lib Go.ConcR.Gen Go.ConcN.Gen
open Go.ConcR (KK wgBlock WgAt stA smA rd wr mk Payload DC0)
theorem XB{P:Program}{main:Bool}{R R':World->World->Prop}{D D':World->World->Array Event->Prop}{Stop Stop':Goroutine->World->Prop}{I:World->Prop}
  (hR:∀w w',I w->R' w w'->R w w'/\I w') (hD:∀w w' es,I w->D w w' es->D' w w' es/\I w') (hS:∀g w,I w->Stop g w->Stop' g w) {n:Nat} :
  ∀{g:Goroutine} {w:World},I w->Goes P main R D Stop n g w->Goes P main R' D' Stop' n g w:=by
 induction n with
 | zero=>exact λhi h w₁ h₁=>hS _ _ (hR _ _ hi h₁).2 (h w₁ (hR _ _ hi h₁).1)
 | succ n ih =>
  intro g w hi h;rcases h with h|⟨hs,h⟩
  ·exact .inl λw₁ h₁=>hS _ _ (hR _ _ hi h₁).2 (h w₁ (hR _ _ hi h₁).1)
  ·refine .inr ⟨hs,λw₁ h₁=>?_⟩;have h2:=h w₁ (hR _ _ hi h₁).1;have h3:=(hR _ _ hi h₁).2;revert h2
   cases stepG P main g w₁<;>simp only[GStep.goes,imp_self]
   exact λ⟨d,x⟩=>⟨(hD _ _ _ h3 d).1,ih (hD _ _ _ h3 d).2 x⟩
theorem Tt{p:K7}{M:Nat->Prop}{e:Event}(h:EvW p.Wg No No 1 e):Vg p M e:=by
 refine⟨λx hx=>?_,h.2⟩;rcases (h.1 0 "").2 x hx with h1|h1|h1
 ·exact .inl h1
 ·exact h1.elim
 ·exact h1.1.elim
theorem Vr{C:Nat}{w:World}{v:Value}(h:w.heap[C]?=some (.cells #[v] 3)):PayAt C 1 w:=⟨#[v],h,rfl⟩
theorem AcB{L:WgLink}{p:K7}(H:WgLib p.P L)(hty:p.ty=L.tWg){i C:Nat}{v:Value}{M:Nat->Prop}(hC:M C){c:Frame}{cs:List Frame}{qt:Nat}(hcm:c.mode=.returning)(hT:QuitsD p.P qt 0 (G c cs))
  (w:World) (hl:WgLive p.ty p.Wg w) (hv:w.heap[C]?=some (.cells #[v] 3)) :
  Wk p i C v 0 M 23 (G ((baseD L.done).at ⟨#[.pointer (some ⟨p.Wg,0,none⟩),undef,undef,undef],[]⟩ [.code (body_done L)]) (c::cs)) w:=by
 unfold Wk;have hd:=doneN (P:=p.P) H (Own:=No) (Rd:=No) (Wg:=p.Wg) (C:=C) (n:=1) (Low:=0) (k:=1) (val:=v) hcm hT w ⟨by rw[← hty];exact hl,by show w.cell? ⟨C,0,none⟩=some v;simp[World.cell?,hv]⟩;rw[← hty] at hd;refine XB (I:=PayAt C 1) (λw w' hi hr=>?_) (λw w' es hi hD=>?_) (λg w _ h=>h) (Vr hv) hd
 ·obtain⟨cs,h1,h2⟩:=hi;exact⟨hr.rw hC,cs,(hr.own C hC).trans h1,h2⟩
 ·obtain⟨ha,he⟩:=hD;have hp:=ha.pay hi;obtain⟨cs,h1,h2⟩:=hp;exact⟨⟨⟨ha.tape,ha.os,ha.output,λk=>k.one ha.block h1,ha.size,λb hb=>ha.block b (λe=>hb (e ▸ hC))⟩,λe hx=>Tt (he e hx)⟩,cs,h1,h2⟩
end Go.Proofs.YtmfjakieahkacaaGreatDoor
namespace Go.Proofs.YtmfjakieahkacaaGreatDoor
open Go.Conc Go.Conc.Lib
abbrev Le:WgLink:={add:=72,done:=74,wait:=76,relMerge:=92,disable:=93,enable:=94,inBubble:=95,associate:=96,fatal:=97,uOr:=98,uAdd:=99,raceRead:=100,uLoad:=101,uStore:=102,disassociate:=103,semrelease:=104,acquire:=106,isAssociated:=107,uCas:=108,raceWrite:=109,semacquire:=110,orU64:=120,addU64:=121,loadU64:=122,storeU64:=123,casU64:=124,tWgP:=169,tUP:=112,tAssoc:=171,tWg:=139,tAU:=137,tU64:=135,tUint:=88,tU32:=96,tPU32:=175,tPAU:=191,tPU64:=193,tNoCopy:=133,tANoCopy:=130,tAlign64:=134}
theorem YA:WgLib Tryz.prog Le :=
 ⟨Tryz.func72,Tryz.func74,Tryz.func76,Tryz.func92,Tryz.func93,Tryz.func94,Tryz.func95,Tryz.func96,Tryz.func97,Tryz.func98,Tryz.func99,Tryz.func100,Tryz.func101,Tryz.func102,Tryz.func103,Tryz.func104,Tryz.func106,Tryz.func107,Tryz.func108,Tryz.func109,Tryz.func110,Tryz.func120,Tryz.func121,Tryz.func122,Tryz.func123,Tryz.func124,Tryz.underlying169,Tryz.runUnderlying169,Tryz.sizeOf169,Tryz.isAgg169,Tryz.zeroValue169,Tryz.underlying112,Tryz.runUnderlying112,Tryz.sizeOf112,Tryz.isAgg112,Tryz.zeroValue112,Tryz.underlying171,Tryz.runUnderlying171,Tryz.sizeOf171,Tryz.isAgg171,Tryz.zeroValue171,Tryz.underlying139,Tryz.runUnderlying139,Tryz.sizeOf139,Tryz.isAgg139,Tryz.zeroValue139,Tryz.underlying137,Tryz.runUnderlying137,Tryz.sizeOf137,Tryz.isAgg137,Tryz.zeroValue137,Tryz.underlying135,Tryz.runUnderlying135,Tryz.sizeOf135,Tryz.isAgg135,Tryz.zeroValue135,Tryz.underlying88,Tryz.runUnderlying88,Tryz.sizeOf88,Tryz.isAgg88,Tryz.zeroValue88,Tryz.underlying96,Tryz.runUnderlying96,Tryz.sizeOf96,Tryz.isAgg96,Tryz.zeroValue96,Tryz.underlying175,Tryz.runUnderlying175,Tryz.sizeOf175,Tryz.isAgg175,Tryz.zeroValue175,Tryz.underlying191,Tryz.runUnderlying191,Tryz.sizeOf191,Tryz.isAgg191,Tryz.zeroValue191,Tryz.underlying193,Tryz.runUnderlying193,Tryz.sizeOf193,Tryz.isAgg193,Tryz.zeroValue193,Tryz.underlying0,Tryz.runUnderlying0,Tryz.sizeOf0,Tryz.isAgg0,Tryz.zeroValue0,Tryz.underlying3,Tryz.runUnderlying3,Tryz.sizeOf3,Tryz.isAgg3,Tryz.zeroValue3,Tryz.underlying4,Tryz.runUnderlying4,Tryz.sizeOf4,Tryz.isAgg4,Tryz.zeroValue4,Tryz.underlying9,Tryz.runUnderlying9,Tryz.sizeOf9,Tryz.isAgg9,Tryz.zeroValue9,Tryz.underlying20,Tryz.runUnderlying20,Tryz.sizeOf20,Tryz.isAgg20,Tryz.zeroValue20,Tryz.underlying21,Tryz.runUnderlying21,Tryz.sizeOf21,Tryz.isAgg21,Tryz.zeroValue21,(by kernel_rfl),(by kernel_rfl)⟩
end Go.Proofs.YtmfjakieahkacaaGreatDoor
namespace Go.Proofs.YtmfjakieahkacaaGreatDoor
open Go.Conc Go.ConcN Go.RowKit Go.Conc.Lib Go.ConcR.Gen Go.ConcN.Gen
open Go.ConcR (KK wgBlock WgAt stA smA rd wr mk Payload DC0)
theorem O3{p:K7}{M:Nat->Prop}(w:World):DK p M w w #[]:=⟨.refl w,by simp⟩
theorem Bm{p:K7}{M:Nat->Prop}{w:World}{es:Array Event}(h:∀e∈es,False):DK p M w w es:=⟨.refl w,λe he=>(h e he).elim⟩
theorem Eo{p:K7}{M:Nat->Prop}{a:Addr}{wr:Bool}(hM:M a.block)(hs:¬p.Sh (.cell a)):Vg p M ⟨.cell a,wr,false⟩:=by
 refine⟨λx hx=>?_,by simp,by simp,by simp⟩;simp only[Go.ConcR.ofEvent_cell,MemAct.touch?,Option.some.injEq] at hx;subst hx;exact .inr ⟨rfl,a,rfl,hs,.inr hM⟩
theorem JD{p:K7}{M:Nat->Prop}{a:Addr}(hM:a.block<p.Low)(hs:¬p.Sh (.cell a)):Vg p M ⟨.cell a,false,false⟩:=by
 refine⟨λx hx=>?_,by simp,by simp,by simp⟩;simp only[Go.ConcR.ofEvent_cell,MemAct.touch?,Option.some.injEq] at hx;subst hx;exact .inr ⟨rfl,a,rfl,hs,.inl ⟨hM,rfl⟩⟩
structure TK (p:K7) (C i:Nat) (w:World):Prop where
 live:WgLive p.ty p.Wg w
 sum:El p w
 box:w.heap[C]?=some (.cells #[.int .i64 i] 3)
theorem BT{p:K7}{M:Nat->Prop}{C i:Nat}(hC:M C){w w₁:World}(h:TK p C i w)(r:RK p M w w₁):TK p C i w₁:=⟨r.live h.live,r.sum h.sum,(r.own C hC).trans h.box⟩
theorem TK.cell{p:K7}{C i:Nat}{w:World}(h:TK p C i w):w.cell? ⟨C,0,none⟩=some (.int .i64 i):=by simp[World.cell?,h.box]
def bW:Frame:=baseD 73
noncomputable def Gf:Frame:={(default:Frame) with fn:=Tryz.prog.funcs.size,defers:=[],mode:=.panicking [goexitEntry]}
noncomputable def HJ:Code:=Tryz.f73.body.getD .skip
noncomputable def Gg:Array Oper:=match HJ with | .seq _ (.seq (.region _ o _) _)=>o|_=>#[]
noncomputable def Gh:Code:=match HJ with | .seq _ (.seq _ c)=>c|_=>.skip
def HU(Wg hB C S:Nat):Deferred:={target:=.fn (.func 73) #[.pointer (some ⟨Wg,0,none⟩),.pointer (some ⟨hB,0,none⟩),.pointer (some ⟨C,0,none⟩),.pointer (some ⟨S,0,none⟩)],args:=#[]}
theorem AaU(T:Array Value):QuitsD Tryz.prog 2 0 (G {bW.at ⟨T,[]⟩ [] with mode:=.returning} [Gf]):=by
 refine QuitsD.ctl (g':=G Gf []) rfl (λw=>?_) ?_
 ·simp[G,stepG,unwind,doReturn,results,Frame.at,bW,baseD,Gf,Tryz.func73,Tryz.f73,seen,GStep.after,goexitEntry]
 refine QuitsD.ctl (g':={G Gf [] with status:=.finished}) rfl (λw=>?_) ⟨rfl,rfl⟩;simp[G,stepG,unwind,Gf,goexitEntry,Frame.catches];rfl
section
variable {p:K7} {M:Nat->Prop} {C hB i:Nat}
theorem Vs(hp:p.P=Tryz.prog)(hty:p.ty=139)(hC:M C)(T:Array Value)(w:World)(hF:TK p C i w):
  Wk p i C (.int .i64 i) 0 M 24 (G {bW.at ⟨T,[dcall 74 #[.pointer (some ⟨p.Wg,0,none⟩)]]⟩ [] with mode:=.returning} [Gf]) w:=by
 have hd:=AcB (L:=Le) (p:=p) (by rw[hp];exact YA) hty (i:=i) (v:=.int .i64 i) hC (c:={bW.at ⟨T,[]⟩ [] with mode:=.returning}) (cs:=[Gf]) (qt:=2) rfl (by rw[hp];exact AaU T);unfold Wk at hd ⊢
 refine Goes.step rfl (λ_ h₁=>?_);replace hF:=BT hC hF h₁;clear h₁;rw[hp,stepG_unwind_enter rfl Tryz.func74 (nm_done Le) rfl];simp only[goes_go];refine⟨O3 _,?_⟩;have h1:=hd _ hF.live hF.box;rw[hp] at h1;simp only[body_done,doneFn,Option.getD_some] at h1;exact h1
def EL(p:K7)(hB C i:Nat)(fv r:Value):Array Value:=#[.pointer (some ⟨p.Wg,0,none⟩),.pointer (some ⟨hB,0,none⟩),.pointer (some ⟨C,0,none⟩),.pointer (some ⟨p.S,0,none⟩),fv,.int .i64 i,r,undef,undef,undef]
def Ns(p:K7):List Deferred:=[dcall 74 #[.pointer (some ⟨p.Wg,0,none⟩)]]
theorem AaV(hp:p.P=Tryz.prog)(hty:p.ty=139)(hC:M C)(fv:Value)(w:World)(hF:TK p C i w):
  Wk p i C (.int .i64 i) 0 M 28 (G (bW.at ⟨EL p hB C i fv (.bool false),Ns p⟩ (.inRegion Gg []::[.code Gh])) [Gf]) w:=by
 have hl:=Vs (p:=p) (M:=M) (C:=C) (i:=i) hp hty hC;unfold Wk at hl ⊢
 simp only[EL,Ns,Gg,Gh,HJ,Tryz.f73,Option.getD_some];refine Goes.step rfl (λ_ h₁=>?_);replace hF:=BT hC hF h₁;clear h₁;rw[stepG_region_end];simp only[goes_go];refine⟨O3 _,?_⟩;refine Goes.step rfl (λ_ h₁=>?_);replace hF:=BT hC hF h₁;clear h₁;rw[stepG_cond (t:=false) rfl];simp only[goes_go,Bool.false_eq_true,↓reduceIte];refine⟨O3 _,?_⟩;refine Goes.step rfl (λ_ h₁=>?_);replace hF:=BT hC hF h₁;clear h₁;rw[stepG_skip];simp only[goes_go];refine⟨O3 _,?_⟩;refine Goes.step rfl (λ_ h₁=>?_);replace hF:=BT hC hF h₁;clear h₁;rw[stepG_end];simp only[goes_go];refine⟨O3 _,?_⟩;exact hl _ _ hF
theorem ZJ(hp:p.P=Tryz.prog)(hty:p.ty=139)(_htS:p.tS=132)(o:p.Ok)(hC:M C)(hCL:p.Low<=C)(hi:i<32)(hbit:p.bit i=2 ^ i)(fv:Value)(w:World)(hF:TK p C i w):
  Wk p i C (.int .i64 i) 1 M 40 (G (bW.at ⟨EL p hB C i fv (.bool true),Ns p⟩ (.inRegion Gg []::[.code Gh])) [Gf]) w:=by
 have hl:=Vs (p:=p) (M:=M) (C:=C) (i:=i) hp hty hC;have hnS:¬p.Sh (.cell ⟨C,0,none⟩):=λh=>by have:=o.low h;simp at this;omega
 unfold Wk at hl ⊢
 rw[hp];simp only[hp] at hl;simp only[EL,Ns,Gg,Gh,HJ,Tryz.f73,Option.getD_some];refine Goes.step rfl (λ_ h₁=>?_);replace hF:=BT hC hF h₁;clear h₁;rw[stepG_region_end];simp only[goes_go];refine⟨O3 _,?_⟩;refine Goes.step rfl (λ_ h₁=>?_);replace hF:=BT hC hF h₁;clear h₁;rw[stepG_cond (t:=true) rfl];simp only[goes_go,↓reduceIte];refine⟨O3 _,?_⟩;refine Goes.step rfl (λ_ h₁=>?_);replace hF:=BT hC hF h₁;clear h₁;rw[stepG_region];simp only[goes_go,List.size_toArray,List.length_cons,List.length_nil,Nat.reduceAdd,Nat.zero_add,List.range,List.range.loop];refine⟨O3 _,?_⟩;refine Goes.step rfl (λ_ h₁=>?_);replace hF:=BT hC hF h₁;clear h₁;refine goes_oper_k rfl rfl (by k_ne) (λK hK=>?_);have hc:=hF.cell;go_simp;refine hK _ _ ⟨⟨.refl _,λe he=>?_⟩,?_⟩
 ·have hm:=mem_listed he;simp[go_sem, *] at hm;subst hm;exact Eo hC hnS
 clear hK K hc;have hneg:¬((i:Int)<0):=by omega
 refine Goes.step rfl (λ_ h₁=>?_);replace hF:=BT hC hF h₁;clear h₁;refine goes_oper_k rfl rfl (by k_ne) (λK hK=>?_);go_simp;refine hK _ _ ⟨Bm (by intro e he;have hm:=mem_listed he;first|(simp[go_sem, *] at hm;done)|simp[go_sem,Op.shift, *] at hm),?_⟩;clear hK K
 have hV:IntKind.u32.wrap (1*2 ^ min (i:Int).toNat IntKind.u32.bits)=(p.bit i:Int):=by
  have h1:min (i:Int).toNat IntKind.u32.bits=i:=by simp[IntKind.bits];omega
  have h2:2 ^ i<2 ^ 32:=Nat.pow_lt_pow_right (by omega) hi;have h3:((2:Int) ^ i)=((2 ^ i:Nat):Int):=(Int.natCast_pow 2 i).symm;rw[IntKind.wrap_u32,h1,Int.one_mul,h3,hbit];omega
 have hU:IntKind.u32.wrap (2 ^ i)=(p.bit i:Int):=by
  have h2:2 ^ i<2 ^ 32:=Nat.pow_lt_pow_right (by omega) hi;have h3:((2:Int) ^ i)=((2 ^ i:Nat):Int):=(Int.natCast_pow 2 i).symm;rw[IntKind.wrap_u32,h3,hbit];omega
 first|rw[hV]|rw[hU]
 clear hV hU hneg hbit;try walk_nrm
 refine Goes.step rfl (λ_ h₁=>?_);replace hF:=BT hC hF h₁;clear h₁;refine goes_call rfl rfl (by k_ne) rfl Tryz.func75 (by kernel_rfl) rfl ⟨O3 _,?_⟩;walk_nrmf Tryz.f75
 refine Goes.step rfl (λ_ h₁=>?_);replace hF:=BT hC hF h₁;clear h₁;rw[stepG_seq];simp only[goes_go];refine⟨O3 _,?_⟩;refine Goes.step rfl (λ_ h₁=>?_);replace hF:=BT hC hF h₁;clear h₁;rw[stepG_region];simp only[goes_go,List.size_toArray,List.length_cons,List.length_nil,Nat.zero_add,List.range,List.range.loop];refine⟨O3 _,?_⟩;refine Goes.step rfl (λ_ h₁=>?_);replace hF:=BT hC hF h₁;clear h₁;refine goes_oper_k rfl rfl (by k_ne) (λK hK=>?_);go_simp;refine hK _ _ ⟨Bm (by intro e he;have hm:=mem_listed he;simp[go_sem, *] at hm),?_⟩;clear hK K;try w_num
 refine Goes.step rfl (λ_ h₁=>?_);replace hF:=BT hC hF h₁;clear h₁;rw[stepG_region_end];simp only[goes_go];refine⟨O3 _,?_⟩;refine Goes.step rfl (λ_ h₁=>?_);replace hF:=BT hC hF h₁;clear h₁;rw[stepG_seq];simp only[goes_go];refine⟨O3 _,?_⟩;refine Goes.step rfl (λ_ h₁=>?_);replace hF:=BT hC hF h₁;clear h₁;rw[stepG_region];simp only[goes_go,List.size_toArray,List.length_cons,List.length_nil,Nat.reduceAdd,Nat.zero_add,List.range,List.range.loop];refine⟨O3 _,?_⟩;refine Goes.step rfl (λ_ h₁=>?_);replace hF:=BT hC hF h₁;clear h₁;refine goes_oper_k rfl rfl (by k_ne) (λK hK=>?_);go_simp;refine hK _ _ ⟨Bm (by intro e he;have hm:=mem_listed he;simp[go_sem, *] at hm),?_⟩;clear hK K;try w_num
 refine Goes.step rfl (λ_ h₁=>?_);replace hF:=BT hC hF h₁;clear h₁;refine goes_oper_k rfl rfl (by k_ne) (λK hK=>?_);go_simp;refine hK _ _ ⟨Bm (by intro e he;have hm:=mem_listed he;simp[go_sem, *] at hm),?_⟩;clear hK K;try w_num
 refine Goes.step rfl (λ_ h₁=>?_);replace hF:=BT hC hF h₁;clear h₁;refine goes_oper_k rfl rfl (by k_ne) (λK hK=>?_);go_simp;refine hK _ _ ⟨Bm (by intro e he;have hm:=mem_listed he;simp[go_sem, *] at hm),?_⟩;clear hK K;try w_num
 refine Goes.step rfl (λ_ h₁=>?_);replace hF:=BT hC hF h₁;clear h₁;refine goes_oper_k rfl rfl (by k_ne) (λK hK=>?_);go_simp;refine hK _ _ ⟨Bm (by intro e he;have hm:=mem_listed he;simp[go_sem, *] at hm),?_⟩;clear hK K;try w_num
 refine Goes.stop (λw₂ h₂=>?_);replace hF:=BT hC hF h₂;clear h₂;refine⟨rfl,λs hs hsum=>?_⟩;have hcell:w₂.cell? ⟨p.S,0,none⟩=some (.int .u32 (s:Int)):=by unfold Ah at hsum;simp[World.cell?,hsum]
 have hthaw:w₂.frozen? ⟨p.S,0,none⟩=false:=by unfold Ah at hsum;simp[World.frozen?,hsum]
 have hwrap:IntKind.u32.wrap ((s:Int)+(p.bit i:Int))=((s+p.bit i:Nat):Int):=by rw[IntKind.wrap_u32];omega
 have hCS:C≠p.S:=λe=>by have:=o.s;omega
 have has:=aside_setCell w₂ (sA p) (.int .u32 ((s+p.bit i:Nat):Int))
 have hF2:TK p C i (w₂.setCell (sA p) (.int .u32 ((s+p.bit i:Nat):Int))) :=
  ⟨let ⟨a,b,h⟩:=hF.live;⟨a,b,h.of_block (has.block _ o.ne)⟩,⟨_,hsum.set _⟩,(has.block _ hCS).trans hF.box⟩
 refine⟨_,(by
  rw[hp];exact (stepG_add_atomic rfl rfl (by k_ne) rfl Tryz.func105 (by kernel_rfl) (by kernel_rfl) (by kernel_rfl) .u32 (by kernel_rfl) (ad:=⟨p.S,0,none⟩) (v:=(s:Int)) (d:=(p.bit i:Int)) rfl rfl hcell hthaw).trans (by rw[hwrap];rfl)),33,?_⟩
 clear hF hcell hthaw hwrap has hsum;have hF:=hF2;clear hF2;unfold Wk;rw[hp];walk_nrm
 refine Goes.step rfl (λ_ h₁=>?_);replace hF:=BT hC hF h₁;clear h₁;refine goes_oper_k rfl rfl (by k_ne) (λK hK=>?_);go_simp;refine hK _ _ ⟨Bm (by intro e he;have hm:=mem_listed he;simp[go_sem, *] at hm),?_⟩;clear hK K;try w_num
 refine Goes.step rfl (λ_ h₁=>?_);replace hF:=BT hC hF h₁;clear h₁;rw[stepG_region_end];simp only[goes_go];refine⟨O3 _,?_⟩;refine Goes.step rfl (λ_ h₁=>?_);replace hF:=BT hC hF h₁;clear h₁;rw[stepG_ret'];simp only[goes_go];refine⟨O3 _,?_⟩;refine Goes.step rfl (λ_ h₁=>?_);replace hF:=BT hC hF h₁;clear h₁;refine goes_leave1 rfl rfl Tryz.func75 rfl ⟨O3 _,?_⟩;walk_nrm
 refine Goes.step rfl (λ_ h₁=>?_);replace hF:=BT hC hF h₁;clear h₁;rw[stepG_region_end];simp only[goes_go];refine⟨O3 _,?_⟩;refine Goes.step rfl (λ_ h₁=>?_);replace hF:=BT hC hF h₁;clear h₁;rw[stepG_end];simp only[goes_go];refine⟨O3 _,?_⟩;exact GI (hl _ _ hF) (by omega)
end
theorem P3(p:K7)(M:Nat->Prop):Terms (RK p M) (DK p M):=⟨RK.tr,λw=>O3 w⟩
theorem AcC(p:K7)(M:Nat->Prop):LetsDraw (DK p M):=λw=>⟨⟨rfl,rfl,rfl,id,rfl,λ_ _=>rfl⟩,by simp⟩
theorem XC{p:K7}{M:Nat->Prop}(w:World):RK p M w {w with drawn:=w.drawn+1}:=⟨λ_ _ _ _=>rfl,λ_ _=>rfl,A3 _,id,id⟩
theorem Re{P:Program}{main:Bool}{R:World->World->Prop}{D:World->World->Array Event->Prop}(T:Terms R D){b:Frame}{a:Act}{k:List Item}{cs:List Frame}{w:World}{ops:Array Oper}{i:Nat}{rest:List Nat}{o:Oper}{f:FuncId}{args:Array Value}
  {m:Nat} {Stop:Goroutine->World->Prop} {fn:Func} {c:Code}
  (ho:ops[i]?=some o) (hw:Region.wanted o (yielded ops a.tmps)=true) (hk:b.kind≠.early) (hrun:∀w,(execOp a.eval o).run P w=.ok (.enter f args) w) (hev:∀w,(execOp a.eval o).events P w #[]=#[])
  (hf:P.funcs[f]?=some fn) (hbody:fn.body=some c)
  (hnext:Goes P main R D Stop m (G ((base f).at {tmps:=args++Array.replicate (fn.ntmps-args.size) undef,defers:=[]} [.code c]) (b.at a (.inRegion ops (i::rest)::k)::cs)) w) :
  Goes P main R D Stop (m+1) (G (b.at a (.inRegion ops (i::rest)::k)) cs) w:=by
 refine Goes.step rfl λw₁ h₁=>?_;rw[stepG_enter ho hw hk (hrun w₁),enter_at _ hf hbody];have:listed P b.fn a o w₁=#[]:=by unfold listed;rw[hev w₁];exact seen_none P _
 rw[this];exact⟨T.idle _,hnext.rely T.trans h₁⟩
structure EV (p:K7) (W:World) (C i:Nat) (w:World):Prop where
 tk:TK p C i w
 low:∀b,b<p.Low->b≠p.Wg->b≠p.S->w.heap[b]?=W.heap[b]?
theorem CR{p:K7}{W:World}{M:Nat->Prop}{C i:Nat}(hC:M C){w w₁:World}(h:EV p W C i w)(r:RK p M w w₁):EV p W C i w₁:=⟨BT hC h.tk r,λb h1 h2 h3=>(r.low b h1 h2 h3).trans (h.low b h1 h2 h3)⟩
structure Ep (p:K7) (a:Addr):Prop where
 lt:a.block<p.Low
 sh:¬p.Sh (.cell a)
theorem Ep.wg{p:K7}{a:Addr}(h:Ep p a):a.block≠p.Wg:=λe=>h.sh (.inr (.inl ⟨a,rfl,e⟩))
theorem Ep.s{p:K7}{a:Addr}(h:Ep p a):a.block≠p.S:=λe=>h.sh (.inr (.inr ⟨a,rfl,e⟩))
theorem EV.cell{p:K7}{W:World}{C i:Nat}{w:World}(h:EV p W C i w){a:Addr}(ha:Ep p a):w.cell? a=W.cell? a:=C2 (h.low _ ha.lt ha.wg ha.s)
theorem AaW(Wg hB C S:Nat)(w:World):stepG Tryz.prog false (born Tryz.prog (HU Wg hB C S)) w =
  .go (G (bW.at ⟨#[.pointer (some ⟨Wg,0,none⟩),.pointer (some ⟨hB,0,none⟩),.pointer (some ⟨C,0,none⟩),.pointer (some ⟨S,0,none⟩),undef,undef,undef,undef,undef,undef],[]⟩ [.code HJ]) [Gf]) w #[]:=by
 simp[born,HU,stepG,unwind,callDeferred,invoke,callFunc,Tryz.func73,Tryz.f73,seen,GStep.after,G,Frame.enter,Frame.at,bW,baseD,Gf,HJ]
section
variable {p:K7} {W:World} {M:Nat->Prop} {C hB i:Nat}
end
structure SK (p:K7) (W w:World):Prop where
 tape:w.tape=W.tape
 os:w.os=W.os
 output:w.output=W.output
 nv:NV w
 size:p.Low<=w.heap.size
 low:∀b,b<p.Low->b≠p.Wg->b≠p.S->w.heap[b]?=W.heap[b]?
 sum:El p w
theorem SK.r0{p:K7}{W:World}{M:Nat->Prop}:∀w w',R0 p M w w'->SK p W w->SK p W w':=λ_ _ r h =>
 ⟨r.tape.trans h.tape,r.os.trans h.os,r.output.trans h.output,r.nv h.nv,B3 h.size r.rk.size,λb h1 h2 h3=>(r.rk.low b h1 h2 h3).trans (h.low b h1 h2 h3),r.rk.sum h.sum⟩
theorem SK.turn{p:K7}{W:World}{Z:Nat->Prop}{w w':World}(t:Z8 p Z w w')(hZ:∀b,Z b->b=p.Wg∨b=p.S∨p.Low<=b)(h:SK p W w):SK p W w' :=
 SK.r0 (M:=Mt) _ _ (t.r0 h.size hZ (λ_ hb=>hb.elim)) h
structure SB (p:K7) (W:World) (C j:Nat) (w:World):Prop where
 sk:SK p W w
 lo:p.Low<=C
 box:w.heap[C]?=some (.cells #[.int .i64 j] 3)
theorem SB.r0{p:K7}{W:World}{C j:Nat}:∀w w',R0 p (R6 C) w w'->SB p W C j w->SB p W C j w':=λ_ _ r h=>⟨SK.r0 _ _ r h.sk,h.lo,(r.rk.own C rfl).trans h.box⟩
theorem SK.wg{p:K7}{W:World}(o:p.Ok)(w:World)(a:Addr)(v:Value)(ha:a.block=p.Wg)(hl:WgLive p.ty p.Wg (w.setCell a v))(h:SK p W w):SK p W (w.setCell a v) :=
 h.turn (Z8.wg (by have:=aside_setCell w a v;rwa [ha] at this) hl o.ne) (λb hb=>.inl hb)
theorem FM{w:World}(h:NV w)(a:Addr)(v:Value):NV (w.setCell a v):=by
 intro b x t hx;simp only[World.setCell,Array.getElem?_modify] at hx;split at hx
 ·obtain⟨ob,ho,he⟩:=B6.1 hx;cases ob<;>simp at he
  exact h _ _ _ ho
 ·exact h b x t hx
theorem SK.set{p:K7}{W:World}(o:p.Ok)(w:World)(a:Addr)(v:Value)(ha:a.block=p.Wg)(h:SK p W w):SK p W (w.setCell a v):=by
 have has:=aside_setCell w a v;rw[ha] at has;exact⟨h.tape,h.os,h.output,FM h.nv a v,by rw[has.size];exact h.size,λb h1 h2 h3=>(has.block b h2).trans (h.low b h1 h2 h3),let ⟨s,hs⟩:=h.sum;⟨s,(has.block _ (Ne.symm o.ne)).trans hs⟩⟩
theorem SB.set{p:K7}{W:World}{C j:Nat}(o:p.Ok)(w:World)(v:Value)(h:SB p W C j w):SB p W C j (w.setCell (stA p.Wg) v) :=
 ⟨h.sk.set o w _ v rfl,h.lo,((aside_setCell w (stA p.Wg) v).block C (λe=>by have:=h.lo;have:=o.wg;simp only[stA] at e;omega)).trans h.box⟩
def bN:Frame:=base 50
noncomputable def CT:Code:=Tryz.f50.body.getD .skip
noncomputable def LN:Code:=match CT with | .seq _ (.seq _ (.seq _ (.seq (.seq _ (.block _ (.loop c))) _)))=>c|_=>.skip
noncomputable def RN:Code:=match CT with | .seq _ (.seq _ (.seq _ (.seq _ r)))=>r|_=>.skip
noncomputable def EE:Array Oper:=match RN with | .seq (.region _ o _) _=>o|_=>#[]
noncomputable def PE:Code:=match RN with | .seq _ r=>r|_=>.skip
def Tu(p:K7)(hB j:Nat)(cs:List Frame)(g:Goroutine):Prop :=
 ∃T:Array Value,g=G (bN.at ⟨T,[]⟩ [.code LN,.inLoop LN,.inBlock 0,.code RN]) cs/\T.size=17/\T[3]?=some (.pointer (some ⟨hB,0,none⟩))/\T[5]?=some (.pointer (some ⟨p.S,0,none⟩))/\T[6]?=some (.pointer (some ⟨p.Wg,0,none⟩))/\T[8]?=some (.int .i64 p.n)/\T[9]?=some (.int .i64 j)
theorem JE(T:Array Value)(h:T.size=17):∃v0 v1 v2 v3 v4 v5 v6 v7 v8 v9 v10 v11 v12 v13 v14 v15 v16:Value,T=#[v0,v1,v2,v3,v4,v5,v6,v7,v8,v9,v10,v11,v12,v13,v14,v15,v16]:=by
 obtain⟨l⟩:=T;simp only[List.size_toArray] at h;match l,h with
 | [v0,v1,v2,v3,v4,v5,v6,v7,v8,v9,v10,v11,v12,v13,v14,v15,v16],_=>exact⟨_,_,_,_,_,_,_,_,_,_,_,_,_,_,_,_,_,rfl⟩
noncomputable def cN(T:Array Value):Frame:=bN.at ⟨T,[]⟩ (.inRegion EE [0]::[.code PE])
def RO(p:K7)(W:World)(hB:Nat)(cs:List Frame)(g:Goroutine)(w:World):Prop:=∃T:Array Value,T.size=17/\T[5]?=some (.pointer (some ⟨p.S,0,none⟩))/\T[3]?=some (.pointer (some ⟨hB,0,none⟩))/\Yz Le p (SK p W) (cN T) cs g w
def Of(p:K7)(An:Goroutine->World->Prop):Nat->Goroutine->World->Prop
 | 0=>Cb p Mt .disable An
 | r+1=>L7 p r (Sp p An r)
theorem Vt(p:K7)(An:Goroutine->World->Prop)(r:Nat)(g:Goroutine)(w:World):Sp p An r g w↔∃m,Goes p.P true (R0 p Mt) DC0 (Of p An r) m g w:=by cases r<;>exact Iff.rfl
theorem Cb.mono{p:K7}{M:Nat->Prop}{k:Mark}{S S':Goroutine->World->Prop}(h:∀g w,S g w->S' g w){g:Goroutine}{w:World}(hh:Cb p M k S g w):Cb p M k S' g w :=
 let ⟨h1,g',h2,m,h3⟩:=hh;⟨h1,g',h2,m,EJ (λ_ _ r=>r) (λ_ _ _ d=>d) h h3⟩
theorem AcD:(Tryz.prog.funcs[bN.fn]?).any (·.norace)=false:=by kernel_rfl
theorem AcE(a:Addr)(wr:Bool):seen Tryz.prog bN.fn #[⟨.cell a,wr,false⟩]=#[⟨.cell a,wr,false⟩]:=by
 rw[seen_def,AcD];simp[seenStep]
theorem Mn{s:GStep}{g0:Goroutine}{w0:World}{es0:Array Event}(h:s.goes λg w es=>g=g0/\w=w0/\es=es0):s=.go g0 w0 es0:=by
 cases s with
 | go g w es=>obtain⟨rfl,rfl,rfl⟩:=h;rfl
 | _=>exact h.elim
theorem Cm(w:World)(c:Array Value)(e:TypeId):Tl w (w.alloc (.cells c e)):=by
 have hb:∀b,b<w.heap.size->(w.alloc (.cells c e)).heap[b]?=w.heap[b]?:=λb hb=>Below.heap_alloc w _ b hb;have hs:(w.alloc (.cells c e)).heap.size=w.heap.size+1:=World.size_alloc w _;have hx:(w.alloc (.cells c e)).heap[w.heap.size]?=some (.cells c e):=heap_alloc_new w _;refine⟨rfl,rfl,rfl,λh b a t hh=>?_,hs,hb⟩;rcases Nat.lt_trichotomy b w.heap.size with h1|rfl|h1
 ·rw[hb b h1] at hh;exact h b a t hh
 ·rw[hx] at hh;cases hh
 ·rw[Array.getElem?_eq_none (by omega)] at hh;cases hh
section
variable {p:K7} {W:World} {hB:Nat} {cs:List Frame}
theorem BB{w w₁:World}{M:Nat->Prop}(h:SK p W w/\WgLive p.ty p.Wg w)(r:R0 p M w w₁):SK p W w₁/\WgLive p.ty p.Wg w₁:=⟨SK.r0 _ _ r h.1,r.rk.live h.2⟩
theorem Nt{w w₁:World}{C j:Nat}(h:SB p W C j w/\WgLive p.ty p.Wg w)(r:R0 p (R6 C) w w₁):SB p W C j w₁/\WgLive p.ty p.Wg w₁:=⟨SB.r0 _ _ r h.1,r.rk.live h.2⟩
theorem ZK(hp:p.P=Tryz.prog)(o:p.Ok)(hn:p.n<=100)
  (HW:∀j,j<p.n->∀C w,p.Low<=C->EV p W C j w->∃e m,e<=2/\(e=0->p.bit j=0)/\Wk p j C (.int .i64 j) e (R6 C) m (born Tryz.prog (HU p.Wg hB C p.S)) w) :
  ∀(r j:Nat),j+r=p.n->∃f,∀(g:Goroutine)(w:World),Tu p hB j cs g->SK p W w/\WgLive p.ty p.Wg w->Goes Tryz.prog true (R0 p Mt) DC0 (Of p (RO p W hB cs) r) f g w:=by
 intro r;induction r with
 | zero =>
  intro j hj;refine⟨9+1+3,?_⟩;rintro g w ⟨T,rfl,hT,t3,t5,t6,t8,t9⟩ hF;obtain⟨v0,v1,v2,v3,v4,v5,v6,v7,v8,v9,v10,v11,v12,v13,v14,v15,v16,rfl⟩:=JE T hT;simp only[List.getElem?_toArray,List.getElem?_cons_succ,List.getElem?_cons_zero,Option.some.injEq] at t3 t5 t6 t8 t9;subst t3 t5 t6 t8 t9;have hA:=λ(a₀:Act) (ops₀:Array Oper) (i₀:Nat) (rest₀:List Nat) (k₀:List Item)=>XA (L:=Le) (p:=p) (F:=SK p W) (b₀:=bN) (a₀:=a₀) (ops₀:=ops₀) (i₀:=i₀) (rest₀:=rest₀) (k₀:=k₀) (cs:=cs) (by rw[hp];exact YA) SK.r0;simp only[hp] at hA;simp only[Of,LN,RN,CT,body_wait,Tryz.f50,waitFn,Option.getD_some] at hA ⊢
  obtain rfl:j=p.n:=by omega
  have hnl:¬((p.n:Int)<(p.n:Int)):=by omega
  u_c stepG_seq BB hF
  u_reg BB hF
  u_op BB hF
  u_c stepG_region_end BB hF
  u_c stepG_seq BB hF
  u_cond false BB hF
  u_exit BB hF
  u_c stepG_seq BB hF
  u_reg BB hF
  u_in BB hF
  refine goes_call rfl rfl (by k_ne) rfl Tryz.func76 (nm_wait Le) rfl ⟨by u_nil,?_⟩;walk_nrmf Tryz.f76
  refine EJ (λ_ _ r=>r) (λ_ _ _ d=>d) (λ_ _ y=>Cb.mono (λ_ _ z=>⟨_,?_,?_,?_,z⟩) y) (hA _ _ _ _ _ _ hF)
  ·simp
  ·simp
  ·simp
 | succ r ih =>
  intro j hj;obtain⟨f₁,h₁⟩:=ih (j+1) (by omega);refine⟨12,?_⟩;rintro g w ⟨T,rfl,hT,t3,t5,t6,t8,t9⟩ hF;obtain⟨v0,v1,v2,v3,v4,v5,v6,v7,v8,v9,v10,v11,v12,v13,v14,v15,v16,rfl⟩:=JE T hT;simp only[List.getElem?_toArray,List.getElem?_cons_succ,List.getElem?_cons_zero,Option.some.injEq] at t3 t5 t6 t8 t9;subst t3 t5 t6 t8 t9;have ej:p.n-(r+1)=j:=by omega
  have hlt:(j:Int)<(p.n:Int):=by omega
  simp only[Of,LN,RN,CT,Tryz.f50,Option.getD_some];u_c stepG_seq BB hF
  u_reg BB hF
  u_op BB hF
  u_c stepG_region_end BB hF
  u_c stepG_seq BB hF
  u_cond true BB hF
  u_c stepG_skip BB hF
  u_c stepG_seq BB hF
  u_c stepG_block BB hF
  u_c stepG_seq BB hF
  u_reg BB hF
  u_op BB hF
  refine Goes.stop (λw₁ r₁=>?_);replace hF:=BB hF r₁;clear r₁
  refine⟨rfl,_,_,by rw[hp];exact Mn (by
   refine goes_oper_k rfl rfl (by k_ne) (λK hK=>?_);go_simp;exact hK _ _ ⟨rfl,rfl,listed_nil (by simp[go_sem])⟩),Cm _ _ _,0,?_⟩
  have hgr:=Cm w₁ #[.int .i64 0] 3;have hnew:(w₁.alloc (.cells #[.int .i64 0] 3)).heap[w₁.heap.size]?=some (.cells #[.int .i64 0] 3):=heap_alloc_new w₁ _;have hlo:p.Low<=w₁.heap.size:=hF.1.size;have hW:WgLive p.ty p.Wg (w₁.alloc (.cells #[.int .i64 0] 3)):=(Z8.gr hgr o hF.1.size).live hF.2;have hK:SK p W (w₁.alloc (.cells #[.int .i64 0] 3)):=hF.1.turn (Z8.gr hgr o hF.1.size) (λ_ hb=>hb.elim);clear hF hgr;generalize w₁.alloc (.cells #[.int .i64 0] 3)=w₂ at hnew hW hK ⊢
  generalize w₁.heap.size=C at hnew hlo ⊢
  refine Goes.stop (λw₃ r₃=>?_);have hbx:w₃.heap[C]?=some (.cells #[.int .i64 0] 3):=(r₃.rk.own C rfl).trans hnew;replace hK:=SK.r0 _ _ r₃ hK;replace hW:=r₃.rk.live hW;clear r₃ hnew;have hcell:w₃.cell? ⟨C,0,none⟩=some (.int .i64 0):=by simp[World.cell?,hbx]
  have hthaw:w₃.frozen? ⟨C,0,none⟩=false:=by simp[World.frozen?,hbx]
  have hnS:¬p.Sh (.cell ⟨C,0,none⟩):=λh=>by have:=o.low h;simp at this;omega
  have has:=aside_setCell w₃ ⟨C,0,none⟩ (.int .i64 j)
  have hbx':(w₃.setCell ⟨C,0,none⟩ (.int .i64 j)).heap[C]?=some (.cells #[.int .i64 j] 3):=by
   rw[setCell_eq_setRow w₃ C 0 _ 3 (0,0) _ hbx,setRow_heap w₃ C _ _ 3 _ hbx];simp
  have hown:Em (R6 C) w₃ (w₃.setCell ⟨C,0,none⟩ (.int .i64 j)):=⟨has.tape,has.os,has.output,λh=>FM h _ _,has.size,λb hb=>has.block b hb⟩;have hCW:¬R6 C p.Wg:=λe=>by have:p.Wg=C:=e;have:=o.wg;omega
  have hCS:¬R6 C p.S:=λe=>by have:p.S=C:=e;have:=o.s;omega
  refine⟨rfl,_,w₃.setCell ⟨C,0,none⟩ (.int .i64 j),#[⟨.cell ⟨C,0,none⟩,true,false⟩],by rw[hp];exact Mn (by
   refine goes_oper_k rfl rfl (by k_ne) (λK hK=>?_);go_simp;refine hK _ _ ⟨rfl,rfl,?_⟩;unfold listed;simp[go_sem, *];exact AcE _ _),⟨hown,λe he=>by simp at he;subst he;exact Eo rfl hnS⟩,20,?_⟩
  have hF:SB p W C j (w₃.setCell ⟨C,0,none⟩ (.int .i64 j))/\WgLive p.ty p.Wg (w₃.setCell ⟨C,0,none⟩ (.int .i64 j)) :=
   ⟨⟨hK.turn (Z8.ow hown hCW hCS) (λb hb=>.inr (.inr (by have:b=C:=hb;omega))),hlo,hbx'⟩,(Z8.ow hown hCW hCS).live hW⟩
  generalize w₃.setCell ⟨C,0,none⟩ (.int .i64 j)=w₄ at hF;clear hbx hK hW hcell hthaw has hbx' hown;rw[hp];try walk_nrm
  u_c stepG_region_end Nt hF
  u_c stepG_seq Nt hF
  u_reg Nt hF
  u_in Nt hF
  refine goes_call rfl rfl (by k_ne) rfl Tryz.func72 (nm_add Le) rfl ⟨by u_nil,?_⟩;walk_nrmf Tryz.f72
  have hA:=λ(a₀:Act) (ops₀:Array Oper) (i₀:Nat) (rest₀:List Nat) (k₀:List Item) (mT:Nat)=>AdO (L:=Le) (p:=p) (M:=R6 C) (F:=SB p W C j) (Next:=Mi p (R6 C) (p.n-(r+1)) (Sp p (RO p W hB cs) r)) (b₀:=bN) (a₀:=a₀) (ops₀:=ops₀) (i₀:=i₀) (rest₀:=rest₀) (k₀:=k₀) (cs:=cs) (mT:=mT) (by rw[hp];exact YA) SB.r0 (λw v h=>h.set o w v);simp only[hp,body_add,addFn,Option.getD_some] at hA;refine GI (hA _ _ _ _ _ 6 (λw h1 h2=>?_) _ hF) (by omega);clear hA hF;have hF:=And.intro h1 h2;clear h1 h2;walk_nrm
  u_c stepG_region_end Nt hF
  u_reg Nt hF
  u_in Nt hF
  refine goes_oper_k rfl rfl (by k_ne) (λK hK=>?_);go_simp;refine hK _ _ ⟨by u_none;intro e he;have hm:=mem_listed he;simp[go_sem,Instr.makeFunc] at hm,?_⟩;clear hK K;refine Goes.stop (λw₅ r₅=>?_);replace hF:=Nt hF r₅;clear r₅;obtain⟨e,m,he2,he0,hwk⟩:=HW j (by omega) C w₅ hlo ⟨⟨hF.2,hF.1.sk.sum,hF.1.box⟩,hF.1.sk.low⟩;try walk_nrm
  refine⟨rfl,_,_,by rw[hp];exact (stepG_spawn (d:=HU p.Wg hB C p.S) (w':=w₅) (f:=.func 73) (c:=#[.pointer (some ⟨p.Wg,0,none⟩),.pointer (some ⟨hB,0,none⟩),.pointer (some ⟨C,0,none⟩),.pointer (some ⟨p.S,0,none⟩)]) rfl rfl (by k_ne) (by simp[go_sem,HU,Deferred.ofValue]) rfl).trans (by rw[listed_nil (by simp[go_sem,Deferred.ofValue])]),
   ⟨C,.int .i64 j,e,m,rfl,he2,by rw[ej];exact he0,by rw[ej];exact hwk⟩,?_⟩
  have hF':SK p W w₅/\WgLive p.ty p.Wg w₅:=⟨hF.1.sk,hF.2⟩;clear hF hwk;have hF:=hF';clear hF';refine (Vt _ _ _ _ _).2 ⟨f₁+8,?_⟩;rw[hp];walk_nrm
  u_c stepG_region_end BB hF
  u_c stepG_inBlock BB hF
  u_reg BB hF
  u_op BB hF
  u_op BB hF
  u_c stepG_region_end BB hF
  u_c stepG_inLoop BB hF
  have hw1:IntKind.i64.wrap ((j:Int)+1)=((j+1:Nat):Int):=by rw[IntKind.wrap_i64];omega
  rw[hw1];exact GI (h₁ _ _ ⟨_,rfl,by simp,by simp,by simp,by simp,by simp,by simp⟩ hF) (by omega)
end
end Go.Proofs.YtmfjakieahkacaaGreatDoor
