/- The share's goroutines, 8: the names of those of whom something holds (picked). -/
import Derived.Test.YtmfjakieahkacaaGreatDoorJ33
import Derived.Test.YtmfjakieahkacaaGreatDoorJ29
import Derived.Test.YtmfjakieahkacaaGreatDoorJ14
import Derived.Test.YtmfjakieahkacaaGreatDoorKp7
namespace Go.Proofs.YtmfjakieahkacaaGreatDoor
open Go.Conc Go.ConcN Go.RowKit Go.Conc.Lib Go.ConcR.Gen Go.ConcN.Gen
open Go.ConcR (KK wgBlock WgAt stA smA rd wr mk Payload DC0)
theorem RZ(hb:Nat->Bool):∀n k,k<n->(sumTo n (λj=>if hb j then 2 ^ j else 0)).testBit k=hb k
 | 0,k,h=>by omega
 | n+1,k,h=>by
  have hlt:=Ig hb n;simp only[sumTo];by_cases hk:k=n
  ·subst hk;cases hb k with
   | true=>rw[Nat.add_comm];simp[Nat.testBit_two_pow_add_eq,Nat.testBit_lt_two_pow hlt]
   | false=>simp[Nat.testBit_lt_two_pow hlt]
  ·rw[← RZ hb n k (by omega)];cases hb n with
   | true=>simp only[if_true];rw[Nat.add_comm,Nat.testBit_two_pow_add_gt (by omega)]
   | false=>simp
theorem Abg(a b:Value):Frame.enter Tryz.prog 50 #[a,b] .normal=bN.at ⟨#[a,b,undef,undef,undef,undef,undef,undef,undef,undef,undef,undef,undef,undef,undef,undef,undef],[]⟩ [.code CT]:=by
 simp[Frame.enter,Frame.at,Tryz.func50,bN,base,CT,Tryz.f50]
theorem BG{Shun:Loc->Prop}{a:Addr}{B0:Nat}(hM:a.block<B0)(hs:¬Shun (.cell a)):EvL Shun B0 ⟨.cell a,false,false⟩:=by
 refine⟨λx hx h=>?_,by simp,by simp,hM⟩;simp only[Go.ConcR.ofEvent_cell,MemAct.touch?,Option.some.injEq] at hx;subst hx;exact absurd h hs
noncomputable def bP:Frame:=base 31
noncomputable def Ln:Array Oper:=match EA with | .seq _ (.seq (.region _ o _) _)=>o|_=>#[]
def VT(tb:Nat)(fv x5 x9 x10 x11 x12 x13 x14 x15:Value):Array Value:=#[.pointer (some ⟨tb,0,none⟩),fv,undef,undef,.slice none 0 0,x5,undef,undef,undef,x9,x10,x11,x12,x13,x14,x15,undef,undef,undef,undef,undef,undef,undef,undef,undef,undef,undef,undef,undef,undef,undef,undef,undef,undef,undef,undef,undef,undef]
section
variable {X:Nat->Prop} {Shun:Loc->Prop} {W:World} {tb n cap:Nat} {ra:Option Addr} {f:FuncId} {bd cp:Array Value} {c:Frame} {cs:List Frame}
set_option maxRecDepth 100000 in
theorem AcI(hX:AH Shun X){τ:Nat->Question->Nat}{d:Nat}(hc:(E0 X W τ d).cell? ⟨tb,0,none⟩=some (.slice ra n cap)):
  Goes Tryz.prog true AtRel (DE (EvL Shun W.heap.size)) (λg w=>∃x9 x10 x11 x12 x13 x14,g=G (Frame.enter Tryz.prog 50 #[.int .i64 n,.func (.func f) bd cp] .normal) (bP.at ⟨VT tb (.func (.func f) bd cp) undef x9 x10 x11 x12 x13 x14 undef,[]⟩ (.inRegion Ln [6,7]::[.code RP])::c::cs)/\AtRel W w) 30
   (G (Frame.enter Tryz.prog 31 #[.pointer (some ⟨tb,0,none⟩),.func (.func f) bd cp] .normal) (c::cs)) W:=by
 obtain⟨hc,hx⟩:=Dm hc;have hlt:=World.block_lt_of_cell? W _ hc;have hns:¬Shun (.cell ⟨tb,0,none⟩):=λh=>by obtain⟨a,e,ha⟩:=hX _ h;cases e;exact hx ha
 have e:Frame.enter Tryz.prog 31 #[.pointer (some ⟨tb,0,none⟩),.func (.func f) bd cp] .normal=bP.at ⟨#[.pointer (some ⟨tb,0,none⟩),.func (.func f) bd cp,undef,undef,undef,undef,undef,undef,undef,undef,undef,undef,undef,undef,undef,undef,undef,undef,undef,undef,undef,undef,undef,undef,undef,undef,undef,undef,undef,undef,undef,undef,undef,undef,undef,undef,undef,undef],[]⟩ [.code EA]:=by
  simp[Frame.enter,Frame.at,Tryz.func31,bP,base,EA,Tryz.f31]
 rw[e];simp only[VT,Ln,RP,EA,Tryz.f31,Option.getD_some];have rl:∀{V w w₁:World},AtRel V w->AtRel w w₁->AtRel V w₁:=λh r=>atRel_trans _ _ _ h r;have hF:AtRel W W:=atRel_refl W;u_c stepG_seq rl hF
 u_reg rl hF
 u_op rl hF
 u_c stepG_region_end rl hF
 u_c stepG_seq rl hF
 u_reg rl hF
 u_op rl hF
 u_op rl hF
 u_op rl hF
 u_in rl hF
 refine goes_oper_k rfl rfl (by k_ne) (λK hK=>?_);have hc':(‹World›).cell? ⟨tb,0,none⟩=some (.slice ra n cap):=by obtain⟨d,rfl⟩:=hF;exact hc
 go_simp;refine hK _ _ ⟨λe he=>?_,?_⟩
 ·have hm:=mem_listed he;simp[go_sem, *] at hm;subst hm;exact BG hlt hns
 clear hK K hc';try walk_nrm
 u_op rl hF
 u_op rl hF
 u_in rl hF
 refine goes_call rfl rfl (by k_ne) rfl Tryz.func50 (by kernel_rfl) rfl ⟨λe he=>by simp at he,?_⟩;walk_nrmf Tryz.f50
 refine Goes.stop λw₁ r=>⟨.pointer (some ⟨tb,0,none⟩),.pointer (some ⟨tb,0,none⟩),.pointer (some ⟨tb,0,none⟩),.slice ra n cap,.int .i64 n,.func (.func f) bd cp,?_,rl hF r⟩;rw[Abg];simp only[CT,Tryz.f50,Option.getD_some];rfl
set_option maxRecDepth 100000 in
theorem AdQ{fv x9 x10 x11 x12 x13 x14 s:Value}(w:World):
  Goes Tryz.prog true AtRel (DE λ_=>False) (λg w'=>g=G (bP.at ⟨VT tb fv s x9 x10 x11 x12 x13 x14 s,[]⟩ [.code RP]) (c::cs)/\AtRel w w') 5
   (G (bP.at ((⟨VT tb fv undef x9 x10 x11 x12 x13 x14 undef,[]⟩:Act).put ((Ln[6]?).bind (·.dst)) s) (.inRegion Ln [7]::[.code RP])) (c::cs)) w:=by
 simp only[VT,Ln,RP,EA,Tryz.f31,Option.getD_some];have rl:∀{V w w₁:World},AtRel V w->AtRel w w₁->AtRel V w₁:=λh r=>atRel_trans _ _ _ h r;have hF:AtRel w w:=atRel_refl w;walk_nrm
 u_op rl hF
 u_c stepG_region_end rl hF
 exact Goes.stop λw₁ r=>⟨rfl,rl hF r⟩
end
theorem AcJ:N0 Tryz.prog (λg=>([]:List Nat).contains g):=XE (by kernel_rfl)
theorem XR{Shun:Loc->Prop}{W:World}{n:Nat}{hb:Nat->Bool}{fv:Value}(h:JI Shun W n hb fv)(d:Nat):JI Shun (W.at d) n hb fv :=
 λp h1 h2 h3 h4 h5 h6 h7 h8 h9 j hj C w hC hW=>h p h1 h2 h3 h4 h5 h6 h7 h8 h9 j hj C w hC ⟨hW.tk,hW.low⟩
theorem Aft.below{X:Nat->Prop}{W w:World}(h:Aft X W w)(τ:Nat->Question->Nat)(d:Nat):Below W.heap.size (E0 X W τ d) (E0 (λb=>X b∨b=W.heap.size+1∨b=W.heap.size+2) w τ d) :=
 Ie h.os h.output (by have:=h.size;omega) h.low (λb hb=>⟨λhx=>by rcases hx with hx|hx|hx<;>first|exact hx|omega,.inl⟩) τ d
theorem XS{X:Nat->Prop}{Shun:Loc->Prop}{W:World}{tb:Nat}{tg:List ByteArray}{ts:List Tr}{hb:Nat->Bool}{f:FuncId}{bd cp:Array Value}(hX:AH Shun X)(hbW:N9 X W)(hT:∀τ d,AK (E0 X W τ d) tb tg ts)(h5:ts.length<=5)(HW:JI Shun W ts.length hb (.func (.func f) bd cp)):
  CD Tryz.prog 31 #[.pointer (some ⟨tb,0,none⟩),.func (.func f) bd cp] X Shun W λv u=>E5 u W.heap.size v (pk hb (ts.map (·.1.nm)) ts.length):=by
 intro Post c cs gs sl t hh k
 obtain⟨ra,rc,hc⟩:∃ra rc,(E0 X W (λ_ _=>0) 0).cell? ⟨tb,0,none⟩=some (.slice ra ts.length rc):=by
  obtain⟨rv,hC,hown⟩:=hT (λ_ _=>0) 0;have t0:=hC.1 0 _ rfl;rcases hown.2 with⟨h0,h1⟩|⟨g,cap,cur,hv,_⟩
  ·exact⟨none,0,by rw[t0,h0,h1]⟩
  ·exact⟨_,_,by rw[t0,hv]⟩
 refine X4 (D:=DE (EvL Shun W.heap.size)) (B0:=W.heap.size) (λ_ _ _ h=>h) hh (AcI hX hc) λgs1 a1 w1 sl1 t1 hh1 hst=>?_;obtain⟨x9,x10,x11,x12,x13,x14,rfl,d1,rfl⟩:=hst;refine TG hX (W:=W.at d1) (hbW.at d1) h5 (XR HW d1) hh1 λgs2 w2 sl2 t2 hh2 ha=>?_;refine X4 (D:=DE λ_=>False) (B0:=0) (λ_ _ _ h e he=>(h e he).elim) hh2 (AdQ w2) λgs3 a3 w3 sl3 t3 hh3 hst3=>?_;obtain⟨rfl,d3,rfl⟩:=hst3
 have hX':AH (λl=>Shun l∨ShN (W.heap.size+2) l∨ShN (W.heap.size+1) l) (λb=>X b∨b=W.heap.size+1∨b=W.heap.size+2):=λl hl=>by
  rcases hl with h|⟨a,rfl,e⟩|⟨a,rfl,e⟩
  ·obtain⟨a,e,h1⟩:=hX l h;exact⟨a,e,.inl h1⟩
  ·exact⟨a,rfl,.inr (.inr e)⟩
  ·exact⟨a,rfl,.inr (.inl e)⟩
 have hbe:∀τ d,Below W.heap.size (E0 X W τ d) (E0 (λb=>X b∨b=W.heap.size+1∨b=W.heap.size+2) w2 τ d):=λτ d=>ha.below τ d;have hsz:W.heap.size<=w2.heap.size:=by have:=ha.size;simp only[World.at] at this;omega
 have hs1:=Ig hb ts.length;have hs2:2 ^ ts.length<=2 ^ 5:=Nat.pow_le_pow_right (by omega) h5;have hpk:pk (λk=>(sumTo ts.length (λj=>if hb j then 2 ^ j else 0)).testBit k) (ts.map (·.1.nm)) ts.length=pk hb (ts.map (·.1.nm)) ts.length:=Po _ _ λk hk=>RZ hb _ k hk;refine Y8 (X:=λb=>X b∨b=W.heap.size+1∨b=W.heap.size+2) hX' hh3 (VO AcJ (b:=bP) ⟨rfl,_,Tryz.func31⟩ rfl (by kernel_rfl) Tryz.func31 (N9.at ha.base d3) (R:=λv u=>∃τ d,E5 u W.heap.size v (pk hb (ts.map (·.1.nm)) ts.length)/\Below W.heap.size (E0 X W τ d) u) (λτ d=>AG (N9.at ha.base d3) (λτ d=>?_) τ d) c cs) λgs4 a4 w4 sl4 t4 hh4 hst4=>?_
 ·refine Xi tb tg ts _ _ _ _ _ _ _ _ _ _ ?_ h5 (by omega) (λv w' h1 h2=>⟨τ,d,?_,?_⟩)
  ·exact AK.up (hT τ d) (by rw[K5];exact hbe τ d)
  ·rw[hpk] at h1;exact N3 h1 (by rw[K5];exact hsz)
  ·rw[K5] at h2;exact (hbe τ d).trans (h2.mono hsz)
 ·obtain⟨v,rfl,hb4,hR⟩:=hst4;exact k _ _ gs4 w4 sl4 t4 v hX' (λb hb=>by rcases hb with h|h|h<;>first|exact .inl h|exact .inr (by omega)) hh4 hb4 λτ d=>U6 (λu τ d h=>h) (hR τ d)
end Go.Proofs.YtmfjakieahkacaaGreatDoor
namespace Go.Proofs.YtmfjakieahkacaaGreatDoor
open Go.Conc Go.ConcN Go.RowKit Go.Conc.Lib Go.ConcR.Gen Go.ConcN.Gen
def VU(b:Bk)(j:Nat):Nat:=F0 b.tg (D2 ((b.bs[j]?.map (·.has)).getD []))
def VV(b:Bk)(j:Nat):Nat:=F0 b.tg (D2 ((b.bs[j]?.map (·.nd)).getD []))
theorem Abh(x y:Value):Frame.enter Tryz.prog 31 #[x,y] .normal=bP.at ⟨#[x,y,undef,undef,undef,undef,undef,undef,undef,undef,undef,undef,undef,undef,undef,undef,undef,undef,undef,undef,undef,undef,undef,undef,undef,undef,undef,undef,undef,undef,undef,undef,undef,undef,undef,undef,undef,undef],[]⟩ [.code EA]:=by
 simp[Frame.enter,Frame.at,Tryz.func31,bP,base,EA,Tryz.f31]
theorem VW(bs:List Ba):(V6 bs bs.length).map (·.1.nm)=I9 bs:=by
 rw[V6,List.take_length,List.map_map];rfl
theorem Sa{bs:List Ba}{i:Nat}(h:i<bs.length):(V6 bs bs.length)[i]?=some (bs[i],false):=by
 rw[V6,List.take_length,A9,A0 h];rfl
theorem Aq.imp{Q Q':World->Prop}{u:World}(h:Aq Q u)(k:∀u,Q u->Q' u):Aq Q' u:=let ⟨u0,h1,h2⟩:=h;⟨u0,k _ h1,h2⟩
theorem Aaa(u:World)(base:Nat):E5 u base (.slice none 0 0) []:=⟨by simp,.inl ⟨rfl,rfl⟩⟩
theorem Abi(tb:Nat)(tg:List ByteArray)(ts:List Tr):P4 (λu=>AK u tb tg ts):=λ_ _ _ h=>h
theorem XT{w:World}{v:Value}{b:Bk}(h:K0 w v b):∀s∈I9 b.bs,s.size<=maxLen:=λs hs=>by
 obtain⟨tv,bv,rfl,-,a,c,rfl,-,hpos⟩:=h;obtain⟨x,hx,rfl⟩:=List.mem_map.1 hs;obtain⟨i,hi,rfl⟩:=B7 hx;obtain⟨b,o,rfl,hS,hb⟩:=hpos (by omega);exact (hS.at hi).batch
end Go.Proofs.YtmfjakieahkacaaGreatDoor
