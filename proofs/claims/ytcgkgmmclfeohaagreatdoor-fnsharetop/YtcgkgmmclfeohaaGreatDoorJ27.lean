/- Workers who read, add to one sum and leave, 7: the starter's Wait. -/
import Derived.Test.YtcgkgmmclfeohaaGreatDoorJ22
import Derived.Conc.CompanyMem
set_option maxRecDepth 100000
set_option maxHeartbeats 8000000
namespace Go.Proofs.YtcgkgmmclfeohaaGreatDoor
open Go.Proofs.Tryz
open Go.Conc Go.ConcN Go.RowKit Go.Conc.Lib Go.ConcR.Gen Go.ConcN.Gen
open Go.ConcR (KK wgBlock WgAt stA smA rd wr mk Payload DC0)
def AnS(L:WgLink)(p:L6)(F:World->Prop)(c:Frame)(cs:List Frame)(g:Goroutine)(w:World):Prop :=
 ∃T:Array Value,g=G ((base L.wait).at ⟨T,[]⟩ [.code (Go.ConcR.Gen.L7 L),.inLoop (Go.ConcR.Gen.L7 L),.inBlock 0]) (c::cs)/\T.size=84/\T[0]?=some (.pointer (some ⟨p.Wg,0,none⟩))/\F w/\WgLive p.ty p.Wg w
def AaG(p:L6)(Stp:Int->Goroutine->World->Prop)(g:Goroutine)(w:World):Prop:=∀s,AE p w s->∃m,Goes p.P true AtRel DC0 (Stp s) m g w
theorem Lp{p:L6}{M:Nat->Prop}{w w₁:World}(h:AtRel w w₁):R0 p M w w₁:=by
 obtain⟨d,rfl⟩:=h;exact⟨rfl,rfl,rfl,id,λ_ _ _ _=>rfl,λ_ _=>rfl,A3 _,id,id⟩
theorem BV{p:L6}{F:World->Prop}{s:Int}(hF2:∀w w',R0 p Mt w w'->F w->F w'){w w₁:World}(h:(F w/\WgLive p.ty p.Wg w)/\AE p w s)(r:AtRel w w₁):(F w₁/\WgLive p.ty p.Wg w₁)/\AE p w₁ s:=by
 refine⟨⟨hF2 _ _ (Lp r) h.1.1,(Lp (p:=p) (M:=Mt) r).rk.live h.1.2⟩,?_⟩;obtain⟨d,rfl⟩:=r;exact h.2
section
variable {L:WgLink} {p:L6} {F:World->Prop} {Stp:Int->Goroutine->World->Prop} {b₀:Frame} {a₀:Act} {ops₀:Array Oper} {i₀:Nat} {rest₀:List Nat} {k₀:List Item} {cs:List Frame} {mT:Nat}
theorem Ahy(H:WgLib p.P L)(hF2:∀w w',R0 p Mt w w'->F w->F w')(hset:∀w a v,a.block=p.Wg->F w->F (w.setCell a v))
  (hT:∀s w,F w->WgLive p.ty p.Wg w->AE p w s->Goes p.P true AtRel DC0 (Stp s) mT (G (b₀.at (a₀.put ((ops₀[i₀]?).bind (·.dst)) (.tuple #[])) (.inRegion ops₀ rest₀::k₀)) cs) w)
  (g:Goroutine) (w:World) (h:AnS L p F (b₀.at a₀ (.inRegion ops₀ (i₀::rest₀)::k₀)) cs g w) :
  ∃m,Goes p.P true (R0 p Mt) DC0 (Gp p (AnS L p F (b₀.at a₀ (.inRegion ops₀ (i₀::rest₀)::k₀)) cs) (AaG p Stp)) m g w:=by
 lib_facts
 obtain⟨T,rfl,a4,t0,hF⟩:=h;obtain⟨v0,v1,v2,v3,v4,v5,v6,v7,v8,v9,a5,a6,a7,a8,a9,b0,b3,b4,b5,b6,b7,b8,b9,c2,c3,c4,c5,c6,c7,c8,c9,d0,d1,d2,d3,d4,d5,d6,d7,d8,d9,e0,e1,e2,e3,e4,e5,e6,e7,e8,e9,f0,f1,f2,f3,f4,f5,f6,f7,f8,f9,g0,g1,g2,g3,g4,g5,g6,g7,g8,g9,h1,h2,h3,h4,h5,h6,h7,h8,h9,i0,i1,i2,i3,rfl⟩:=array84 T a4;simp only[List.getElem?_toArray,List.getElem?_cons_zero,Option.some.injEq] at t0;subst t0;refine⟨30,?_⟩;simp only[Go.ConcR.Gen.L7,body_wait,waitFn,Option.getD_some];u_c stepG_block (D5 hF2) hF
 u_c stepG_seq (D5 hF2) hF
 u_reg (D5 hF2) hF
 u_op (D5 hF2) hF
 u_op (D5 hF2) hF
 u_op (D5 hF2) hF
 u_call H.f_uLoad (nm_uLoad L) uLoadFn (D5 hF2) hF
 u_c stepG_seq (D5 hF2) hF
 u_reg (D5 hF2) hF
 u_op (D5 hF2) hF
 u_c stepG_region_end (D5 hF2) hF
 u_c stepG_seq (D5 hF2) hF
 u_reg (D5 hF2) hF
 u_op (D5 hF2) hF
 u_op (D5 hF2) hF
 u_op (D5 hF2) hF
 refine Goes.stop (λw₁ h₁=>?_);replace hF:=D5 hF2 hF h₁;clear h₁;refine⟨rfl,λv hv hw=>?_⟩;rcases C4 v with rfl|hvp
 ·replace hw:WgAt p.ty p.Wg w₁ 0 0:=by simpa using hw
  refine⟨_,stepG_load_atomic (v:=0) rfl rfl (by k_ne) rfl H.f_loadU64 (x_loadU64_n L) (x_loadU64_b L) (x_loadU64_x L) .u64 (x_loadU64_f L) rfl hw.cellSt,λ_=>⟨50,?_⟩,λh=>absurd rfl h⟩;clear hw;walk_nrm
  u_op (D5 hF2) hF
  u_c stepG_region_end (D5 hF2) hF
  u_c stepG_ret' (D5 hF2) hF
  u_leave1 H.f_uLoad (D5 hF2) hF
  u_op (D5 hF2) hF
  u_c stepG_region_end (D5 hF2) hF
  u_c stepG_seq (D5 hF2) hF
  u_reg (D5 hF2) hF
  u_op (D5 hF2) hF
  u_op (D5 hF2) hF
  u_op (D5 hF2) hF
  u_op (D5 hF2) hF
  u_c stepG_region_end (D5 hF2) hF
  u_c stepG_seq (D5 hF2) hF
  u_reg (D5 hF2) hF
  u_op (D5 hF2) hF
  u_op (D5 hF2) hF
  u_op (D5 hF2) hF
  u_op (D5 hF2) hF
  u_c stepG_region_end (D5 hF2) hF
  u_c stepG_seq (D5 hF2) hF
  u_c stepG_seq (D5 hF2) hF
  u_reg (D5 hF2) hF
  u_op (D5 hF2) hF
  u_op (D5 hF2) hF
  u_c stepG_region_end (D5 hF2) hF
  u_cond true (D5 hF2) hF
  u_c stepG_seq (D5 hF2) hF
  u_cond true (D5 hF2) hF
  u_c stepG_seq (D5 hF2) hF
  u_reg (D5 hF2) hF
  refine Goes.stop (λw₅ h₁=>?_);replace hF:=D5 hF2 hF h₁;clear h₁;refine⟨rfl,_,stepG_mark0 .enable (by simp) rfl rfl (by k_ne) rfl H.f_enable (x_enable_n L) (x_enable_b L) (x_enable_x L) (x_enable_f L),12,?_⟩;walk_nrm
  u_c stepG_region_end (D5 hF2) hF
  u_reg (D5 hF2) hF
  u_op (D5 hF2) hF
  u_in (D5 hF2) hF
  refine goes_oper_k rfl rfl (by k_ne) (λKx hKx=>?_);have a2:=run_convert_to_unsafe (P:=p.P) H.underlying_tWgP H.underlying_tUP H.room_tWg (WgLive.cell0 hF.2).choose_spec;have a0:=λes=>events_convert_to_unsafe (P:=p.P) H.underlying_tWgP H.underlying_tUP H.room_tWg (WgLive.cell0 hF.2).choose_spec es;go_simp;refine hKx _ _ ⟨?_,?_⟩
  ·u_none
   intro ex hex;have a3:=mem_listed hex;simp[go_sem,a0] at a3
  clear hKx Kx a2 a0;refine Goes.stop (λw₆ h₁=>?_);replace hF:=D5 hF2 hF h₁;clear h₁;refine⟨rfl,_,stepG_markAt .acquire (by simp) rfl rfl (by k_ne) rfl H.f_acquire (x_acquire_n L) (x_acquire_b L) (x_acquire_x L) (x_acquire_f L) (by simp[Act.eval,stA]),λs hsum=>⟨mT+20,?_⟩⟩;have hJ:=And.intro hF hsum;clear hF hsum;walk_nrm
  u_c stepG_region_end (BV hF2) hJ
  u_c stepG_seq (BV hF2) hJ
  u_c stepG_seq (BV hF2) hJ
  u_reg (BV hF2) hJ
  u_op (BV hF2) hJ
  u_op (BV hF2) hJ
  u_op (BV hF2) hJ
  u_op (BV hF2) hJ
  u_op (BV hF2) hJ
  u_op (BV hF2) hJ
  u_op (BV hF2) hJ
  u_op (BV hF2) hJ
  u_skip (BV hF2) hJ
  u_skip (BV hF2) hJ
  u_op (BV hF2) hJ
  u_c stepG_region_end (BV hF2) hJ
  u_cond false (BV hF2) hJ
  u_c stepG_skip (BV hF2) hJ
  u_c stepG_ret' (BV hF2) hJ
  u_leave0 H.f_wait (BV hF2) hJ
  exact IZ (hT s _ hJ.1.1 hJ.1.2 hJ.2) (by omega)
 ·obtain⟨S,hS⟩:∃S:Int,(v:Int)*KK=S:=⟨_,rfl⟩;have a1:S / 4294967296=(v:Int):=by rw[← hS];simp only[KK];omega
  have b1:bits .and .u64 S 2147483648=0:=by rw[← hS];have:=st_flag v 0 (by omega) (by omega);simpa [KK] using this
  have b2:bits .and .u64 S 2147483647=0:=by rw[← hS];have:=st_waiters v 0 (by omega) (by omega);simpa [KK] using this
  have c1:IntKind.i32.wrap (v:Int)=(v:Int):=by rw[IntKind.wrap_i32];omega
  have w1:IntKind.u64.wrap (S+1)=S+1:=by rw[IntKind.wrap_u64,← hS];simp only[KK];omega
  have q3:decide ((v:Int)<0)=false:=decide_eq_false (by omega);have q4:decide (0<(v:Int))=true:=decide_eq_true (by omega);have q5:((v:Int)==0)=false:=by simp;omega
  have q6:decide ((v:Int)=0)=false:=decide_eq_false (by omega);rw[hS] at hw;refine⟨_,stepG_load_atomic (v:=S) rfl rfl (by k_ne) rfl H.f_loadU64 (x_loadU64_n L) (x_loadU64_b L) (x_loadU64_x L) .u64 (x_loadU64_f L) rfl hw.cellSt,λh0=>absurd h0 (by omega),λ_=>⟨60,?_⟩⟩;clear hw;walk_nrm
  u_op (D5 hF2) hF
  u_c stepG_region_end (D5 hF2) hF
  u_c stepG_ret' (D5 hF2) hF
  u_leave1 H.f_uLoad (D5 hF2) hF
  u_op (D5 hF2) hF
  u_c stepG_region_end (D5 hF2) hF
  u_c stepG_seq (D5 hF2) hF
  u_reg (D5 hF2) hF
  u_op (D5 hF2) hF
  u_op (D5 hF2) hF
  u_op (D5 hF2) hF
  u_op (D5 hF2) hF
  u_c stepG_region_end (D5 hF2) hF
  u_c stepG_seq (D5 hF2) hF
  u_reg (D5 hF2) hF
  u_op (D5 hF2) hF
  u_op (D5 hF2) hF
  u_op (D5 hF2) hF
  u_op (D5 hF2) hF
  u_c stepG_region_end (D5 hF2) hF
  u_c stepG_seq (D5 hF2) hF
  u_c stepG_seq (D5 hF2) hF
  u_reg (D5 hF2) hF
  u_op (D5 hF2) hF
  u_op (D5 hF2) hF
  u_c stepG_region_end (D5 hF2) hF
  u_cnd false (D5 hF2) hF
  u_c stepG_skip (D5 hF2) hF
  u_c stepG_seq (D5 hF2) hF
  u_reg (D5 hF2) hF
  u_op (D5 hF2) hF
  u_op (D5 hF2) hF
  u_op (D5 hF2) hF
  u_op (D5 hF2) hF
  u_op (D5 hF2) hF
  u_op (D5 hF2) hF
  u_call H.f_uCas (nm_uCas L) uCasFn (D5 hF2) hF
  u_c stepG_seq (D5 hF2) hF
  u_reg (D5 hF2) hF
  u_op (D5 hF2) hF
  u_c stepG_region_end (D5 hF2) hF
  u_c stepG_seq (D5 hF2) hF
  u_reg (D5 hF2) hF
  u_op (D5 hF2) hF
  u_op (D5 hF2) hF
  u_op (D5 hF2) hF
  u_op (D5 hF2) hF
  u_op (D5 hF2) hF
  refine Goes.stop (λw₂ h₁=>?_);replace hF:=D5 hF2 hF h₁;clear h₁;refine⟨rfl,λv' hv' hw=>⟨λe=>?_,λe=>?_⟩⟩
  ·subst e;rw[hS] at hw ⊢
   refine⟨_,(stepG_cas_hit (v:=S) (n:=S+1) rfl rfl (by k_ne) rfl H.f_casU64 (x_casU64_n L) (x_casU64_b L) (x_casU64_x L) .u64 (x_casU64_f L) rfl rfl rfl hw.cellSt (hw.thaw 0)).trans (by rfl),40,?_⟩;replace hF:F (w₂.setCell (stA p.Wg) (.int .u64 (S+1)))/\WgLive p.ty p.Wg (w₂.setCell (stA p.Wg) (.int .u64 (S+1))):=⟨hset _ _ _ rfl hF.1,⟨_,_,hw.setSt _⟩⟩;clear hw;walk_nrm
   u_op (D5 hF2) hF
   u_c stepG_region_end (D5 hF2) hF
   u_c stepG_ret' (D5 hF2) hF
   u_leave1 H.f_uCas (D5 hF2) hF
   u_c stepG_region_end (D5 hF2) hF
   u_cond true (D5 hF2) hF
   u_c stepG_seq (D5 hF2) hF
   u_c stepG_seq (D5 hF2) hF
   u_reg (D5 hF2) hF
   u_op (D5 hF2) hF
   u_op (D5 hF2) hF
   u_op (D5 hF2) hF
   u_op (D5 hF2) hF
   u_c stepG_region_end (D5 hF2) hF
   u_cond true (D5 hF2) hF
   u_reg (D5 hF2) hF
   u_op (D5 hF2) hF
   u_op (D5 hF2) hF
   u_op (D5 hF2) hF
   u_in (D5 hF2) hF
   refine goes_oper_k rfl rfl (by k_ne) (λKx hKx=>?_);have a2:=run_convert_to_unsafe (P:=p.P) H.underlying_tPU32 H.underlying_tUP H.room_tU32 (WgLive.cell1 hF.2).choose_spec;have a0:=λes=>events_convert_to_unsafe (P:=p.P) H.underlying_tPU32 H.underlying_tUP H.room_tU32 (WgLive.cell1 hF.2).choose_spec es;go_simp;refine hKx _ _ ⟨?_,?_⟩
   ·u_none
    intro ex hex;have a3:=mem_listed hex;simp[go_sem,a0] at a3
   clear hKx Kx a2 a0;refine Goes.stop (λw₃ h₁=>?_);replace hF:=D5 hF2 hF h₁;clear h₁;refine⟨rfl,_,stepG_markAt .write (by simp) rfl rfl (by k_ne) rfl H.f_raceWrite (x_raceWrite_n L) (x_raceWrite_b L) (x_raceWrite_x L) (x_raceWrite_f L) (ad:=⟨p.Wg,1,none⟩) (by simp[Act.eval]),40,?_⟩;walk_nrm
   u_c stepG_region_end (D5 hF2) hF
   u_c stepG_seq (D5 hF2) hF
   u_reg (D5 hF2) hF
   u_op (D5 hF2) hF
   u_c stepG_region_end (D5 hF2) hF
   u_c stepG_seq (D5 hF2) hF
   u_c stepG_seq (D5 hF2) hF
   u_reg (D5 hF2) hF
   u_op (D5 hF2) hF
   u_op (D5 hF2) hF
   u_op (D5 hF2) hF
   u_op (D5 hF2) hF
   u_skip (D5 hF2) hF
   u_op (D5 hF2) hF
   u_c stepG_region_end (D5 hF2) hF
   u_cond false (D5 hF2) hF
   u_c stepG_skip (D5 hF2) hF
   u_c stepG_seq (D5 hF2) hF
   u_reg (D5 hF2) hF
   u_op (D5 hF2) hF
   u_op (D5 hF2) hF
   u_op (D5 hF2) hF
   u_op (D5 hF2) hF
   refine Goes.stop (λw₄ h₁=>?_);replace hF:=D5 hF2 hF h₁;clear h₁;refine⟨rfl,rfl,λ⟨st,hw⟩=>stepG_semacquire_wait rfl rfl rfl H.f_semacquire (x_semacquire_n L) (x_semacquire_b L) (x_semacquire_x L) (x_semacquire_f L) (by simp[Act.eval,smA]) hw.cellSm,λhf=>?_⟩;refine⟨_,(stepG_semacquire (n:=1) rfl rfl (by k_ne) rfl H.f_semacquire (x_semacquire_n L) (x_semacquire_b L) (x_semacquire_x L) (x_semacquire_f L) (by simp[Act.eval,smA]) hf.cellSm (by k_ne) (hf.thaw 1)).trans (by rfl),30,?_⟩;replace hF:F (w₄.setCell (smA p.Wg) (.int .u32 0))/\WgLive p.ty p.Wg (w₄.setCell (smA p.Wg) (.int .u32 0)):=⟨hset _ _ _ rfl hF.1,⟨_,_,hf.setSm 0⟩⟩;clear hf;walk_nrm
   u_c stepG_region_end (D5 hF2) hF
   u_c stepG_seq (D5 hF2) hF
   u_reg (D5 hF2) hF
   u_op (D5 hF2) hF
   u_op (D5 hF2) hF
   u_op (D5 hF2) hF
   u_call H.f_uLoad (nm_uLoad L) uLoadFn (D5 hF2) hF
   u_c stepG_seq (D5 hF2) hF
   u_reg (D5 hF2) hF
   u_op (D5 hF2) hF
   u_c stepG_region_end (D5 hF2) hF
   u_c stepG_seq (D5 hF2) hF
   u_reg (D5 hF2) hF
   u_op (D5 hF2) hF
   u_op (D5 hF2) hF
   u_op (D5 hF2) hF
   refine Goes.stop (λw₅ h₁=>?_);replace hF:=D5 hF2 hF h₁;clear h₁;refine⟨rfl,λhw=>⟨_,stepG_load_atomic (v:=0) rfl rfl (by k_ne) rfl H.f_loadU64 (x_loadU64_n L) (x_loadU64_b L) (x_loadU64_x L) .u64 (x_loadU64_f L) rfl hw.cellSt,30,?_⟩⟩;clear hw;walk_nrm
   u_op (D5 hF2) hF
   u_c stepG_region_end (D5 hF2) hF
   u_c stepG_ret' (D5 hF2) hF
   u_leave1 H.f_uLoad (D5 hF2) hF
   u_op (D5 hF2) hF
   u_op (D5 hF2) hF
   u_c stepG_region_end (D5 hF2) hF
   u_c stepG_seq (D5 hF2) hF
   u_cond true (D5 hF2) hF
   u_c stepG_seq (D5 hF2) hF
   u_reg (D5 hF2) hF
   refine Goes.stop (λw₆ h₁=>?_);replace hF:=D5 hF2 hF h₁;clear h₁;refine⟨rfl,_,stepG_mark0 .enable (by simp) rfl rfl (by k_ne) rfl H.f_enable (x_enable_n L) (x_enable_b L) (x_enable_x L) (x_enable_f L),12,?_⟩;walk_nrm
   u_c stepG_region_end (D5 hF2) hF
   u_reg (D5 hF2) hF
   u_op (D5 hF2) hF
   u_in (D5 hF2) hF
   refine goes_oper_k rfl rfl (by k_ne) (λKx hKx=>?_);have a2:=run_convert_to_unsafe (P:=p.P) H.underlying_tWgP H.underlying_tUP H.room_tWg (WgLive.cell0 hF.2).choose_spec;have a0:=λes=>events_convert_to_unsafe (P:=p.P) H.underlying_tWgP H.underlying_tUP H.room_tWg (WgLive.cell0 hF.2).choose_spec es;go_simp;refine hKx _ _ ⟨?_,?_⟩
   ·u_none
    intro ex hex;have a3:=mem_listed hex;simp[go_sem,a0] at a3
   clear hKx Kx a2 a0;refine Goes.stop (λw₇ h₁=>?_);replace hF:=D5 hF2 hF h₁;clear h₁;refine⟨rfl,_,stepG_markAt .acquire (by simp) rfl rfl (by k_ne) rfl H.f_acquire (x_acquire_n L) (x_acquire_b L) (x_acquire_x L) (x_acquire_f L) (by simp[Act.eval,stA]),λs hsum=>⟨mT+20,?_⟩⟩;have hJ:=And.intro hF hsum;clear hF hsum;walk_nrm
   u_c stepG_region_end (BV hF2) hJ
   u_c stepG_seq (BV hF2) hJ
   u_c stepG_seq (BV hF2) hJ
   u_reg (BV hF2) hJ
   u_op (BV hF2) hJ
   u_c stepG_region_end (BV hF2) hJ
   u_cond false (BV hF2) hJ
   u_c stepG_skip (BV hF2) hJ
   u_c stepG_ret' (BV hF2) hJ
   u_leave0 H.f_wait (BV hF2) hJ
   exact IZ (hT s _ hJ.1.1 hJ.1.2 hJ.2) (by omega)
  ·refine⟨_,stepG_cas_miss (v:=(v':Int)*KK) (old:=S) (n:=S+1) rfl rfl (by k_ne) rfl H.f_casU64 (x_casU64_n L) (x_casU64_b L) (x_casU64_x L) .u64 (x_casU64_f L) rfl rfl rfl hw.cellSt (hw.thaw 0) (by rw[← hS];simp only[KK];omega),20,?_⟩;clear hw;walk_nrm
   u_op (D5 hF2) hF
   u_c stepG_region_end (D5 hF2) hF
   u_c stepG_ret' (D5 hF2) hF
   u_leave1 H.f_uCas (D5 hF2) hF
   u_c stepG_region_end (D5 hF2) hF
   u_cond false (D5 hF2) hF
   u_c stepG_skip (D5 hF2) hF
   u_c stepG_inBlock (D5 hF2) hF
   u_c stepG_inLoop (D5 hF2) hF
   refine Goes.stop (λw₃ h₃=>?_);replace hF:=D5 hF2 hF h₃;exact⟨_,rfl,by simp,by simp,hF⟩
theorem AaH(H:WgLib p.P L)(hF2:∀w w',R0 p Mt w w'->F w->F w')(w:World)(hF:F w/\WgLive p.ty p.Wg w):
  Goes p.P true (R0 p Mt) DC0 (Cy p Mt .disable (AnS L p F (b₀.at a₀ (.inRegion ops₀ (i₀::rest₀)::k₀)) cs)) 3
   (G ((base L.wait).at ⟨#[Pz p.Wg 0,undef,undef,undef,undef,undef,undef,undef,undef,undef,undef,undef,undef,undef,undef,undef,undef,undef,undef,undef,undef,undef,undef,undef,undef,undef,undef,undef,undef,undef,undef,undef,undef,undef,undef,undef,undef,undef,undef,undef,undef,undef,undef,undef,undef,undef,undef,undef,undef,undef,undef,undef,undef,undef,undef,undef,undef,undef,undef,undef,undef,undef,undef,undef,undef,undef,undef,undef,undef,undef,undef,undef,undef,undef,undef,undef,undef,undef,undef,undef,undef,undef,undef,undef],[]⟩ [.code (body_wait L)]) (b₀.at a₀ (.inRegion ops₀ (i₀::rest₀)::k₀)::cs)) w:=by
 lib_facts
 simp only[body_wait,waitFn,Option.getD_some];u_c stepG_seq (D5 hF2) hF
 u_cond true (D5 hF2) hF
 u_reg (D5 hF2) hF
 refine Goes.stop (λw₁ h₁=>?_);replace hF:=D5 hF2 hF h₁;clear h₁;refine⟨rfl,_,stepG_mark0 .disable (by simp) rfl rfl (by k_ne) rfl H.f_disable (x_disable_n L) (x_disable_b L) (x_disable_x L) (x_disable_f L),3,?_⟩;walk_nrm
 u_c stepG_region_end (D5 hF2) hF
 u_c stepG_block (D5 hF2) hF
 u_c stepG_loop (D5 hF2) hF
 exact Goes.stop (λw₂ h₂=>⟨_,rfl,by simp,by simp,D5 hF2 hF h₂⟩)
end
theorem AaI{P:Program}{main:Bool}{R R':World->World->Prop}{D D':World->World->Array Event->Prop}{Stop Stop':Goroutine->World->Prop}{I:World->Prop}
  (hR:∀w w',I w->R' w w'->R w w'/\I w') (hD:∀w w' es,I w->D w w' es->D' w w' es/\I w') (hS:∀g w,I w->Stop g w->Stop' g w) {n:Nat} :
  ∀{g:Goroutine} {w:World},I w->Goes P main R D Stop n g w->Goes P main R' D' Stop' n g w:=by
 induction n with
 | zero=>exact λhi h w₁ h₁=>hS _ _ (hR _ _ hi h₁).2 (h w₁ (hR _ _ hi h₁).1)
 | succ n ih =>
  intro g w hi h;rcases h with h|⟨hs,h⟩
  ·exact .inl λw₁ h₁=>hS _ _ (hR _ _ hi h₁).2 (h w₁ (hR _ _ hi h₁).1)
  ·refine .inr ⟨hs,λw₁ h₁=>?_⟩;have h2:=h w₁ (hR _ _ hi h₁).1;have h3:=(hR _ _ hi h₁).2;revert h2
   cases stepG P main g w₁<;>simp only[GStep.goes,imp_self]
   exact λ⟨d,x⟩=>⟨(hD _ _ _ h3 d).1,ih (hD _ _ _ h3 d).2 x⟩
theorem Ww{p:L6}{M:Nat->Prop}{e:Event}(h:EvW p.Wg No No 1 e):Yu p M e:=by
 refine⟨λx hx=>?_,h.2⟩;rcases (h.1 0 "").2 x hx with h1|h1|h1
 ·exact .inl h1
 ·exact h1.elim
 ·exact h1.1.elim
theorem Yz{C:Nat}{w:World}{v:Value}(h:w.heap[C]?=some (Kz [v] 3)):PayAt C 1 w:=⟨#[v],h,rfl⟩
theorem Ahz{L:WgLink}{p:L6}(H:WgLib p.P L)(hty:p.ty=L.tWg){i C:Nat}{v:Value}{M:Nat->Prop}(hC:M C){c:Frame}{cs:List Frame}{qt:Nat}(hcm:c.mode=.returning)(hT:QuitsD p.P qt 0 (G c cs))
  (w:World) (hl:WgLive p.ty p.Wg w) (hv:w.heap[C]?=some (Kz [v] 3)) :
  Wk p i C v 0 M 23 (G ((baseD L.done).at ⟨#[Pz p.Wg 0,undef,undef,undef],[]⟩ [.code (body_done L)]) (c::cs)) w:=by
 unfold Wk;have hd:=doneN (P:=p.P) H (Own:=No) (Rd:=No) (Wg:=p.Wg) (C:=C) (n:=1) (Low:=0) (k:=1) (val:=v) hcm hT w ⟨by rw[← hty];exact hl,by show At w C 0 v;simp[World.cell?,hv]⟩;rw[← hty] at hd;refine AaI (I:=PayAt C 1) (λw w' hi hr=>?_) (λw w' es hi hD=>?_) (λg w _ h=>h) (Yz hv) hd
 ·obtain⟨cs,h1,h2⟩:=hi;exact⟨hr.rw hC,cs,(hr.own C hC).trans h1,h2⟩
 ·obtain⟨ha,he⟩:=hD;have hp:=ha.pay hi;obtain⟨cs,h1,h2⟩:=hp;exact⟨⟨⟨ha.tape,ha.os,ha.output,λk=>k.one ha.block h1,ha.size,λb hb=>ha.block b (λe=>hb (e ▸ hC))⟩,λe hx=>Ww (he e hx)⟩,cs,h1,h2⟩
end Go.Proofs.YtcgkgmmclfeohaaGreatDoor
namespace Go.Proofs.YtcgkgmmclfeohaaGreatDoor
open Go.Proofs.Tryz
open Go.Conc Go.Conc.Lib
abbrev Nj:WgLink:={add:=73,done:=75,wait:=77,relMerge:=90,disable:=91,enable:=92,inBubble:=93,associate:=94,fatal:=95,uOr:=96,uAdd:=97,raceRead:=98,uLoad:=99,uStore:=100,disassociate:=101,semrelease:=102,acquire:=104,isAssociated:=105,uCas:=106,raceWrite:=107,semacquire:=108,orU64:=114,addU64:=115,loadU64:=116,storeU64:=117,casU64:=118,tWgP:=167,tUP:=116,tAssoc:=169,tWg:=143,tAU:=141,tU64:=139,tUint:=101,tU32:=109,tPU32:=173,tPAU:=188,tPU64:=190,tNoCopy:=137,tANoCopy:=134,tAlign64:=138}
theorem wgl:WgLib prog Nj :=
 ⟨func73,func75,func77,func90,func91,func92,func93,func94,func95,func96,func97,func98,func99,func100,func101,func102,func104,func105,func106,func107,func108,func114,func115,func116,func117,func118,underlying167,Tryz.runUnderlying167,Tryz.sizeOf167,Tryz.isAgg167,Tryz.zeroValue167,underlying116,Tryz.runUnderlying116,Tryz.sizeOf116,Tryz.isAgg116,Tryz.zeroValue116,underlying169,Tryz.runUnderlying169,Tryz.sizeOf169,Tryz.isAgg169,Tryz.zeroValue169,underlying143,Tryz.runUnderlying143,Tryz.sizeOf143,Tryz.isAgg143,Tryz.zeroValue143,underlying141,Tryz.runUnderlying141,Tryz.sizeOf141,Tryz.isAgg141,Tryz.zeroValue141,underlying139,Tryz.runUnderlying139,Tryz.sizeOf139,Tryz.isAgg139,Tryz.zeroValue139,underlying101,Tryz.runUnderlying101,Tryz.sizeOf101,Tryz.isAgg101,Tryz.zeroValue101,underlying109,Tryz.runUnderlying109,Tryz.sizeOf109,Tryz.isAgg109,Tryz.zeroValue109,underlying173,Tryz.runUnderlying173,Tryz.sizeOf173,Tryz.isAgg173,Tryz.zeroValue173,underlying188,Tryz.runUnderlying188,Tryz.sizeOf188,Tryz.isAgg188,Tryz.zeroValue188,underlying190,Tryz.runUnderlying190,Tryz.sizeOf190,Tryz.isAgg190,Tryz.zeroValue190,underlying0,Tryz.runUnderlying0,Tryz.sizeOf0,Tryz.isAgg0,Tryz.zeroValue0,underlying3,Tryz.runUnderlying3,Tryz.sizeOf3,Tryz.isAgg3,Tryz.zeroValue3,underlying4,Tryz.runUnderlying4,Tryz.sizeOf4,Tryz.isAgg4,Tryz.zeroValue4,underlying9,Tryz.runUnderlying9,Tryz.sizeOf9,Tryz.isAgg9,Tryz.zeroValue9,underlying20,Tryz.runUnderlying20,Tryz.sizeOf20,Tryz.isAgg20,Tryz.zeroValue20,underlying21,Tryz.runUnderlying21,Tryz.sizeOf21,Tryz.isAgg21,Tryz.zeroValue21,(by kernel_rfl),(by kernel_rfl)⟩
end Go.Proofs.YtcgkgmmclfeohaaGreatDoor
namespace Go.Proofs.YtcgkgmmclfeohaaGreatDoor
open Go.Proofs.Tryz
open Go.Conc Go.ConcN Go.RowKit Go.Conc.Lib Go.ConcR.Gen Go.ConcN.Gen
open Go.ConcR (KK wgBlock WgAt stA smA rd wr mk Payload DC0)
theorem O9{p:L6}{M:Nat->Prop}(w:World):DK p M w w #[]:=⟨.refl w,by simp⟩
theorem BO{p:L6}{M:Nat->Prop}{w:World}{es:Array Event}(h:∀e∈es,False):DK p M w w es:=⟨.refl w,λe he=>(h e he).elim⟩
theorem Fx{p:L6}{M:Nat->Prop}{a:Addr}{wr:Bool}(hM:M a.block)(hs:¬p.Sh (.cell a)):Yu p M ⟨.cell a,wr,false⟩:=by
 refine⟨λx hx=>?_,by simp,by simp,by simp⟩;simp only[Go.ConcR.ofEvent_cell,MemAct.touch?,Option.some.injEq] at hx;subst hx;exact .inr ⟨rfl,a,rfl,hs,.inr hM⟩
theorem Lq{p:L6}{M:Nat->Prop}{a:Addr}(hM:a.block<p.Low)(hs:¬p.Sh (.cell a)):Yu p M ⟨.cell a,false,false⟩:=by
 refine⟨λx hx=>?_,by simp,by simp,by simp⟩;simp only[Go.ConcR.ofEvent_cell,MemAct.touch?,Option.some.injEq] at hx;subst hx;exact .inr ⟨rfl,a,rfl,hs,.inl ⟨hM,rfl⟩⟩
structure TK (p:L6) (C i:Nat) (w:World):Prop where
 live:WgLive p.ty p.Wg w
 sum:Fu p w
 box:w.heap[C]?=some (.cells #[.int .i64 i] 3)
theorem Cl{p:L6}{M:Nat->Prop}{C i:Nat}(hC:M C){w w₁:World}(h:TK p C i w)(r:RK p M w w₁):TK p C i w₁:=⟨r.live h.live,r.sum h.sum,(r.own C hC).trans h.box⟩
theorem TK.cell{p:L6}{C i:Nat}{w:World}(h:TK p C i w):At w C 0 (Iz i):=by simp[World.cell?,h.box]
def bW:Frame:=baseD 74
noncomputable def Iq:Frame:={(default:Frame) with fn:=prog.funcs.size,defers:=[],mode:=.panicking [goexitEntry]}
noncomputable def JE:Code:=Tryz.f74.body.getD .skip
noncomputable def Ir:Array Oper:=match JE with | .seq _ (.seq (.region _ o _) _)=>o|_=>#[]
noncomputable def Is:Code:=match JE with | .seq _ (.seq _ c)=>c|_=>.skip
def JF(Wg hB C S:Nat):Deferred:={target:=.fn (.func 74) #[.pointer (some ⟨Wg,0,none⟩),.pointer (some ⟨hB,0,none⟩),.pointer (some ⟨C,0,none⟩),.pointer (some ⟨S,0,none⟩)],args:=#[]}
theorem AeW(T:Array Value):QuitsD prog 2 0 (G {bW.at ⟨T,[]⟩ [] with mode:=.returning} [Iq]):=by
 refine QuitsD.ctl (g':=G Iq []) rfl (λw=>?_) ?_
 ·simp[G,stepG,unwind,doReturn,results,Frame.at,bW,baseD,Iq,func74,Tryz.f74,seen,GStep.after,goexitEntry]
 refine QuitsD.ctl (g':={G Iq [] with status:=.finished}) rfl (λw=>?_) ⟨rfl,rfl⟩;simp[G,stepG,unwind,Iq,goexitEntry,Frame.catches];rfl
section
variable {p:L6} {M:Nat->Prop} {C hB i:Nat}
theorem YA(hp:p.P=prog)(hty:p.ty=143)(hC:M C)(T:Array Value)(w:World)(hF:TK p C i w):
  Wk p i C (Iz i) 0 M 24 (G {bW.at ⟨T,[dcall 75 #[Pz p.Wg 0]]⟩ [] with mode:=.returning} [Iq]) w:=by
 have hd:=Ahz (L:=Nj) (p:=p) (by rw[hp];exact wgl) hty (i:=i) (v:=.int .i64 i) hC (c:={bW.at ⟨T,[]⟩ [] with mode:=.returning}) (cs:=[Iq]) (qt:=2) rfl (by rw[hp];exact AeW T);unfold Wk at hd ⊢
 refine Goes.step rfl (λ_ h₁=>?_);replace hF:=Cl hC hF h₁;clear h₁;rw[hp,stepG_unwind_enter rfl func75 (nm_done Nj) rfl];simp only[goes_go];refine⟨O9 _,?_⟩;have h1:=hd _ hF.live hF.box;rw[hp] at h1;simp only[body_done,doneFn,Option.getD_some] at h1;exact h1
def Ga(p:L6)(hB C i:Nat)(fv r:Value):Array Value:=#[.pointer (some ⟨p.Wg,0,none⟩),.pointer (some ⟨hB,0,none⟩),.pointer (some ⟨C,0,none⟩),.pointer (some ⟨p.S,0,none⟩),fv,.int .i64 i,r,undef,undef,undef]
def PJ(p:L6):List Deferred:=[dcall 75 #[.pointer (some ⟨p.Wg,0,none⟩)]]
theorem AeX(hp:p.P=prog)(hty:p.ty=143)(hC:M C)(fv:Value)(w:World)(hF:TK p C i w):
  Wk p i C (Iz i) 0 M 28 (G (bW.at ⟨Ga p hB C i fv (.bool false),PJ p⟩ (.inRegion Ir []::[.code Is])) [Iq]) w:=by
 have hl:=YA (p:=p) (M:=M) (C:=C) (i:=i) hp hty hC;unfold Wk at hl ⊢
 simp only[Ga,PJ,Ir,Is,JE,Tryz.f74,Option.getD_some];refine Goes.step rfl (λ_ h₁=>?_);replace hF:=Cl hC hF h₁;clear h₁;rw[stepG_region_end];simp only[goes_go];refine⟨O9 _,?_⟩;refine Goes.step rfl (λ_ h₁=>?_);replace hF:=Cl hC hF h₁;clear h₁;rw[stepG_cond (t:=false) rfl];simp only[goes_go,Bool.false_eq_true,↓reduceIte];refine⟨O9 _,?_⟩;refine Goes.step rfl (λ_ h₁=>?_);replace hF:=Cl hC hF h₁;clear h₁;rw[stepG_skip];simp only[goes_go];refine⟨O9 _,?_⟩;refine Goes.step rfl (λ_ h₁=>?_);replace hF:=Cl hC hF h₁;clear h₁;rw[stepG_end];simp only[goes_go];refine⟨O9 _,?_⟩;exact hl _ _ hF
theorem Adb(hp:p.P=prog)(hty:p.ty=143)(_htS:p.tS=136)(o:p.Ok)(hC:M C)(hCL:p.Low<=C)(hi:i<32)(hbit:p.bit i=2 ^ i)(fv:Value)(w:World)(hF:TK p C i w):
  Wk p i C (Iz i) 1 M 40 (G (bW.at ⟨Ga p hB C i fv (.bool true),PJ p⟩ (.inRegion Ir []::[.code Is])) [Iq]) w:=by
 have hl:=YA (p:=p) (M:=M) (C:=C) (i:=i) hp hty hC;have a6:¬p.Sh (.cell ⟨C,0,none⟩):=λh=>by have:=o.low h;simp at this;omega
 unfold Wk at hl ⊢
 rw[hp];simp only[hp] at hl;simp only[Ga,PJ,Ir,Is,JE,Tryz.f74,Option.getD_some];refine Goes.step rfl (λ_ h₁=>?_);replace hF:=Cl hC hF h₁;clear h₁;rw[stepG_region_end];simp only[goes_go];refine⟨O9 _,?_⟩;refine Goes.step rfl (λ_ h₁=>?_);replace hF:=Cl hC hF h₁;clear h₁;rw[stepG_cond (t:=true) rfl];simp only[goes_go,↓reduceIte];refine⟨O9 _,?_⟩;refine Goes.step rfl (λ_ h₁=>?_);replace hF:=Cl hC hF h₁;clear h₁;rw[stepG_region];simp only[goes_go,List.size_toArray,List.length_cons,List.length_nil,Nat.reduceAdd,Nat.zero_add,List.range,List.range.loop];refine⟨O9 _,?_⟩;refine Goes.step rfl (λ_ h₁=>?_);replace hF:=Cl hC hF h₁;clear h₁;refine goes_oper_k rfl rfl (by k_ne) (λK hK=>?_);have hc:=hF.cell;go_simp;refine hK _ _ ⟨⟨.refl _,λe he=>?_⟩,?_⟩
 ·have hm:=mem_listed he;simp[go_sem, *] at hm;subst hm;exact Fx hC a6
 clear hK K hc;have a3:¬((i:Int)<0):=by omega
 refine Goes.step rfl (λ_ h₁=>?_);replace hF:=Cl hC hF h₁;clear h₁;refine goes_oper_k rfl rfl (by k_ne) (λK hK=>?_);go_simp;refine hK _ _ ⟨BO (by intro e he;have hm:=mem_listed he;first|(simp[go_sem, *] at hm;done)|simp[go_sem,Op.shift, *] at hm),?_⟩;clear hK K
 have hV:IntKind.u32.wrap (1*2 ^ min (i:Int).toNat IntKind.u32.bits)=(p.bit i:Int):=by
  have h1:min (i:Int).toNat IntKind.u32.bits=i:=by simp[IntKind.bits];omega
  have h2:2 ^ i<2 ^ 32:=Nat.pow_lt_pow_right (by omega) hi;have h3:((2:Int) ^ i)=((2 ^ i:Nat):Int):=(Int.natCast_pow 2 i).symm;rw[IntKind.wrap_u32,h1,Int.one_mul,h3,hbit];omega
 have hU:IntKind.u32.wrap (2 ^ i)=(p.bit i:Int):=by
  have h2:2 ^ i<2 ^ 32:=Nat.pow_lt_pow_right (by omega) hi;have h3:((2:Int) ^ i)=((2 ^ i:Nat):Int):=(Int.natCast_pow 2 i).symm;rw[IntKind.wrap_u32,h3,hbit];omega
 first|rw[hV]|rw[hU]
 clear hV hU a3 hbit;try walk_nrm
 refine Goes.step rfl (λ_ h₁=>?_);replace hF:=Cl hC hF h₁;clear h₁;refine goes_call rfl rfl (by k_ne) rfl func76 (by kernel_rfl) rfl ⟨O9 _,?_⟩;walk_nrmf Tryz.f76
 refine Goes.step rfl (λ_ h₁=>?_);replace hF:=Cl hC hF h₁;clear h₁;rw[stepG_seq];simp only[goes_go];refine⟨O9 _,?_⟩;refine Goes.step rfl (λ_ h₁=>?_);replace hF:=Cl hC hF h₁;clear h₁;rw[stepG_region];simp only[goes_go,List.size_toArray,List.length_cons,List.length_nil,Nat.zero_add,List.range,List.range.loop];refine⟨O9 _,?_⟩;refine Goes.step rfl (λ_ h₁=>?_);replace hF:=Cl hC hF h₁;clear h₁;refine goes_oper_k rfl rfl (by k_ne) (λK hK=>?_);go_simp;refine hK _ _ ⟨BO (by intro e he;have hm:=mem_listed he;simp[go_sem, *] at hm),?_⟩;clear hK K;try w_num
 refine Goes.step rfl (λ_ h₁=>?_);replace hF:=Cl hC hF h₁;clear h₁;rw[stepG_region_end];simp only[goes_go];refine⟨O9 _,?_⟩;refine Goes.step rfl (λ_ h₁=>?_);replace hF:=Cl hC hF h₁;clear h₁;rw[stepG_seq];simp only[goes_go];refine⟨O9 _,?_⟩;refine Goes.step rfl (λ_ h₁=>?_);replace hF:=Cl hC hF h₁;clear h₁;rw[stepG_region];simp only[goes_go,List.size_toArray,List.length_cons,List.length_nil,Nat.reduceAdd,Nat.zero_add,List.range,List.range.loop];refine⟨O9 _,?_⟩;refine Goes.step rfl (λ_ h₁=>?_);replace hF:=Cl hC hF h₁;clear h₁;refine goes_oper_k rfl rfl (by k_ne) (λK hK=>?_);go_simp;refine hK _ _ ⟨BO (by intro e he;have hm:=mem_listed he;simp[go_sem, *] at hm),?_⟩;clear hK K;try w_num
 refine Goes.step rfl (λ_ h₁=>?_);replace hF:=Cl hC hF h₁;clear h₁;refine goes_oper_k rfl rfl (by k_ne) (λK hK=>?_);go_simp;refine hK _ _ ⟨BO (by intro e he;have hm:=mem_listed he;simp[go_sem, *] at hm),?_⟩;clear hK K;try w_num
 refine Goes.step rfl (λ_ h₁=>?_);replace hF:=Cl hC hF h₁;clear h₁;refine goes_oper_k rfl rfl (by k_ne) (λK hK=>?_);go_simp;refine hK _ _ ⟨BO (by intro e he;have hm:=mem_listed he;simp[go_sem, *] at hm),?_⟩;clear hK K;try w_num
 refine Goes.step rfl (λ_ h₁=>?_);replace hF:=Cl hC hF h₁;clear h₁;refine goes_oper_k rfl rfl (by k_ne) (λK hK=>?_);go_simp;refine hK _ _ ⟨BO (by intro e he;have hm:=mem_listed he;simp[go_sem, *] at hm),?_⟩;clear hK K;try w_num
 refine Goes.stop (λw₂ h₂=>?_);replace hF:=Cl hC hF h₂;clear h₂;refine⟨rfl,λs hs hsum=>?_⟩;have a0:At w₂ p.S 0 (.int .u32 (s:Int)):=by unfold AE at hsum;simp[World.cell?,hsum]
 have a1:w₂.frozen? ⟨p.S,0,none⟩=false:=by unfold AE at hsum;simp[World.frozen?,hsum]
 have a2:IntKind.u32.wrap ((s:Int)+(p.bit i:Int))=((s+p.bit i:Nat):Int):=by rw[IntKind.wrap_u32];omega
 have a7:C≠p.S:=λe=>by have:=o.s;omega
 have a4:=aside_setCell w₂ (sA p) (.int .u32 ((s+p.bit i:Nat):Int))
 have a5:TK p C i (w₂.setCell (sA p) (.int .u32 ((s+p.bit i:Nat):Int))) :=
  ⟨let ⟨a,b,h⟩:=hF.live;⟨a,b,h.of_block (a4.block _ o.ne)⟩,⟨_,hsum.set _⟩,(a4.block _ a7).trans hF.box⟩
 refine⟨_,(by
  rw[hp];exact (stepG_add_atomic rfl rfl (by k_ne) rfl func103 (by kernel_rfl) (by kernel_rfl) (by kernel_rfl) .u32 (by kernel_rfl) (ad:=⟨p.S,0,none⟩) (v:=(s:Int)) (d:=(p.bit i:Int)) rfl rfl a0 a1).trans (by rw[a2];rfl)),33,?_⟩
 clear hF a0 a1 a2 a4 hsum;have hF:=a5;clear a5;unfold Wk;rw[hp];walk_nrm
 refine Goes.step rfl (λ_ h₁=>?_);replace hF:=Cl hC hF h₁;clear h₁;refine goes_oper_k rfl rfl (by k_ne) (λK hK=>?_);go_simp;refine hK _ _ ⟨BO (by intro e he;have hm:=mem_listed he;simp[go_sem, *] at hm),?_⟩;clear hK K;try w_num
 refine Goes.step rfl (λ_ h₁=>?_);replace hF:=Cl hC hF h₁;clear h₁;rw[stepG_region_end];simp only[goes_go];refine⟨O9 _,?_⟩;refine Goes.step rfl (λ_ h₁=>?_);replace hF:=Cl hC hF h₁;clear h₁;rw[stepG_ret'];simp only[goes_go];refine⟨O9 _,?_⟩;refine Goes.step rfl (λ_ h₁=>?_);replace hF:=Cl hC hF h₁;clear h₁;refine goes_leave1 rfl rfl func76 rfl ⟨O9 _,?_⟩;walk_nrm
 refine Goes.step rfl (λ_ h₁=>?_);replace hF:=Cl hC hF h₁;clear h₁;rw[stepG_region_end];simp only[goes_go];refine⟨O9 _,?_⟩;refine Goes.step rfl (λ_ h₁=>?_);replace hF:=Cl hC hF h₁;clear h₁;rw[stepG_end];simp only[goes_go];refine⟨O9 _,?_⟩;exact IZ (hl _ _ hF) (by omega)
end
theorem R3(p:L6)(M:Nat->Prop):Terms (RK p M) (DK p M):=⟨RK.tr,λw=>O9 w⟩
theorem Ah0(p:L6)(M:Nat->Prop):LetsDraw (DK p M):=λw=>⟨⟨rfl,rfl,rfl,id,rfl,λ_ _=>rfl⟩,by simp⟩
theorem AaJ{p:L6}{M:Nat->Prop}(w:World):RK p M w {w with drawn:=w.drawn+1}:=⟨λ_ _ _ _=>rfl,λ_ _=>rfl,A3 _,id,id⟩
theorem TR{P:Program}{main:Bool}{R:World->World->Prop}{D:World->World->Array Event->Prop}(T:Terms R D){b:Frame}{a:Act}{k:List Item}{cs:List Frame}{w:World}{ops:Array Oper}{i:Nat}{rest:List Nat}{o:Oper}{f:FuncId}{args:Array Value}
  {m:Nat} {Stop:Goroutine->World->Prop} {fn:Func} {c:Code}
  (ho:ops[i]?=some o) (hw:Region.wanted o (yielded ops a.tmps)=true) (hk:b.kind≠.early) (hrun:∀w,(execOp a.eval o).run P w=.ok (.enter f args) w) (hev:∀w,(execOp a.eval o).events P w #[]=#[])
  (hf:P.funcs[f]?=some fn) (hbody:fn.body=some c)
  (hnext:Goes P main R D Stop m (G ((base f).at {tmps:=args++Array.replicate (fn.ntmps-args.size) undef,defers:=[]} [.code c]) (b.at a (.inRegion ops (i::rest)::k)::cs)) w) :
  Goes P main R D Stop (m+1) (G (b.at a (.inRegion ops (i::rest)::k)) cs) w:=by
 refine Goes.step rfl λw₁ h₁=>?_;rw[stepG_enter ho hw hk (hrun w₁),enter_at _ hf hbody];have:listed P b.fn a o w₁=#[]:=by unfold listed;rw[hev w₁];exact seen_none P _
 rw[this];exact⟨T.idle _,hnext.rely T.trans h₁⟩
structure Gr (p:L6) (W:World) (C i:Nat) (w:World):Prop where
 tk:TK p C i w
 low:∀b,b<p.Low->b≠p.Wg->b≠p.S->w.heap[b]?=W.heap[b]?
theorem Du{p:L6}{W:World}{M:Nat->Prop}{C i:Nat}(hC:M C){w w₁:World}(h:Gr p W C i w)(r:RK p M w w₁):Gr p W C i w₁:=⟨Cl hC h.tk r,λb h1 h2 h3=>(r.low b h1 h2 h3).trans (h.low b h1 h2 h3)⟩
structure Fy (p:L6) (a:Addr):Prop where
 lt:a.block<p.Low
 sh:¬p.Sh (.cell a)
theorem Fy.wg{p:L6}{a:Addr}(h:Fy p a):a.block≠p.Wg:=λe=>h.sh (.inr (.inl ⟨a,rfl,e⟩))
theorem Fy.s{p:L6}{a:Addr}(h:Fy p a):a.block≠p.S:=λe=>h.sh (.inr (.inr ⟨a,rfl,e⟩))
theorem Gr.cell{p:L6}{W:World}{C i:Nat}{w:World}(h:Gr p W C i w){a:Addr}(ha:Fy p a):w.cell? a=W.cell? a:=C2 (h.low _ ha.lt ha.wg ha.s)
theorem AeY(Wg hB C S:Nat)(w:World):stepG prog false (born prog (JF Wg hB C S)) w =
  .go (G (bW.at ⟨#[Pz Wg 0,Pz hB 0,Pz C 0,Pz S 0,undef,undef,undef,undef,undef,undef],[]⟩ [.code JE]) [Iq]) w #[]:=by
 simp[born,JF,stepG,unwind,callDeferred,invoke,callFunc,func74,Tryz.f74,seen,GStep.after,G,Frame.enter,Frame.at,bW,baseD,Iq,JE]
section
variable {p:L6} {W:World} {M:Nat->Prop} {C hB i:Nat}
end
end Go.Proofs.YtcgkgmmclfeohaaGreatDoor
