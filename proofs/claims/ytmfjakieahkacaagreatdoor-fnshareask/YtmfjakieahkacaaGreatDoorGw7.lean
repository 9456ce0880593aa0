/- Workers who read, add to one sum and leave, 7: the starter's Wait. -/
import Derived.Test.YtmfjakieahkacaaGreatDoorGw6
set_option maxRecDepth 100000
set_option maxHeartbeats 8000000
namespace Go.Proofs.YtmfjakieahkacaaGreatDoor
open Go.Conc Go.ConcN Go.RowKit Go.Conc.Lib Go.ConcR.Gen Go.ConcN.Gen
open Go.ConcR (KK wgBlock WgAt stA smA rd wr mk Payload DC0)
def Yz(L:WgLink)(p:K7)(F:World->Prop)(c:Frame)(cs:List Frame)(g:Goroutine)(w:World):Prop :=
 ∃T:Array Value,g=G ((base L.wait).at ⟨T,[]⟩ [.code (Go.ConcR.Gen.L7 L),.inLoop (Go.ConcR.Gen.L7 L),.inBlock 0]) (c::cs)/\T.size=84/\T[0]?=some (.pointer (some ⟨p.Wg,0,none⟩))/\F w/\WgLive p.ty p.Wg w
def Xz(p:K7)(Stp:Int->Goroutine->World->Prop)(g:Goroutine)(w:World):Prop:=∀s,Ah p w s->∃m,Goes p.P true AtRel DC0 (Stp s) m g w
theorem JC{p:K7}{M:Nat->Prop}{w w₁:World}(h:AtRel w w₁):R0 p M w w₁:=by
 obtain⟨d,rfl⟩:=h;exact⟨rfl,rfl,rfl,id,λ_ _ _ _=>rfl,λ_ _=>rfl,A3 _,id,id⟩
theorem Bz{p:K7}{F:World->Prop}{s:Int}(hF2:∀w w',R0 p Mt w w'->F w->F w'){w w₁:World}(h:(F w/\WgLive p.ty p.Wg w)/\Ah p w s)(r:AtRel w w₁):(F w₁/\WgLive p.ty p.Wg w₁)/\Ah p w₁ s:=by
 refine⟨⟨hF2 _ _ (JC r) h.1.1,(JC (p:=p) (M:=Mt) r).rk.live h.1.2⟩,?_⟩;obtain⟨d,rfl⟩:=r;exact h.2
section
variable {L:WgLink} {p:K7} {F:World->Prop} {Stp:Int->Goroutine->World->Prop} {b₀:Frame} {a₀:Act} {ops₀:Array Oper} {i₀:Nat} {rest₀:List Nat} {k₀:List Item} {cs:List Frame} {mT:Nat}
theorem AcA(H:WgLib p.P L)(hF2:∀w w',R0 p Mt w w'->F w->F w')(hset:∀w a v,a.block=p.Wg->F w->F (w.setCell a v))
  (hT:∀s w,F w->WgLive p.ty p.Wg w->Ah p w s->Goes p.P true AtRel DC0 (Stp s) mT (G (b₀.at (a₀.put ((ops₀[i₀]?).bind (·.dst)) (.tuple #[])) (.inRegion ops₀ rest₀::k₀)) cs) w)
  (g:Goroutine) (w:World) (h:Yz L p F (b₀.at a₀ (.inRegion ops₀ (i₀::rest₀)::k₀)) cs g w) :
  ∃m,Goes p.P true (R0 p Mt) DC0 (ES p (Yz L p F (b₀.at a₀ (.inRegion ops₀ (i₀::rest₀)::k₀)) cs) (Xz p Stp)) m g w:=by
 lib_facts
 obtain⟨T,rfl,hT84,t0,hF⟩:=h;obtain⟨v0,v1,v2,v3,v4,v5,v6,v7,v8,v9,v10,v11,v12,v13,v14,v15,v16,v17,v18,v19,v20,v21,v22,v23,v24,v25,v26,v27,v28,v29,v30,v31,v32,v33,v34,v35,v36,v37,v38,v39,v40,v41,v42,v43,v44,v45,v46,v47,v48,v49,v50,v51,v52,v53,v54,v55,v56,v57,v58,v59,v60,v61,v62,v63,v64,v65,v66,v67,v68,v69,v70,v71,v72,v73,v74,v75,v76,v77,v78,v79,v80,v81,v82,v83,rfl⟩:=array84 T hT84;simp only[List.getElem?_toArray,List.getElem?_cons_zero,Option.some.injEq] at t0;subst t0;refine⟨30,?_⟩;simp only[Go.ConcR.Gen.L7,body_wait,waitFn,Option.getD_some];u_c stepG_block (D3 hF2) hF
 u_c stepG_seq (D3 hF2) hF
 u_reg (D3 hF2) hF
 u_op (D3 hF2) hF
 u_op (D3 hF2) hF
 u_op (D3 hF2) hF
 u_call H.f_uLoad (nm_uLoad L) uLoadFn (D3 hF2) hF
 u_c stepG_seq (D3 hF2) hF
 u_reg (D3 hF2) hF
 u_op (D3 hF2) hF
 u_c stepG_region_end (D3 hF2) hF
 u_c stepG_seq (D3 hF2) hF
 u_reg (D3 hF2) hF
 u_op (D3 hF2) hF
 u_op (D3 hF2) hF
 u_op (D3 hF2) hF
 refine Goes.stop (λw₁ h₁=>?_);replace hF:=D3 hF2 hF h₁;clear h₁;refine⟨rfl,λv hv hw=>?_⟩;rcases C3 v with rfl|hvp
 ·replace hw:WgAt p.ty p.Wg w₁ 0 0:=by simpa using hw
  refine⟨_,stepG_load_atomic (v:=0) rfl rfl (by k_ne) rfl H.f_loadU64 (x_loadU64_n L) (x_loadU64_b L) (x_loadU64_x L) .u64 (x_loadU64_f L) rfl hw.cellSt,λ_=>⟨50,?_⟩,λh=>absurd rfl h⟩;clear hw;walk_nrm
  u_op (D3 hF2) hF
  u_c stepG_region_end (D3 hF2) hF
  u_c stepG_ret' (D3 hF2) hF
  u_leave1 H.f_uLoad (D3 hF2) hF
  u_op (D3 hF2) hF
  u_c stepG_region_end (D3 hF2) hF
  u_c stepG_seq (D3 hF2) hF
  u_reg (D3 hF2) hF
  u_op (D3 hF2) hF
  u_op (D3 hF2) hF
  u_op (D3 hF2) hF
  u_op (D3 hF2) hF
  u_c stepG_region_end (D3 hF2) hF
  u_c stepG_seq (D3 hF2) hF
  u_reg (D3 hF2) hF
  u_op (D3 hF2) hF
  u_op (D3 hF2) hF
  u_op (D3 hF2) hF
  u_op (D3 hF2) hF
  u_c stepG_region_end (D3 hF2) hF
  u_c stepG_seq (D3 hF2) hF
  u_c stepG_seq (D3 hF2) hF
  u_reg (D3 hF2) hF
  u_op (D3 hF2) hF
  u_op (D3 hF2) hF
  u_c stepG_region_end (D3 hF2) hF
  u_cond true (D3 hF2) hF
  u_c stepG_seq (D3 hF2) hF
  u_cond true (D3 hF2) hF
  u_c stepG_seq (D3 hF2) hF
  u_reg (D3 hF2) hF
  refine Goes.stop (λw₅ h₁=>?_);replace hF:=D3 hF2 hF h₁;clear h₁;refine⟨rfl,_,stepG_mark0 .enable (by simp) rfl rfl (by k_ne) rfl H.f_enable (x_enable_n L) (x_enable_b L) (x_enable_x L) (x_enable_f L),12,?_⟩;walk_nrm
  u_c stepG_region_end (D3 hF2) hF
  u_reg (D3 hF2) hF
  u_op (D3 hF2) hF
  u_in (D3 hF2) hF
  refine goes_oper_k rfl rfl (by k_ne) (λKx hKx=>?_);have hcv:=run_convert_to_unsafe (P:=p.P) H.underlying_tWgP H.underlying_tUP H.room_tWg (WgLive.cell0 hF.2).choose_spec;have hce:=λes=>events_convert_to_unsafe (P:=p.P) H.underlying_tWgP H.underlying_tUP H.room_tWg (WgLive.cell0 hF.2).choose_spec es;go_simp;refine hKx _ _ ⟨?_,?_⟩
  ·u_none
   intro ex hex;have hmx:=mem_listed hex;simp[go_sem,hce] at hmx
  clear hKx Kx hcv hce;refine Goes.stop (λw₆ h₁=>?_);replace hF:=D3 hF2 hF h₁;clear h₁;refine⟨rfl,_,stepG_markAt .acquire (by simp) rfl rfl (by k_ne) rfl H.f_acquire (x_acquire_n L) (x_acquire_b L) (x_acquire_x L) (x_acquire_f L) (by simp[Act.eval,stA]),λs hsum=>⟨mT+20,?_⟩⟩;have hJ:=And.intro hF hsum;clear hF hsum;walk_nrm
  u_c stepG_region_end (Bz hF2) hJ
  u_c stepG_seq (Bz hF2) hJ
  u_c stepG_seq (Bz hF2) hJ
  u_reg (Bz hF2) hJ
  u_op (Bz hF2) hJ
  u_op (Bz hF2) hJ
  u_op (Bz hF2) hJ
  u_op (Bz hF2) hJ
  u_op (Bz hF2) hJ
  u_op (Bz hF2) hJ
  u_op (Bz hF2) hJ
  u_op (Bz hF2) hJ
  u_skip (Bz hF2) hJ
  u_skip (Bz hF2) hJ
  u_op (Bz hF2) hJ
  u_c stepG_region_end (Bz hF2) hJ
  u_cond false (Bz hF2) hJ
  u_c stepG_skip (Bz hF2) hJ
  u_c stepG_ret' (Bz hF2) hJ
  u_leave0 H.f_wait (Bz hF2) hJ
  exact GI (hT s _ hJ.1.1 hJ.1.2 hJ.2) (by omega)
 ·obtain⟨S,hS⟩:∃S:Int,(v:Int)*KK=S:=⟨_,rfl⟩;have a1:S / 4294967296=(v:Int):=by rw[← hS];simp only[KK];omega
  have b1:bits .and .u64 S 2147483648=0:=by rw[← hS];have:=st_flag v 0 (by omega) (by omega);simpa [KK] using this
  have b2:bits .and .u64 S 2147483647=0:=by rw[← hS];have:=st_waiters v 0 (by omega) (by omega);simpa [KK] using this
  have c1:IntKind.i32.wrap (v:Int)=(v:Int):=by rw[IntKind.wrap_i32];omega
  have w1:IntKind.u64.wrap (S+1)=S+1:=by rw[IntKind.wrap_u64,← hS];simp only[KK];omega
  have q3:decide ((v:Int)<0)=false:=decide_eq_false (by omega);have q4:decide (0<(v:Int))=true:=decide_eq_true (by omega);have q5:((v:Int)==0)=false:=by simp;omega
  have q6:decide ((v:Int)=0)=false:=decide_eq_false (by omega);rw[hS] at hw;refine⟨_,stepG_load_atomic (v:=S) rfl rfl (by k_ne) rfl H.f_loadU64 (x_loadU64_n L) (x_loadU64_b L) (x_loadU64_x L) .u64 (x_loadU64_f L) rfl hw.cellSt,λh0=>absurd h0 (by omega),λ_=>⟨60,?_⟩⟩;clear hw;walk_nrm
  u_op (D3 hF2) hF
  u_c stepG_region_end (D3 hF2) hF
  u_c stepG_ret' (D3 hF2) hF
  u_leave1 H.f_uLoad (D3 hF2) hF
  u_op (D3 hF2) hF
  u_c stepG_region_end (D3 hF2) hF
  u_c stepG_seq (D3 hF2) hF
  u_reg (D3 hF2) hF
  u_op (D3 hF2) hF
  u_op (D3 hF2) hF
  u_op (D3 hF2) hF
  u_op (D3 hF2) hF
  u_c stepG_region_end (D3 hF2) hF
  u_c stepG_seq (D3 hF2) hF
  u_reg (D3 hF2) hF
  u_op (D3 hF2) hF
  u_op (D3 hF2) hF
  u_op (D3 hF2) hF
  u_op (D3 hF2) hF
  u_c stepG_region_end (D3 hF2) hF
  u_c stepG_seq (D3 hF2) hF
  u_c stepG_seq (D3 hF2) hF
  u_reg (D3 hF2) hF
  u_op (D3 hF2) hF
  u_op (D3 hF2) hF
  u_c stepG_region_end (D3 hF2) hF
  u_cnd false (D3 hF2) hF
  u_c stepG_skip (D3 hF2) hF
  u_c stepG_seq (D3 hF2) hF
  u_reg (D3 hF2) hF
  u_op (D3 hF2) hF
  u_op (D3 hF2) hF
  u_op (D3 hF2) hF
  u_op (D3 hF2) hF
  u_op (D3 hF2) hF
  u_op (D3 hF2) hF
  u_call H.f_uCas (nm_uCas L) uCasFn (D3 hF2) hF
  u_c stepG_seq (D3 hF2) hF
  u_reg (D3 hF2) hF
  u_op (D3 hF2) hF
  u_c stepG_region_end (D3 hF2) hF
  u_c stepG_seq (D3 hF2) hF
  u_reg (D3 hF2) hF
  u_op (D3 hF2) hF
  u_op (D3 hF2) hF
  u_op (D3 hF2) hF
  u_op (D3 hF2) hF
  u_op (D3 hF2) hF
  refine Goes.stop (λw₂ h₁=>?_);replace hF:=D3 hF2 hF h₁;clear h₁;refine⟨rfl,λv' hv' hw=>⟨λe=>?_,λe=>?_⟩⟩
  ·subst e;rw[hS] at hw ⊢
   refine⟨_,(stepG_cas_hit (v:=S) (n:=S+1) rfl rfl (by k_ne) rfl H.f_casU64 (x_casU64_n L) (x_casU64_b L) (x_casU64_x L) .u64 (x_casU64_f L) rfl rfl rfl hw.cellSt (hw.thaw 0)).trans (by rfl),40,?_⟩;replace hF:F (w₂.setCell (stA p.Wg) (.int .u64 (S+1)))/\WgLive p.ty p.Wg (w₂.setCell (stA p.Wg) (.int .u64 (S+1))):=⟨hset _ _ _ rfl hF.1,⟨_,_,hw.setSt _⟩⟩;clear hw;walk_nrm
   u_op (D3 hF2) hF
   u_c stepG_region_end (D3 hF2) hF
   u_c stepG_ret' (D3 hF2) hF
   u_leave1 H.f_uCas (D3 hF2) hF
   u_c stepG_region_end (D3 hF2) hF
   u_cond true (D3 hF2) hF
   u_c stepG_seq (D3 hF2) hF
   u_c stepG_seq (D3 hF2) hF
   u_reg (D3 hF2) hF
   u_op (D3 hF2) hF
   u_op (D3 hF2) hF
   u_op (D3 hF2) hF
   u_op (D3 hF2) hF
   u_c stepG_region_end (D3 hF2) hF
   u_cond true (D3 hF2) hF
   u_reg (D3 hF2) hF
   u_op (D3 hF2) hF
   u_op (D3 hF2) hF
   u_op (D3 hF2) hF
   u_in (D3 hF2) hF
   refine goes_oper_k rfl rfl (by k_ne) (λKx hKx=>?_);have hcv:=run_convert_to_unsafe (P:=p.P) H.underlying_tPU32 H.underlying_tUP H.room_tU32 (WgLive.cell1 hF.2).choose_spec;have hce:=λes=>events_convert_to_unsafe (P:=p.P) H.underlying_tPU32 H.underlying_tUP H.room_tU32 (WgLive.cell1 hF.2).choose_spec es;go_simp;refine hKx _ _ ⟨?_,?_⟩
   ·u_none
    intro ex hex;have hmx:=mem_listed hex;simp[go_sem,hce] at hmx
   clear hKx Kx hcv hce;refine Goes.stop (λw₃ h₁=>?_);replace hF:=D3 hF2 hF h₁;clear h₁;refine⟨rfl,_,stepG_markAt .write (by simp) rfl rfl (by k_ne) rfl H.f_raceWrite (x_raceWrite_n L) (x_raceWrite_b L) (x_raceWrite_x L) (x_raceWrite_f L) (ad:=⟨p.Wg,1,none⟩) (by simp[Act.eval]),40,?_⟩;walk_nrm
   u_c stepG_region_end (D3 hF2) hF
   u_c stepG_seq (D3 hF2) hF
   u_reg (D3 hF2) hF
   u_op (D3 hF2) hF
   u_c stepG_region_end (D3 hF2) hF
   u_c stepG_seq (D3 hF2) hF
   u_c stepG_seq (D3 hF2) hF
   u_reg (D3 hF2) hF
   u_op (D3 hF2) hF
   u_op (D3 hF2) hF
   u_op (D3 hF2) hF
   u_op (D3 hF2) hF
   u_skip (D3 hF2) hF
   u_op (D3 hF2) hF
   u_c stepG_region_end (D3 hF2) hF
   u_cond false (D3 hF2) hF
   u_c stepG_skip (D3 hF2) hF
   u_c stepG_seq (D3 hF2) hF
   u_reg (D3 hF2) hF
   u_op (D3 hF2) hF
   u_op (D3 hF2) hF
   u_op (D3 hF2) hF
   u_op (D3 hF2) hF
   refine Goes.stop (λw₄ h₁=>?_);replace hF:=D3 hF2 hF h₁;clear h₁;refine⟨rfl,rfl,λ⟨st,hw⟩=>stepG_semacquire_wait rfl rfl rfl H.f_semacquire (x_semacquire_n L) (x_semacquire_b L) (x_semacquire_x L) (x_semacquire_f L) (by simp[Act.eval,smA]) hw.cellSm,λhf=>?_⟩;refine⟨_,(stepG_semacquire (n:=1) rfl rfl (by k_ne) rfl H.f_semacquire (x_semacquire_n L) (x_semacquire_b L) (x_semacquire_x L) (x_semacquire_f L) (by simp[Act.eval,smA]) hf.cellSm (by k_ne) (hf.thaw 1)).trans (by rfl),30,?_⟩;replace hF:F (w₄.setCell (smA p.Wg) (.int .u32 0))/\WgLive p.ty p.Wg (w₄.setCell (smA p.Wg) (.int .u32 0)):=⟨hset _ _ _ rfl hF.1,⟨_,_,hf.setSm 0⟩⟩;clear hf;walk_nrm
   u_c stepG_region_end (D3 hF2) hF
   u_c stepG_seq (D3 hF2) hF
   u_reg (D3 hF2) hF
   u_op (D3 hF2) hF
   u_op (D3 hF2) hF
   u_op (D3 hF2) hF
   u_call H.f_uLoad (nm_uLoad L) uLoadFn (D3 hF2) hF
   u_c stepG_seq (D3 hF2) hF
   u_reg (D3 hF2) hF
   u_op (D3 hF2) hF
   u_c stepG_region_end (D3 hF2) hF
   u_c stepG_seq (D3 hF2) hF
   u_reg (D3 hF2) hF
   u_op (D3 hF2) hF
   u_op (D3 hF2) hF
   u_op (D3 hF2) hF
   refine Goes.stop (λw₅ h₁=>?_);replace hF:=D3 hF2 hF h₁;clear h₁;refine⟨rfl,λhw=>⟨_,stepG_load_atomic (v:=0) rfl rfl (by k_ne) rfl H.f_loadU64 (x_loadU64_n L) (x_loadU64_b L) (x_loadU64_x L) .u64 (x_loadU64_f L) rfl hw.cellSt,30,?_⟩⟩;clear hw;walk_nrm
   u_op (D3 hF2) hF
   u_c stepG_region_end (D3 hF2) hF
   u_c stepG_ret' (D3 hF2) hF
   u_leave1 H.f_uLoad (D3 hF2) hF
   u_op (D3 hF2) hF
   u_op (D3 hF2) hF
   u_c stepG_region_end (D3 hF2) hF
   u_c stepG_seq (D3 hF2) hF
   u_cond true (D3 hF2) hF
   u_c stepG_seq (D3 hF2) hF
   u_reg (D3 hF2) hF
   refine Goes.stop (λw₆ h₁=>?_);replace hF:=D3 hF2 hF h₁;clear h₁;refine⟨rfl,_,stepG_mark0 .enable (by simp) rfl rfl (by k_ne) rfl H.f_enable (x_enable_n L) (x_enable_b L) (x_enable_x L) (x_enable_f L),12,?_⟩;walk_nrm
   u_c stepG_region_end (D3 hF2) hF
   u_reg (D3 hF2) hF
   u_op (D3 hF2) hF
   u_in (D3 hF2) hF
   refine goes_oper_k rfl rfl (by k_ne) (λKx hKx=>?_);have hcv:=run_convert_to_unsafe (P:=p.P) H.underlying_tWgP H.underlying_tUP H.room_tWg (WgLive.cell0 hF.2).choose_spec;have hce:=λes=>events_convert_to_unsafe (P:=p.P) H.underlying_tWgP H.underlying_tUP H.room_tWg (WgLive.cell0 hF.2).choose_spec es;go_simp;refine hKx _ _ ⟨?_,?_⟩
   ·u_none
    intro ex hex;have hmx:=mem_listed hex;simp[go_sem,hce] at hmx
   clear hKx Kx hcv hce;refine Goes.stop (λw₇ h₁=>?_);replace hF:=D3 hF2 hF h₁;clear h₁;refine⟨rfl,_,stepG_markAt .acquire (by simp) rfl rfl (by k_ne) rfl H.f_acquire (x_acquire_n L) (x_acquire_b L) (x_acquire_x L) (x_acquire_f L) (by simp[Act.eval,stA]),λs hsum=>⟨mT+20,?_⟩⟩;have hJ:=And.intro hF hsum;clear hF hsum;walk_nrm
   u_c stepG_region_end (Bz hF2) hJ
   u_c stepG_seq (Bz hF2) hJ
   u_c stepG_seq (Bz hF2) hJ
   u_reg (Bz hF2) hJ
   u_op (Bz hF2) hJ
   u_c stepG_region_end (Bz hF2) hJ
   u_cond false (Bz hF2) hJ
   u_c stepG_skip (Bz hF2) hJ
   u_c stepG_ret' (Bz hF2) hJ
   u_leave0 H.f_wait (Bz hF2) hJ
   exact GI (hT s _ hJ.1.1 hJ.1.2 hJ.2) (by omega)
  ·refine⟨_,stepG_cas_miss (v:=(v':Int)*KK) (old:=S) (n:=S+1) rfl rfl (by k_ne) rfl H.f_casU64 (x_casU64_n L) (x_casU64_b L) (x_casU64_x L) .u64 (x_casU64_f L) rfl rfl rfl hw.cellSt (hw.thaw 0) (by rw[← hS];simp only[KK];omega),20,?_⟩;clear hw;walk_nrm
   u_op (D3 hF2) hF
   u_c stepG_region_end (D3 hF2) hF
   u_c stepG_ret' (D3 hF2) hF
   u_leave1 H.f_uCas (D3 hF2) hF
   u_c stepG_region_end (D3 hF2) hF
   u_cond false (D3 hF2) hF
   u_c stepG_skip (D3 hF2) hF
   u_c stepG_inBlock (D3 hF2) hF
   u_c stepG_inLoop (D3 hF2) hF
   refine Goes.stop (λw₃ h₃=>?_);replace hF:=D3 hF2 hF h₃;exact⟨_,rfl,by simp,by simp,hF⟩
theorem XA(H:WgLib p.P L)(hF2:∀w w',R0 p Mt w w'->F w->F w')(w:World)(hF:F w/\WgLive p.ty p.Wg w):
  Goes p.P true (R0 p Mt) DC0 (Cb p Mt .disable (Yz L p F (b₀.at a₀ (.inRegion ops₀ (i₀::rest₀)::k₀)) cs)) 3
   (G ((base L.wait).at ⟨#[.pointer (some ⟨p.Wg,0,none⟩),undef,undef,undef,undef,undef,undef,undef,undef,undef,undef,undef,undef,undef,undef,undef,undef,undef,undef,undef,undef,undef,undef,undef,undef,undef,undef,undef,undef,undef,undef,undef,undef,undef,undef,undef,undef,undef,undef,undef,undef,undef,undef,undef,undef,undef,undef,undef,undef,undef,undef,undef,undef,undef,undef,undef,undef,undef,undef,undef,undef,undef,undef,undef,undef,undef,undef,undef,undef,undef,undef,undef,undef,undef,undef,undef,undef,undef,undef,undef,undef,undef,undef,undef],[]⟩ [.code (body_wait L)]) (b₀.at a₀ (.inRegion ops₀ (i₀::rest₀)::k₀)::cs)) w:=by
 lib_facts
 simp only[body_wait,waitFn,Option.getD_some];u_c stepG_seq (D3 hF2) hF
 u_cond true (D3 hF2) hF
 u_reg (D3 hF2) hF
 refine Goes.stop (λw₁ h₁=>?_);replace hF:=D3 hF2 hF h₁;clear h₁;refine⟨rfl,_,stepG_mark0 .disable (by simp) rfl rfl (by k_ne) rfl H.f_disable (x_disable_n L) (x_disable_b L) (x_disable_x L) (x_disable_f L),3,?_⟩;walk_nrm
 u_c stepG_region_end (D3 hF2) hF
 u_c stepG_block (D3 hF2) hF
 u_c stepG_loop (D3 hF2) hF
 exact Goes.stop (λw₂ h₂=>⟨_,rfl,by simp,by simp,D3 hF2 hF h₂⟩)
end
end Go.Proofs.YtmfjakieahkacaaGreatDoor
