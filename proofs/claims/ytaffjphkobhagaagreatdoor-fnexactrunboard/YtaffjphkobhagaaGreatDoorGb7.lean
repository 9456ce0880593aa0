/- Workers who make what they like, send one value and leave, 7: the starter's Wait. -/
import Derived.Test.YtaffjphkobhagaaGreatDoorJ8
set_option maxRecDepth 100000
set_option maxHeartbeats 8000000
namespace Go.Proofs.YtaffjphkobhagaaGreatDoor
variable{s:List Nat}{M:Nat->Prop}{w w₁:World}
namespace Bd
open Go.Conc Go.ConcN Go.RowKit Go.Conc.Lib Go.ConcR.Gen Go.ConcN.Gen
open Go.ConcR (KK wgBlock WgAt stA smA rd wr mk Payload DC0)
def VG(L:WgLink)(p:F5)(F:World->Prop)(c:Frame)(cs:List Frame)(g:Goroutine)(w:World):Prop :=
 ∃T:Array Value,g=G ((base L.wait).at ⟨T,[]⟩ [.code (Go.ConcR.Gen.L7 L),.inLoop (Go.ConcR.Gen.L7 L),.inBlock 0]) (c::cs)/\T.size=84/\T[0]?=some (.pointer (some ⟨p.Wg,0,none⟩))/\F w/\WgLive p.ty p.Wg w
def AbB(p:F5)(Stp:List Nat->Goroutine->World->Prop)(g:Goroutine)(w:World):Prop:=∀s,BP p w s->∃m,Goes p.P true AtRel DC0 (Stp s) m g w
theorem Qp{p:F5}(h:AtRel w w₁):R0 p M w w₁:=by
 obtain⟨d,rfl⟩:=h;exact⟨rfl,rfl,rfl,id,λ_ _ _ _=>rfl,λ_ _=>rfl,A3 _,id,id⟩
theorem Ao{p:F5}{F:World->Prop}(hF2:∀w w',R0 p Mt w w'->F w->F w')(h:(F w/\WgLive p.ty p.Wg w)/\BP p w s)(r:AtRel w w₁):(F w₁/\WgLive p.ty p.Wg w₁)/\BP p w₁ s:=by
 refine⟨⟨hF2 _ _ (Qp r) h.1.1,(Qp (p:=p) (M:=Mt) r).rk.live h.1.2⟩,?_⟩;obtain⟨d,rfl⟩:=r;exact h.2
section
variable {L:WgLink} {p:F5} {F:World->Prop} {Stp:List Nat->Goroutine->World->Prop} {b₀:Frame} {a₀:Act} {ops₀:Array Oper} {i₀:Nat} {rest₀:List Nat} {k₀:List Item} {cs:List Frame} {mT:Nat}
theorem AgU(H:WgLib p.P L)(hF2:∀w w',R0 p Mt w w'->F w->F w')(hset:∀w a v,a.block=p.Wg->F w->F (w.setCell a v))
  (hT:∀s w,F w->WgLive p.ty p.Wg w->BP p w s->Goes p.P true AtRel DC0 (Stp s) mT (G (b₀.at (a₀.put ((ops₀[i₀]?).bind (·.dst)) (.tuple #[])) (.inRegion ops₀ rest₀::k₀)) cs) w)
  (g:Goroutine) (w:World) (h:VG L p F (b₀.at a₀ (.inRegion ops₀ (i₀::rest₀)::k₀)) cs g w) :
  ∃m,Goes p.P true (R0 p Mt) DC0 (ET p (VG L p F (b₀.at a₀ (.inRegion ops₀ (i₀::rest₀)::k₀)) cs) (AbB p Stp)) m g w:=by
 lib_facts
 obtain⟨T,rfl,a4,t0,hF⟩:=h;obtain⟨v0,v1,v2,v3,v4,v5,v6,v7,v8,v9,a5,a6,a7,a8,a9,b0,b3,b4,b5,b6,b7,b8,b9,c2,c3,c4,c5,c6,c7,c8,c9,d0,d1,d2,d3,d4,d5,d6,d7,d8,d9,e0,e1,e2,e3,e4,e5,e6,e7,e8,e9,f0,f1,f2,f3,f4,f5,f6,f7,f8,f9,g0,g1,g2,g3,g4,g5,g6,g7,g8,g9,h1,h2,h3,h4,h5,h6,h7,h8,h9,i0,i1,i2,i3,rfl⟩:=array84 T a4;simp only[List.getElem?_toArray,List.getElem?_cons_zero,Option.some.injEq] at t0;subst t0;refine⟨30,?_⟩;simp only[Go.ConcR.Gen.L7,body_wait,waitFn,Option.getD_some];u_c stepG_block (D5 hF2) hF
 u_c stepG_seq (D5 hF2) hF
 u_reg (D5 hF2) hF
 iterate 3 u_op (D5 hF2) hF
 u_call H.f_uLoad (nm_uLoad L) uLoadFn (D5 hF2) hF
 u_c stepG_seq (D5 hF2) hF
 u_reg (D5 hF2) hF
 u_op (D5 hF2) hF
 u_c stepG_region_end (D5 hF2) hF
 u_c stepG_seq (D5 hF2) hF
 u_reg (D5 hF2) hF
 iterate 3 u_op (D5 hF2) hF
 refine Goes.stop (λw₁ qb=>?_);replace hF:=D5 hF2 hF qb;clear qb;refine⟨rfl,λv hv hw=>?_⟩;rcases C3 v with rfl|hvp
 .replace hw:WgAt p.ty p.Wg w₁ 0 0:=by simpa using hw
  refine⟨_,stepG_load_atomic (v:=0) rfl rfl (by k_ne) rfl H.f_loadU64 (x_loadU64_n L) (x_loadU64_b L) (x_loadU64_x L) .u64 (x_loadU64_f L) rfl hw.cellSt,λ_=>⟨50,?_⟩,λh=>absurd rfl h⟩;clear hw;walk_nrm
  u_op (D5 hF2) hF
  u_c stepG_region_end (D5 hF2) hF
  u_c stepG_ret' (D5 hF2) hF
  u_leave1 H.f_uLoad (D5 hF2) hF
  u_op (D5 hF2) hF
  u_c stepG_region_end (D5 hF2) hF
  u_c stepG_seq (D5 hF2) hF
  u_reg (D5 hF2) hF
  iterate 4 u_op (D5 hF2) hF
  u_c stepG_region_end (D5 hF2) hF
  u_c stepG_seq (D5 hF2) hF
  u_reg (D5 hF2) hF
  iterate 4 u_op (D5 hF2) hF
  u_c stepG_region_end (D5 hF2) hF
  iterate 2 u_c stepG_seq (D5 hF2) hF
  u_reg (D5 hF2) hF
  iterate 2 u_op (D5 hF2) hF
  u_c stepG_region_end (D5 hF2) hF
  u_cond true (D5 hF2) hF
  u_c stepG_seq (D5 hF2) hF
  u_cond true (D5 hF2) hF
  u_c stepG_seq (D5 hF2) hF
  u_reg (D5 hF2) hF
  refine Goes.stop (λqn qb=>?_);replace hF:=D5 hF2 hF qb;clear qb;refine⟨rfl,_,stepG_mark0 .enable dC rfl rfl (by k_ne) rfl H.f_enable (x_enable_n L) (x_enable_b L) (x_enable_x L) (x_enable_f L),12,?_⟩;walk_nrm
  u_c stepG_region_end (D5 hF2) hF
  u_reg (D5 hF2) hF
  u_op (D5 hF2) hF
  u_in (D5 hF2) hF
  refine goes_oper_k rfl rfl (by k_ne) (λKx hKx=>?_);have a2:=run_convert_to_unsafe (P:=p.P) H.underlying_tWgP H.underlying_tUP H.room_tWg (WgLive.cell0 hF.2).choose_spec;have a0:=λes=>events_convert_to_unsafe (P:=p.P) H.underlying_tWgP H.underlying_tUP H.room_tWg (WgLive.cell0 hF.2).choose_spec es;go_simp;refine hKx _ _ ⟨?_,?_⟩
  .u_none
   intro ex hex;have a3:=mem_listed hex;simp[go_sem,a0] at a3
  clear hKx Kx a2 a0;refine Goes.stop (λqr qb=>?_);replace hF:=D5 hF2 hF qb;clear qb;refine⟨rfl,_,stepG_markAt .acquire dC rfl rfl (by k_ne) rfl H.f_acquire (x_acquire_n L) (x_acquire_b L) (x_acquire_x L) (x_acquire_f L) (by simp[Act.eval,stA]),λs hsum=>⟨mT+20,?_⟩⟩;have hJ:=And.intro hF hsum;clear hF hsum;walk_nrm
  u_c stepG_region_end (Ao hF2) hJ
  iterate 2 u_c stepG_seq (Ao hF2) hJ
  u_reg (Ao hF2) hJ
  iterate 8 u_op (Ao hF2) hJ
  iterate 2 u_skip (Ao hF2) hJ
  u_op (Ao hF2) hJ
  u_c stepG_region_end (Ao hF2) hJ
  u_cond false (Ao hF2) hJ
  u_c stepG_skip (Ao hF2) hJ
  u_c stepG_ret' (Ao hF2) hJ
  u_leave0 H.f_wait (Ao hF2) hJ
  exact VB (hT s _ hJ.1.1 hJ.1.2 hJ.2) oM
 .obtain⟨S,hS⟩:∃S:Int,(v:Int)*KK=S:=⟨_,rfl⟩;have a1:S / 4294967296=(v:Int):=by rw[← hS];simp only[KK];omega
  have b1:bits .and .u64 S 2147483648=0:=by rw[← hS];have:=st_flag v 0 oM oM;simpa [KK] using this
  have b2:bits .and .u64 S 2147483647=0:=by rw[← hS];have:=st_waiters v 0 oM oM;simpa [KK] using this
  have c1:IntKind.i32.wrap (v:Int)=(v:Int):=by rw[IntKind.wrap_i32];omega
  have w1:IntKind.u64.wrap (S+1)=S+1:=by rw[IntKind.wrap_u64,← hS];simp only[KK];omega
  have q3:decide ((v:Int)<0)=false:=decide_eq_false oM;have q4:decide (0<(v:Int))=true:=decide_eq_true oM;have q5:((v:Int)==0)=false:=gG
  have q6:decide ((v:Int)=0)=false:=decide_eq_false oM;rw[hS] at hw;refine⟨_,stepG_load_atomic (v:=S) rfl rfl (by k_ne) rfl H.f_loadU64 (x_loadU64_n L) (x_loadU64_b L) (x_loadU64_x L) .u64 (x_loadU64_f L) rfl hw.cellSt,λh0=>absurd h0 oM,λ_=>⟨60,?_⟩⟩;clear hw;walk_nrm
  u_op (D5 hF2) hF
  u_c stepG_region_end (D5 hF2) hF
  u_c stepG_ret' (D5 hF2) hF
  u_leave1 H.f_uLoad (D5 hF2) hF
  u_op (D5 hF2) hF
  u_c stepG_region_end (D5 hF2) hF
  u_c stepG_seq (D5 hF2) hF
  u_reg (D5 hF2) hF
  iterate 4 u_op (D5 hF2) hF
  u_c stepG_region_end (D5 hF2) hF
  u_c stepG_seq (D5 hF2) hF
  u_reg (D5 hF2) hF
  iterate 4 u_op (D5 hF2) hF
  u_c stepG_region_end (D5 hF2) hF
  iterate 2 u_c stepG_seq (D5 hF2) hF
  u_reg (D5 hF2) hF
  iterate 2 u_op (D5 hF2) hF
  u_c stepG_region_end (D5 hF2) hF
  u_cnd false (D5 hF2) hF
  u_c stepG_skip (D5 hF2) hF
  u_c stepG_seq (D5 hF2) hF
  u_reg (D5 hF2) hF
  iterate 6 u_op (D5 hF2) hF
  u_call H.f_uCas (nm_uCas L) uCasFn (D5 hF2) hF
  u_c stepG_seq (D5 hF2) hF
  u_reg (D5 hF2) hF
  u_op (D5 hF2) hF
  u_c stepG_region_end (D5 hF2) hF
  u_c stepG_seq (D5 hF2) hF
  u_reg (D5 hF2) hF
  iterate 5 u_op (D5 hF2) hF
  refine Goes.stop (λqc qb=>?_);replace hF:=D5 hF2 hF qb;clear qb;refine⟨rfl,λv' hv' hw=>⟨λe=>?_,λe=>?_⟩⟩
  .subst e;rw[hS] at hw ⊢
   refine⟨_,(stepG_cas_hit (v:=S) (n:=S+1) rfl rfl (by k_ne) rfl H.f_casU64 (x_casU64_n L) (x_casU64_b L) (x_casU64_x L) .u64 (x_casU64_f L) rfl rfl rfl hw.cellSt (hw.thaw 0)).trans (by rfl),40,?_⟩;replace hF:F (qc.setCell (stA p.Wg) (.int .u64 (S+1)))/\WgLive p.ty p.Wg (qc.setCell (stA p.Wg) (.int .u64 (S+1))):=⟨hset _ _ _ rfl hF.1,⟨_,_,hw.setSt _⟩⟩;clear hw;walk_nrm
   u_op (D5 hF2) hF
   u_c stepG_region_end (D5 hF2) hF
   u_c stepG_ret' (D5 hF2) hF
   u_leave1 H.f_uCas (D5 hF2) hF
   u_c stepG_region_end (D5 hF2) hF
   u_cond true (D5 hF2) hF
   iterate 2 u_c stepG_seq (D5 hF2) hF
   u_reg (D5 hF2) hF
   iterate 4 u_op (D5 hF2) hF
   u_c stepG_region_end (D5 hF2) hF
   u_cond true (D5 hF2) hF
   u_reg (D5 hF2) hF
   iterate 3 u_op (D5 hF2) hF
   u_in (D5 hF2) hF
   refine goes_oper_k rfl rfl (by k_ne) (λKx hKx=>?_);have a2:=run_convert_to_unsafe (P:=p.P) H.underlying_tPU32 H.underlying_tUP H.room_tU32 (WgLive.cell1 hF.2).choose_spec;have a0:=λes=>events_convert_to_unsafe (P:=p.P) H.underlying_tPU32 H.underlying_tUP H.room_tU32 (WgLive.cell1 hF.2).choose_spec es;go_simp;refine hKx _ _ ⟨?_,?_⟩
   .u_none
    intro ex hex;have a3:=mem_listed hex;simp[go_sem,a0] at a3
   clear hKx Kx a2 a0;refine Goes.stop (λqg qb=>?_);replace hF:=D5 hF2 hF qb;clear qb;refine⟨rfl,_,stepG_markAt .write dC rfl rfl (by k_ne) rfl H.f_raceWrite (x_raceWrite_n L) (x_raceWrite_b L) (x_raceWrite_x L) (x_raceWrite_f L) (ad:=⟨p.Wg,1,none⟩) (by simp[Act.eval]),40,?_⟩;walk_nrm
   u_c stepG_region_end (D5 hF2) hF
   u_c stepG_seq (D5 hF2) hF
   u_reg (D5 hF2) hF
   u_op (D5 hF2) hF
   u_c stepG_region_end (D5 hF2) hF
   iterate 2 u_c stepG_seq (D5 hF2) hF
   u_reg (D5 hF2) hF
   iterate 4 u_op (D5 hF2) hF
   u_skip (D5 hF2) hF
   u_op (D5 hF2) hF
   u_c stepG_region_end (D5 hF2) hF
   u_cond false (D5 hF2) hF
   u_c stepG_skip (D5 hF2) hF
   u_c stepG_seq (D5 hF2) hF
   u_reg (D5 hF2) hF
   iterate 4 u_op (D5 hF2) hF
   refine Goes.stop (λqm qb=>?_);replace hF:=D5 hF2 hF qb;clear qb;refine⟨rfl,rfl,λ⟨st,hw⟩=>stepG_semacquire_wait rfl rfl rfl H.f_semacquire (x_semacquire_n L) (x_semacquire_b L) (x_semacquire_x L) (x_semacquire_f L) (by simp[Act.eval,smA]) hw.cellSm,λhf=>?_⟩;refine⟨_,(stepG_semacquire (n:=1) rfl rfl (by k_ne) rfl H.f_semacquire (x_semacquire_n L) (x_semacquire_b L) (x_semacquire_x L) (x_semacquire_f L) (by simp[Act.eval,smA]) hf.cellSm (by k_ne) (hf.thaw 1)).trans (by rfl),30,?_⟩;replace hF:F (qm.setCell (smA p.Wg) (.int .u32 0))/\WgLive p.ty p.Wg (qm.setCell (smA p.Wg) (.int .u32 0)):=⟨hset _ _ _ rfl hF.1,⟨_,_,hf.setSm 0⟩⟩;clear hf;walk_nrm
   u_c stepG_region_end (D5 hF2) hF
   u_c stepG_seq (D5 hF2) hF
   u_reg (D5 hF2) hF
   iterate 3 u_op (D5 hF2) hF
   u_call H.f_uLoad (nm_uLoad L) uLoadFn (D5 hF2) hF
   u_c stepG_seq (D5 hF2) hF
   u_reg (D5 hF2) hF
   u_op (D5 hF2) hF
   u_c stepG_region_end (D5 hF2) hF
   u_c stepG_seq (D5 hF2) hF
   u_reg (D5 hF2) hF
   iterate 3 u_op (D5 hF2) hF
   refine Goes.stop (λqn qb=>?_);replace hF:=D5 hF2 hF qb;clear qb;refine⟨rfl,λhw=>⟨_,stepG_load_atomic (v:=0) rfl rfl (by k_ne) rfl H.f_loadU64 (x_loadU64_n L) (x_loadU64_b L) (x_loadU64_x L) .u64 (x_loadU64_f L) rfl hw.cellSt,30,?_⟩⟩;clear hw;walk_nrm
   u_op (D5 hF2) hF
   u_c stepG_region_end (D5 hF2) hF
   u_c stepG_ret' (D5 hF2) hF
   u_leave1 H.f_uLoad (D5 hF2) hF
   iterate 2 u_op (D5 hF2) hF
   u_c stepG_region_end (D5 hF2) hF
   u_c stepG_seq (D5 hF2) hF
   u_cond true (D5 hF2) hF
   u_c stepG_seq (D5 hF2) hF
   u_reg (D5 hF2) hF
   refine Goes.stop (λqr qb=>?_);replace hF:=D5 hF2 hF qb;clear qb;refine⟨rfl,_,stepG_mark0 .enable dC rfl rfl (by k_ne) rfl H.f_enable (x_enable_n L) (x_enable_b L) (x_enable_x L) (x_enable_f L),12,?_⟩;walk_nrm
   u_c stepG_region_end (D5 hF2) hF
   u_reg (D5 hF2) hF
   u_op (D5 hF2) hF
   u_in (D5 hF2) hF
   refine goes_oper_k rfl rfl (by k_ne) (λKx hKx=>?_);have a2:=run_convert_to_unsafe (P:=p.P) H.underlying_tWgP H.underlying_tUP H.room_tWg (WgLive.cell0 hF.2).choose_spec;have a0:=λes=>events_convert_to_unsafe (P:=p.P) H.underlying_tWgP H.underlying_tUP H.room_tWg (WgLive.cell0 hF.2).choose_spec es;go_simp;refine hKx _ _ ⟨?_,?_⟩
   .u_none
    intro ex hex;have a3:=mem_listed hex;simp[go_sem,a0] at a3
   clear hKx Kx a2 a0;refine Goes.stop (λqs qb=>?_);replace hF:=D5 hF2 hF qb;clear qb;refine⟨rfl,_,stepG_markAt .acquire dC rfl rfl (by k_ne) rfl H.f_acquire (x_acquire_n L) (x_acquire_b L) (x_acquire_x L) (x_acquire_f L) (by simp[Act.eval,stA]),λs hsum=>⟨mT+20,?_⟩⟩;have hJ:=And.intro hF hsum;clear hF hsum;walk_nrm
   u_c stepG_region_end (Ao hF2) hJ
   iterate 2 u_c stepG_seq (Ao hF2) hJ
   u_reg (Ao hF2) hJ
   u_op (Ao hF2) hJ
   u_c stepG_region_end (Ao hF2) hJ
   u_cond false (Ao hF2) hJ
   u_c stepG_skip (Ao hF2) hJ
   u_c stepG_ret' (Ao hF2) hJ
   u_leave0 H.f_wait (Ao hF2) hJ
   exact VB (hT s _ hJ.1.1 hJ.1.2 hJ.2) oM
  .refine⟨_,stepG_cas_miss (v:=(v':Int)*KK) (old:=S) (n:=S+1) rfl rfl (by k_ne) rfl H.f_casU64 (x_casU64_n L) (x_casU64_b L) (x_casU64_x L) .u64 (x_casU64_f L) rfl rfl rfl hw.cellSt (hw.thaw 0) (by rw[← hS];simp only[KK];omega),20,?_⟩;clear hw;walk_nrm
   u_op (D5 hF2) hF
   u_c stepG_region_end (D5 hF2) hF
   u_c stepG_ret' (D5 hF2) hF
   u_leave1 H.f_uCas (D5 hF2) hF
   u_c stepG_region_end (D5 hF2) hF
   u_cond false (D5 hF2) hF
   u_c stepG_skip (D5 hF2) hF
   u_c stepG_inBlock (D5 hF2) hF
   u_c stepG_inLoop (D5 hF2) hF
   refine Goes.stop (λqg qi=>?_);replace hF:=D5 hF2 hF qi;exact⟨_,rfl,dC,dC,hF⟩
theorem AbC(H:WgLib p.P L)(hF2:∀w w',R0 p Mt w w'->F w->F w')(w:World)(hF:F w/\WgLive p.ty p.Wg w):
  Goes p.P true (R0 p Mt) DC0 (AK p Mt .disable (VG L p F (b₀.at a₀ (.inRegion ops₀ (i₀::rest₀)::k₀)) cs)) 3
   (G ((base L.wait).at ⟨#[Pz p.Wg 0,undef,undef,undef,undef,undef,undef,undef,undef,undef,undef,undef,undef,undef,undef,undef,undef,undef,undef,undef,undef,undef,undef,undef,undef,undef,undef,undef,undef,undef,undef,undef,undef,undef,undef,undef,undef,undef,undef,undef,undef,undef,undef,undef,undef,undef,undef,undef,undef,undef,undef,undef,undef,undef,undef,undef,undef,undef,undef,undef,undef,undef,undef,undef,undef,undef,undef,undef,undef,undef,undef,undef,undef,undef,undef,undef,undef,undef,undef,undef,undef,undef,undef,undef],[]⟩ [.code (body_wait L)]) (b₀.at a₀ (.inRegion ops₀ (i₀::rest₀)::k₀)::cs)) w:=by
 lib_facts
 simp only[body_wait,waitFn,Option.getD_some];u_c stepG_seq (D5 hF2) hF
 u_cond true (D5 hF2) hF
 u_reg (D5 hF2) hF
 refine Goes.stop (λw₁ qb=>?_);replace hF:=D5 hF2 hF qb;clear qb;refine⟨rfl,_,stepG_mark0 .disable dC rfl rfl (by k_ne) rfl H.f_disable (x_disable_n L) (x_disable_b L) (x_disable_x L) (x_disable_f L),3,?_⟩;walk_nrm
 u_c stepG_region_end (D5 hF2) hF
 u_c stepG_block (D5 hF2) hF
 u_c stepG_loop (D5 hF2) hF
 exact Goes.stop (λqc qh=>⟨_,rfl,dC,dC,D5 hF2 hF qh⟩)
end
end Bd
end Go.Proofs.YtaffjphkobhagaaGreatDoor
