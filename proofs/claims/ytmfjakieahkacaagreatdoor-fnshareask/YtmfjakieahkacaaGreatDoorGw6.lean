/- Workers who read, add to one sum and leave, 6: the starter's Add(1). -/
import Derived.Conc.WgGenN3
import Derived.Test.YtmfjakieahkacaaGreatDoorJ22
namespace Go.Proofs.YtmfjakieahkacaaGreatDoor
open Go.Conc Go.ConcN Go.RowKit Go.Conc.Lib Go.ConcR.Gen Go.ConcN.Gen
open Go.ConcR (KK wgBlock WgAt stA smA rd wr mk Payload DC0)
theorem GI{P:Program}{main:Bool}{R:World->World->Prop}{D:World->World->Array Event->Prop}{Stop:Goroutine->World->Prop}{n m:Nat}{g:Goroutine}{w:World}(h:Goes P main R D Stop n g w)(hm:n<=m):Goes P main R D Stop m g w:=by
 induction hm with
 | refl=>exact h
 | step _ ih=>exact ih.more
theorem EJ{P:Program}{main:Bool}{R R':World->World->Prop}{D D':World->World->Array Event->Prop}{Stop Stop':Goroutine->World->Prop}(hR:∀w w',R' w w'->R w w')(hD:∀w w' es,D w w' es->D' w w' es)(hS:∀g w,Stop g w->Stop' g w){n:Nat}:∀{g:Goroutine} {w:World},Goes P main R D Stop n g w->Goes P main R' D' Stop' n g w:=by
 induction n with
 | zero=>exact λh w₁ h₁=>hS _ _ (h w₁ (hR _ _ h₁))
 | succ n ih =>
  rintro g w (h|⟨hs,h⟩)
  ·exact .inl λw₁ h₁=>hS _ _ (h w₁ (hR _ _ h₁))
  ·refine .inr ⟨hs,λw₁ h₁=>?_⟩;have:=h w₁ (hR _ _ h₁);revert this
   cases stepG P main g w₁<;>simp only[GStep.goes,imp_self]
   exact λ⟨d,x⟩=>⟨hD _ _ _ d,ih x⟩
theorem D3{p:K7}{M:Nat->Prop}{F:World->Prop}(hF2:∀w w',R0 p M w w'->F w->F w'){w w₁:World}(h:F w/\WgLive p.ty p.Wg w)(r:R0 p M w w₁):F w₁/\WgLive p.ty p.Wg w₁:=⟨hF2 _ _ r h.1,r.rk.live h.2⟩
section
variable {L:WgLink} {p:K7} {M:Nat->Prop} {Next:Goroutine->World->Prop} {F:World->Prop} {b₀:Frame} {a₀:Act} {ops₀:Array Oper} {i₀:Nat} {rest₀:List Nat} {k₀:List Item} {cs:List Frame} {mT:Nat}
set_option maxRecDepth 100000 in
set_option maxHeartbeats 8000000 in
theorem AdO(H:WgLib p.P L)(hF2:∀w w',R0 p M w w'->F w->F w')(hset:∀w v,F w->F (w.setCell (stA p.Wg) v))
  (hT:∀w,F w->WgLive p.ty p.Wg w->Goes p.P true (R0 p M) DC0 Next mT (G (b₀.at (a₀.put ((ops₀[i₀]?).bind (·.dst)) (.tuple #[])) (.inRegion ops₀ rest₀::k₀)) cs) w)
  (w:World) (hF:F w/\WgLive p.ty p.Wg w) :
  Goes p.P true (R0 p M) DC0 (Cb p M .disable (Xv p M Next)) 12 (G ((base L.add).at ⟨#[.pointer (some ⟨p.Wg,0,none⟩),.int .i64 1,undef,undef,undef,undef,undef,undef,undef,undef,undef,undef,undef,undef,undef,undef,undef,undef,undef,undef,undef,undef,undef,undef,undef,undef,undef,undef,undef,undef,undef,undef,undef,undef,undef,undef,undef,undef,undef,undef,undef,undef,undef,undef,undef,undef,undef,undef,undef,undef,undef,undef,undef,undef,undef,undef,undef,undef,undef,undef,undef,undef,undef,undef,undef,undef,undef,undef,undef,undef,undef,undef,undef,undef,undef,undef,undef,undef,undef,undef,undef,undef,undef,undef,undef,undef,undef,undef,undef,undef,undef,undef,undef,undef,undef,undef,undef,undef,undef,undef,undef,undef,undef,undef,undef,undef,undef,undef,undef,undef,undef,undef,undef,undef,undef,undef,undef],[]⟩ [.code (body_add L)]) (b₀.at a₀ (.inRegion ops₀ (i₀::rest₀)::k₀)::cs)) w:=by
 lib_facts
 simp only[body_add,addFn,Option.getD_some];u_c stepG_seq (D3 hF2) hF
 u_cond true (D3 hF2) hF
 u_c stepG_seq (D3 hF2) hF
 u_c stepG_seq (D3 hF2) hF
 u_reg (D3 hF2) hF
 u_op (D3 hF2) hF
 u_op (D3 hF2) hF
 u_c stepG_region_end (D3 hF2) hF
 u_cond false (D3 hF2) hF
 u_c stepG_skip (D3 hF2) hF
 u_c stepG_seq (D3 hF2) hF
 u_reg (D3 hF2) hF
 refine Goes.stop (λw₁ h₁=>?_);replace hF:=D3 hF2 hF h₁;clear h₁;refine⟨rfl,_,stepG_mark0 .disable (by simp) rfl rfl (by k_ne) rfl H.f_disable (x_disable_n L) (x_disable_b L) (x_disable_x L) (x_disable_f L),60,?_⟩;walk_nrm
 u_c stepG_region_end (D3 hF2) hF
 u_reg (D3 hF2) hF
 u_defer (D3 hF2) hF
 u_c stepG_region_end (D3 hF2) hF
 u_c stepG_seq (D3 hF2) hF
 u_reg (D3 hF2) hF
 u_op (D3 hF2) hF
 u_c stepG_region_end (D3 hF2) hF
 u_c stepG_seq (D3 hF2) hF
 u_c stepG_seq (D3 hF2) hF
 u_reg (D3 hF2) hF
 u_bub (D3 hF2) hF
 u_c stepG_region_end (D3 hF2) hF
 u_cond false (D3 hF2) hF
 u_c stepG_skip (D3 hF2) hF
 u_c stepG_seq (D3 hF2) hF
 u_reg (D3 hF2) hF
 u_op (D3 hF2) hF
 u_op (D3 hF2) hF
 u_op (D3 hF2) hF
 u_op (D3 hF2) hF
 u_op (D3 hF2) hF
 u_op (D3 hF2) hF
 u_call H.f_uAdd (nm_uAdd L) uAddFn (D3 hF2) hF
 u_c stepG_seq (D3 hF2) hF
 u_reg (D3 hF2) hF
 u_op (D3 hF2) hF
 u_c stepG_region_end (D3 hF2) hF
 u_c stepG_seq (D3 hF2) hF
 u_reg (D3 hF2) hF
 u_op (D3 hF2) hF
 u_op (D3 hF2) hF
 u_op (D3 hF2) hF
 u_op (D3 hF2) hF
 refine Goes.stop (λw₂ h₁=>?_);replace hF:=D3 hF2 hF h₁;clear h₁;refine⟨rfl,λv hv hw=>?_⟩;rcases C3 v with rfl|hvp
 ·replace hw:WgAt p.ty p.Wg w₂ 0 0:=by simpa using hw
  have z:(((0:Nat):Int)+1)*KK=KK:=by simp
  rw[z];have e0:IntKind.u64.wrap (0+4294967296)=KK:=by decide
  refine⟨_,(stepG_add_atomic rfl rfl (by k_ne) rfl H.f_addU64 (x_addU64_n L) (x_addU64_b L) (x_addU64_x L) .u64 (x_addU64_f L) rfl rfl hw.cellSt (hw.thaw 0)).trans (by rw[e0];rfl),80,.inl ?_⟩;replace hF:F (w₂.setCell (stA p.Wg) (.int .u64 KK))/\WgLive p.ty p.Wg (w₂.setCell (stA p.Wg) (.int .u64 KK)):=⟨hset _ _ hF.1,⟨_,_,hw.setSt _⟩⟩;clear hw;simp only[KK] at hF ⊢
  walk_nrm
  u_op (D3 hF2) hF
  u_c stepG_region_end (D3 hF2) hF
  u_c stepG_ret' (D3 hF2) hF
  u_leave1 H.f_uAdd (D3 hF2) hF
  u_op (D3 hF2) hF
  u_c stepG_region_end (D3 hF2) hF
  u_c stepG_seq (D3 hF2) hF
  u_c stepG_seq (D3 hF2) hF
  u_reg (D3 hF2) hF
  u_op (D3 hF2) hF
  u_op (D3 hF2) hF
  u_op (D3 hF2) hF
  u_op (D3 hF2) hF
  u_skip (D3 hF2) hF
  u_skip (D3 hF2) hF
  u_op (D3 hF2) hF
  u_c stepG_region_end (D3 hF2) hF
  u_cond false (D3 hF2) hF
  u_c stepG_skip (D3 hF2) hF
  u_c stepG_seq (D3 hF2) hF
  u_reg (D3 hF2) hF
  u_op (D3 hF2) hF
  u_op (D3 hF2) hF
  u_op (D3 hF2) hF
  u_op (D3 hF2) hF
  u_c stepG_region_end (D3 hF2) hF
  u_c stepG_seq (D3 hF2) hF
  u_reg (D3 hF2) hF
  u_op (D3 hF2) hF
  u_op (D3 hF2) hF
  u_op (D3 hF2) hF
  u_op (D3 hF2) hF
  u_c stepG_region_end (D3 hF2) hF
  u_c stepG_seq (D3 hF2) hF
  u_c stepG_seq (D3 hF2) hF
  u_reg (D3 hF2) hF
  u_op (D3 hF2) hF
  u_op (D3 hF2) hF
  u_op (D3 hF2) hF
  u_op (D3 hF2) hF
  u_op (D3 hF2) hF
  u_op (D3 hF2) hF
  u_op (D3 hF2) hF
  u_op (D3 hF2) hF
  u_op (D3 hF2) hF
  u_op (D3 hF2) hF
  u_c stepG_region_end (D3 hF2) hF
  u_cond true (D3 hF2) hF
  u_reg (D3 hF2) hF
  u_op (D3 hF2) hF
  u_op (D3 hF2) hF
  u_op (D3 hF2) hF
  u_in (D3 hF2) hF
  refine goes_oper_k rfl rfl (by k_ne) (λKx hKx=>?_);have hcv:=run_convert_to_unsafe (P:=p.P) H.underlying_tPU32 H.underlying_tUP H.room_tU32 (WgLive.cell1 hF.2).choose_spec;have hce:=λes=>events_convert_to_unsafe (P:=p.P) H.underlying_tPU32 H.underlying_tUP H.room_tU32 (WgLive.cell1 hF.2).choose_spec es;go_simp;refine hKx _ _ ⟨?_,?_⟩
  ·u_none
   intro ex hex;have hmx:=mem_listed hex;simp[go_sem,hce] at hmx
  clear hKx Kx hcv hce;refine Goes.stop (λw₃ h₁=>?_);replace hF:=D3 hF2 hF h₁;clear h₁;refine⟨rfl,_,stepG_markAt .read (by simp) rfl rfl (by k_ne) rfl H.f_raceRead (x_raceRead_n L) (x_raceRead_b L) (x_raceRead_x L) (x_raceRead_f L) (ad:=⟨p.Wg,1,none⟩) (by simp[Act.eval]),60,?_⟩;walk_nrm
  u_c stepG_region_end (D3 hF2) hF
  u_c stepG_seq (D3 hF2) hF
  u_c stepG_seq (D3 hF2) hF
  u_reg (D3 hF2) hF
  u_op (D3 hF2) hF
  u_op (D3 hF2) hF
  u_c stepG_region_end (D3 hF2) hF
  u_cond false (D3 hF2) hF
  u_c stepG_skip (D3 hF2) hF
  u_c stepG_seq (D3 hF2) hF
  u_c stepG_seq (D3 hF2) hF
  u_reg (D3 hF2) hF
  u_op (D3 hF2) hF
  u_op (D3 hF2) hF
  u_op (D3 hF2) hF
  u_skip (D3 hF2) hF
  u_skip (D3 hF2) hF
  u_op (D3 hF2) hF
  u_op (D3 hF2) hF
  u_skip (D3 hF2) hF
  u_skip (D3 hF2) hF
  u_skip (D3 hF2) hF
  u_skip (D3 hF2) hF
  u_op (D3 hF2) hF
  u_c stepG_region_end (D3 hF2) hF
  u_cond false (D3 hF2) hF
  u_c stepG_skip (D3 hF2) hF
  u_c stepG_seq (D3 hF2) hF
  u_c stepG_seq (D3 hF2) hF
  u_reg (D3 hF2) hF
  u_op (D3 hF2) hF
  u_op (D3 hF2) hF
  u_op (D3 hF2) hF
  u_skip (D3 hF2) hF
  u_skip (D3 hF2) hF
  u_op (D3 hF2) hF
  u_c stepG_region_end (D3 hF2) hF
  u_cond true (D3 hF2) hF
  u_c stepG_ret' (D3 hF2) hF
  refine Goes.stop (λw₄ h₁=>?_);replace hF:=D3 hF2 hF h₁;clear h₁;refine⟨rfl,_,stepG_unwind_entry (v:=.tuple #[]) (evs:=#[mk .enable]) rfl H.f_enable (x_enable_n L) (x_enable_b L) (x_enable_x L) (x_enable_f L) (by simp[Extern.Race.none_]) (by simp[mk]) (by simp[mk]),mT+1,?_⟩;u_leave0 H.f_add (D3 hF2) hF
  exact hT _ hF.1 hF.2
 ·obtain⟨V,hV⟩:∃V:Int,V=(v:Int)+1:=⟨_,rfl⟩;obtain⟨S,hS⟩:∃S:Int,S=V*KK:=⟨_,rfl⟩;have eS:IntKind.u64.wrap ((v:Int)*KK+4294967296)=S:=by rw[IntKind.wrap_u64,hS,hV];simp only[KK];omega
  rw[← hV,← hS];have a1:S / 4294967296=V:=by rw[hS];simp only[KK];omega
  have b1:bits .and .u64 S 2147483648=0:=by rw[hS,hV];have:=st_flag (v+1) 0 (by omega) (by omega);simpa [KK] using this
  have b2:bits .and .u64 S 2147483647=0:=by rw[hS,hV];have:=st_waiters (v+1) 0 (by omega) (by omega);simpa [KK] using this
  have c1:IntKind.i32.wrap V=V:=by rw[IntKind.wrap_i32];omega
  have hV1:1<V:=by omega
  have hV2:V<2147483648:=by omega
  have q1:(V==1)=false:=by simp;omega
  have q2:decide (V=1)=false:=decide_eq_false (by omega);have q3:decide (V<0)=false:=decide_eq_false (by omega);have q4:decide (0<V)=true:=decide_eq_true (by omega);have q5:(V==0)=false:=by simp;omega
  have q6:decide (V=0)=false:=decide_eq_false (by omega);refine⟨_,(stepG_add_atomic rfl rfl (by k_ne) rfl H.f_addU64 (x_addU64_n L) (x_addU64_b L) (x_addU64_x L) .u64 (x_addU64_f L) rfl rfl hw.cellSt (hw.thaw 0)).trans (by rw[eS];rfl),120,.inr ?_⟩;replace hF:F (w₂.setCell (stA p.Wg) (.int .u64 S))/\WgLive p.ty p.Wg (w₂.setCell (stA p.Wg) (.int .u64 S)):=⟨hset _ _ hF.1,⟨_,_,hw.setSt _⟩⟩;clear hw hS hV eS;walk_nrm
  u_op (D3 hF2) hF
  u_c stepG_region_end (D3 hF2) hF
  u_c stepG_ret' (D3 hF2) hF
  u_leave1 H.f_uAdd (D3 hF2) hF
  u_op (D3 hF2) hF
  u_c stepG_region_end (D3 hF2) hF
  u_c stepG_seq (D3 hF2) hF
  u_c stepG_seq (D3 hF2) hF
  u_reg (D3 hF2) hF
  u_op (D3 hF2) hF
  u_op (D3 hF2) hF
  u_op (D3 hF2) hF
  u_op (D3 hF2) hF
  u_skip (D3 hF2) hF
  u_skip (D3 hF2) hF
  u_op (D3 hF2) hF
  u_c stepG_region_end (D3 hF2) hF
  u_cnd false (D3 hF2) hF
  u_c stepG_skip (D3 hF2) hF
  u_c stepG_seq (D3 hF2) hF
  u_reg (D3 hF2) hF
  u_op (D3 hF2) hF
  u_op (D3 hF2) hF
  u_op (D3 hF2) hF
  u_op (D3 hF2) hF
  u_c stepG_region_end (D3 hF2) hF
  u_c stepG_seq (D3 hF2) hF
  u_reg (D3 hF2) hF
  u_op (D3 hF2) hF
  u_op (D3 hF2) hF
  u_op (D3 hF2) hF
  u_op (D3 hF2) hF
  u_c stepG_region_end (D3 hF2) hF
  u_c stepG_seq (D3 hF2) hF
  u_c stepG_seq (D3 hF2) hF
  u_reg (D3 hF2) hF
  u_op (D3 hF2) hF
  u_op (D3 hF2) hF
  u_op (D3 hF2) hF
  u_op (D3 hF2) hF
  u_op (D3 hF2) hF
  u_op (D3 hF2) hF
  u_op (D3 hF2) hF
  u_op (D3 hF2) hF
  u_op (D3 hF2) hF
  u_op (D3 hF2) hF
  u_c stepG_region_end (D3 hF2) hF
  u_cnd false (D3 hF2) hF
  u_c stepG_skip (D3 hF2) hF
  u_c stepG_seq (D3 hF2) hF
  u_c stepG_seq (D3 hF2) hF
  u_reg (D3 hF2) hF
  u_op (D3 hF2) hF
  u_op (D3 hF2) hF
  u_c stepG_region_end (D3 hF2) hF
  u_cnd false (D3 hF2) hF
  u_c stepG_skip (D3 hF2) hF
  u_c stepG_seq (D3 hF2) hF
  u_c stepG_seq (D3 hF2) hF
  u_reg (D3 hF2) hF
  u_op (D3 hF2) hF
  u_op (D3 hF2) hF
  u_op (D3 hF2) hF
  u_skip (D3 hF2) hF
  u_skip (D3 hF2) hF
  u_op (D3 hF2) hF
  u_op (D3 hF2) hF
  u_skip (D3 hF2) hF
  u_skip (D3 hF2) hF
  u_skip (D3 hF2) hF
  u_skip (D3 hF2) hF
  u_op (D3 hF2) hF
  u_c stepG_region_end (D3 hF2) hF
  u_cnd false (D3 hF2) hF
  u_c stepG_skip (D3 hF2) hF
  u_c stepG_seq (D3 hF2) hF
  u_c stepG_seq (D3 hF2) hF
  u_reg (D3 hF2) hF
  u_op (D3 hF2) hF
  u_op (D3 hF2) hF
  u_op (D3 hF2) hF
  u_skip (D3 hF2) hF
  u_skip (D3 hF2) hF
  u_op (D3 hF2) hF
  u_c stepG_region_end (D3 hF2) hF
  u_cnd true (D3 hF2) hF
  u_c stepG_ret' (D3 hF2) hF
  refine Goes.stop (λw₄ h₁=>?_);replace hF:=D3 hF2 hF h₁;clear h₁;refine⟨rfl,_,stepG_unwind_entry (v:=.tuple #[]) (evs:=#[mk .enable]) rfl H.f_enable (x_enable_n L) (x_enable_b L) (x_enable_x L) (x_enable_f L) (by simp[Extern.Race.none_]) (by simp[mk]) (by simp[mk]),mT+1,?_⟩;u_leave0 H.f_add (D3 hF2) hF
  exact hT _ hF.1 hF.2
end
end Go.Proofs.YtmfjakieahkacaaGreatDoor
