/-
  PROVED: for every house handed to it, the law returns true, and the house reads afterwards as it read before: at every argument the program's RunTick answers as the specification's, field by field, writes into no argument, and its answer owns its memory, behind another call too.
  CONDITIONS: the program's table of the ends' names and the errors package's variable errorType hold what their initialisers lay (tied to the program's text by the given tie); the form's own reach.
-/
import Derived.Test.YtebfdccbmmpceaaGreatDoorCards
import Derived.Test.YtebfdccbmmpceaaGreatDoorTie
import Derived.Test.YtebfdccbmmpceaaGreatDoorJ9
import Derived.Test.YtebfdccbmmpceaaGreatDoorJ40
import Derived.Test.YtebfdccbmmpceaaGreatDoorJ41
namespace Go.Proofs.YtebfdccbmmpceaaGreatDoor
open Go.ChangeShapes Go.WideShapes Go.ChangeAt Go.RowKit
open Go.ChangeMaps (open_string)
set_option maxRecDepth 100000 in
theorem Abv (H:Type) (enc:TypeId×Value->H) (W:World) (base:Nat) (args:Array Value) (ds gs:List (DataW H)) (before:List MemPlace)
  (hval:∀(j:Nat) t v,Tryz.f3.params[j]?=some t->args[j]?=some v->Value.okWide Tryz.prog W .any base t v)
  (hW:DataW.Whole enc Tryz.prog Tryz.f3.params.toList Rows.fnExactRunTickSpec.vars false W args.toList ds gs before) (hL:laidMetH Tryz.prog Rows.fnExactRunTickRow.laid W) :
  Calls Tryz.prog 3 args W λe W'=>∃v,e=.returned v/\Rows.fnExactRunTickSpec.post enc Tryz.prog Tryz.f3 false true false false W args v W':=by
 have hW':=hW;have hlt:=hW.lt;obtain⟨p,q,hA0,hV,rfl,hfz,hnd⟩:=hW;have hA:DataW.TrodAll enc Tryz.prog W 0 (λ_=>true) true Tryz.f3.params.toList args.toList ds p:=hA0;rw[Tryz.params3] at hA hval;obtain⟨v0,vs0,d0,ds0,p0,q0,hargs,rfl,rfl,h0,r0⟩:=trodAll_cons hA;obtain⟨rfl,rfl,rfl⟩:=trodAll_nil r0;obtain rfl:args=#[v0]:=by cases args;simp_all
 have hk0:=hval 0 29 v0 (by simp) (by simp);obtain⟨cs0,rfl,_⟩:=okWide_struct Tryz.underlying29 hk0;have g0:=h0;obtain⟨fuel0,hf0⟩:=g0;obtain⟨x0,tv0,bv0,xv0,dv0,hcs0,hsrc0⟩:=AfV hf0;obtain rfl:cs0=#[.int .i64 x0.now,.int .i64 x0.last,tv0,bv0,xv0,dv0]:=by cases cs0;simpa [Value.cells] using hcs0
 obtain⟨hE,hT⟩:=Agw hL;obtain⟨g1,rfl⟩:=An5 (n:= "loop.example/maltrun/impl.recEndNames") hV;refine (Aiv x0 tv0 bv0 xv0 dv0 W hE hT hsrc0).mono λe' W' ⟨he,hb⟩=>?_;subst he;refine⟨_,rfl,_,_,_,[],p0++[],q,hW',?_,?_,?_,hb.frame _,λh=>by cases h⟩
 ·exact trodAll_cons_mk (shut_bool Tryz.underlying4 _) trodAll_mk0
 ·exact (trodAll_cons_mk (Below.trod Aiz (by kernel_rfl) (of_decide_eq_true (by kernel_rfl)) h0 hb (λx hx=>hlt x (by simp[hx]))) trodAll_mk0)
 ·exact hb.trodVars Aiz (by kernel_rfl) hV
theorem AcH (os:Os) {H:Type} (enc:TypeId×Value->H):∃ds gs places,DataW.whole enc Tryz.prog ((laidWorldB os).forCall (λ_ _=>0) ⟨#[],#[.agg #[.int .i64 0,.int .i64 0,.slice none 0 0,.slice none 0 0,.slice none 0 0,.slice none 0 0]],[]⟩).memory Tryz.f3.params.toList Rows.fnExactRunTickSpec.vars false
  #[(.agg #[.int .i64 0,.int .i64 0,.slice none 0 0,.slice none 0 0,.slice none 0 0,.slice none 0 0]:Value)].toList 8=some (ds,gs,places) :=
 ⟨[.agg [.lit (.int .i64 0),.lit (.int .i64 0),.agg [.nil,.nil],.nil,.nil]],[Rows.laid_loop_example_maltrun_impl_recEndNames],[.cell 1 0,.cell 1 1,.cell 1 2],by kernel_rfl⟩
set_option maxRecDepth 100000 in
theorem AbV (os:Os) (started:os.Started) (H:Type) (enc:TypeId×Value->H) (F:Stop.Interp) :
  ReturnsInHanded {} Tryz.checked os 3 .any ((OpenSpec.ofChange Rows.fnExactRunTickSpec).preRow enc Tryz.prog Tryz.f3 Rows.fnExactRunTickRow.domain false Rows.fnExactRunTickRow.laid) (((OpenSpec.ofChange Rows.fnExactRunTickSpec).at F).post enc Tryz.prog Tryz.f3 false true false false):=by
 obtain⟨ds,gs,places,hx⟩:=AcH os enc
 refine returnsInHanded_of_row (C:=Tryz.checked) (s:=OpenSpec.ofChange Rows.fnExactRunTickSpec) own started (by kernel_rfl) Tryz.func3
  (witness_row_at (enc:=enc) (C:=Tryz.checked) false (laidWorldB os) #[.agg #[.int .i64 0,.int .i64 0,.slice none 0 0,.slice none 0 0,.slice none 0 0,.slice none 0 0]] rfl (by kernel_rfl) (by kernel_rfl) (by kernel_rfl)
   (OpenSpec.preRow_of_cond 8 hx (by kernel_rfl) (λk hk=>by cases hk) (by kernel_rfl) (AkJ os _))) ?_
 intro W base args ds gs before hval hW _ _ _ hL _ _;exact Abv H enc W base args ds gs before hval hW hL
theorem AcM:Rows.FnExactRunTickSaid :=
 OpenClaim.holds_of_cond 3 Tryz.f3 rfl rfl rfl rfl rfl rfl rfl ⟨rfl,rfl,rfl,rfl,rfl⟩ rfl rfl rfl rfl rfl (by kernel_rfl) Tryz.func3 (by kernel_rfl)
  (of_decide_eq_true (by kernel_rfl)) (by unfold Func.isWrapper;first|(rw[if_pos (by decide +kernel)];kernel_rfl)|(rw[if_neg (by decide +kernel)];exact⟨rfl,rfl⟩))
  (λos started H enc _ F=>by rw[OpenClaim.pre_eq_preRow];exact AbV os started H enc F)
theorem AcI (f:FuncId) (fn:Func) (hf:Tryz.pinned.checked.prog.funcNamed "loop.example/maltrun/laws.FnExactRunTick"=some f) (hfn:Tryz.pinned.checked.prog.funcs[f]?=some fn) :
  true=Tryz.pinned.checked.prog.looks []/\∀(j:Nat) t,fn.params[j]?=some t->Tryz.pinned.checked.prog.wantsStandIn t=false:=by
 obtain rfl:f=3:=A5 ((show Tryz.prog.funcNamed "loop.example/maltrun/laws.FnExactRunTick"=some 3 by kernel_rfl).symm.trans hf) |>.symm
 obtain rfl:fn=Tryz.f3:=(A5 (Tryz.func3.symm.trans hfn)).symm;refine⟨by kernel_rfl,λj t ht=>?_⟩;rw[Tryz.params3] at ht;obtain rfl:t=29:=by simpa using Array.mem_of_getElem? ht
 exact (show Tryz.prog.wantsStandIn 29=false by kernel_rfl)
theorem fnExactRunTick_card:Rows.FnExactRunTickCardSaid :=
 Claim7.holds_tied_plain_at .later [] _ _ _ _ AcM (λ_ h=>by cases h) (by kernel_rfl) (λ_ h=>by cases h) fnExactRunTick_row_tie rfl ⟨rfl,rfl⟩ (by kernel_rfl) rfl AcI (by kernel_rfl)
end Go.Proofs.YtebfdccbmmpceaaGreatDoor
