/-
  PROVED: for every house, name, recipe and list of slots handed to it, the law returns true, and they read afterwards as they read before: at every argument the program's RunStart answers as the specification's, field by field, writes into no argument, and its answer owns its memory, behind another call too.
  CONDITIONS: the program's table of the ends' names and the errors package's variable errorType hold what their initialisers lay (tied to the program's text by the given tie); the form's own reach.
-/
import Derived.Test.YtgecdacgmehmbaaGreatDoorCards
import Derived.Test.YtgecdacgmehmbaaGreatDoorTie
import Derived.Test.YtgecdacgmehmbaaGreatDoorJ24
import Derived.Test.YtgecdacgmehmbaaGreatDoorJ51
import Derived.Test.YtgecdacgmehmbaaGreatDoorJ49
namespace Go.Proofs.YtgecdacgmehmbaaGreatDoor
open Go.ChangeShapes Go.WideShapes Go.ChangeAt Go.RowKit
open Go.ChangeMaps (open_string)
set_option maxRecDepth 100000 in
theorem AaY (H:Type) (enc:TypeId×Value->H) (W:World) (base:Nat) (args:Array Value) (ds gs:List (DataW H)) (before:List MemPlace)
  (hval:∀(j:Nat) t v,Tryz.f3.params[j]?=some t->args[j]?=some v->Value.okWide Tryz.prog W .any base t v)
  (hW:DataW.Whole enc Tryz.prog Tryz.f3.params.toList Rows.fnExactRunStartSpec.vars false W args.toList ds gs before) (hL:laidMetH Tryz.prog Rows.fnExactRunStartRow.laid W) :
  Calls Tryz.prog 3 args W λe W'=>∃v,e=.returned v/\Rows.fnExactRunStartSpec.post enc Tryz.prog Tryz.f3 false true false false W args v W':=by
 have hW':=hW;have hlt:=hW.lt;obtain⟨p,q,hA0,hV,rfl,hfz,hnd⟩:=hW;have hA:DataW.TrodAll enc Tryz.prog W 0 (λ_=>true) true Tryz.f3.params.toList args.toList ds p:=hA0;rw[Tryz.params3] at hA hval;obtain⟨v0,vs0,d0,ds0,p0,q0,hargs,rfl,rfl,h0,r0⟩:=trodAll_cons hA;obtain⟨v1,vs1,d1,ds1,p1,q1,rfl,rfl,rfl,h1,r1⟩:=trodAll_cons r0;obtain⟨v2,vs2,d2,ds2,p2,q2,rfl,rfl,rfl,h2,r2⟩:=trodAll_cons r1;obtain⟨v3,vs3,d3,ds3,p3,q3,rfl,rfl,rfl,h3,r3⟩:=trodAll_cons r2;obtain⟨rfl,rfl,rfl⟩:=trodAll_nil r3;obtain rfl:args=#[v0,v1,v2,v3]:=by cases args;simp_all
 have hk0:=hval 0 29 v0 (by simp) (by simp);obtain⟨cs0,rfl,_⟩:=okWide_struct Tryz.underlying29 hk0;have g0:=h0;obtain⟨fuel0,hf0⟩:=g0;obtain⟨x0,tv0,bv0,xv0,dv0,hcs0,hsrc0⟩:=Af6 hf0;obtain rfl:cs0=#[.int .i64 x0.now,.int .i64 x0.last,tv0,bv0,xv0,dv0]:=by cases cs0;simpa [Value.cells] using hcs0
 have hk1:=hval 1 9 v1 (by simp) (by simp);have g1:=h1;obtain⟨s1,hv1,_,_,hs1⟩:=open_string Tryz.underlying9 hk1 g1;subst hv1;have hk2:=hval 2 30 v2 (by simp) (by simp);obtain⟨a2,l2,c2,hv2⟩:=okWide_slice Tryz.underlying30 hk2;obtain⟨ps2,hsrc2,hs2⟩:=Adn ⟨_,_,_,hv2⟩ h2;have hk3:=hval 3 31 v3 (by simp) (by simp);obtain⟨a3,l3,c3,hv3⟩:=okWide_slice Tryz.underlying31 hk3;have g3:=h3;obtain⟨fuel3,hf3⟩:=g3;obtain⟨sl3,hsrc3,hs3⟩:∃l,SlSrc W v3 l/\SlZ l:=by subst hv3;exact Acs (by simpa [Value.cells] using hf3)
 obtain⟨hE,hT⟩:=Ag8 hL;obtain⟨g1,rfl⟩:=AmK (n:= "loop.example/maltrun/impl.recEndNames") hV;refine (AgX x0 tv0 bv0 xv0 dv0 s1 ps2 v2 sl3 v3 W hE hT hsrc0 hs1 hsrc2 hs2 hsrc3 hs3).mono λe' W' ⟨he,hb⟩=>?_;subst he;refine⟨_,rfl,_,_,_,[],p0++(p1++(p2++(p3++[]))),q,hW',?_,?_,?_,hb.frame _,λh=>by cases h⟩
 ·exact trodAll_cons_mk (shut_bool Tryz.underlying4 _) trodAll_mk0
 ·exact (trodAll_cons_mk (Below.trod Ab0 (by kernel_rfl) (of_decide_eq_true (by kernel_rfl)) h0 hb (λx hx=>hlt x (by simp[hx]))) (trodAll_cons_mk (Below.trod Ab0 (by kernel_rfl) (of_decide_eq_true (by kernel_rfl)) h1 hb (λx hx=>hlt x (by simp[hx]))) (trodAll_cons_mk (Below.trod Ab0 (by kernel_rfl) (of_decide_eq_true (by kernel_rfl)) h2 hb (λx hx=>hlt x (by simp[hx]))) (trodAll_cons_mk (Below.trod Ab0 (by kernel_rfl) (of_decide_eq_true (by kernel_rfl)) h3 hb (λx hx=>hlt x (by simp[hx]))) trodAll_mk0))))
 ·exact hb.trodVars Ab0 (by kernel_rfl) hV
theorem Ab7 (os:Os) {H:Type} (enc:TypeId×Value->H):∃ds gs places,DataW.whole enc Tryz.prog ((laidWorldB os).forCall (λ_ _=>0) ⟨#[],#[.agg #[.int .i64 0,.int .i64 0,.slice none 0 0,.slice none 0 0,.slice none 0 0,.slice none 0 0],.string ⟨#[]⟩,.slice none 0 0,.slice none 0 0],[]⟩).memory Tryz.f3.params.toList Rows.fnExactRunStartSpec.vars false
  #[(.agg #[.int .i64 0,.int .i64 0,.slice none 0 0,.slice none 0 0,.slice none 0 0,.slice none 0 0]:Value),(.string ⟨#[]⟩:Value),(.slice none 0 0:Value),(.slice none 0 0:Value)].toList 8=some (ds,gs,places) :=
 ⟨[.agg [.lit (.int .i64 0),.lit (.int .i64 0),.agg [.nil,.nil],.nil,.nil],.lit (.string []),.nil,.nil],[Rows.laid_loop_example_maltrun_impl_recEndNames],[.cell 1 0,.cell 1 1,.cell 1 2],by kernel_rfl⟩
set_option maxRecDepth 100000 in
theorem Abw (os:Os) (started:os.Started) (H:Type) (enc:TypeId×Value->H) (F:Stop.Interp) :
  ReturnsInHanded {} Tryz.checked os 3 .any ((OpenSpec.ofChange Rows.fnExactRunStartSpec).preRow enc Tryz.prog Tryz.f3 Rows.fnExactRunStartRow.domain false Rows.fnExactRunStartRow.laid) (((OpenSpec.ofChange Rows.fnExactRunStartSpec).at F).post enc Tryz.prog Tryz.f3 false true false false):=by
 obtain⟨ds,gs,places,hx⟩:=Ab7 os enc
 refine returnsInHanded_of_row (C:=Tryz.checked) (s:=OpenSpec.ofChange Rows.fnExactRunStartSpec) own started (by kernel_rfl) Tryz.func3
  (witness_row_at (enc:=enc) (C:=Tryz.checked) false (laidWorldB os) #[.agg #[.int .i64 0,.int .i64 0,.slice none 0 0,.slice none 0 0,.slice none 0 0,.slice none 0 0],.string ⟨#[]⟩,.slice none 0 0,.slice none 0 0] rfl (by kernel_rfl) (by kernel_rfl) (by kernel_rfl)
   (OpenSpec.preRow_of_cond 8 hx (by kernel_rfl) (λk hk=>by cases hk) (by kernel_rfl) (AkH os _))) ?_
 intro W base args ds gs before hval hW _ _ _ hL _ _;exact AaY H enc W base args ds gs before hval hW hL
theorem Acp:Rows.FnExactRunStartSaid :=
 OpenClaim.holds_of_cond 3 Tryz.f3 rfl rfl rfl rfl rfl rfl rfl ⟨rfl,rfl,rfl,rfl,rfl⟩ rfl rfl rfl rfl rfl (by kernel_rfl) Tryz.func3 (by kernel_rfl)
  (of_decide_eq_true (by kernel_rfl)) (by unfold Func.isWrapper;first|(rw[if_pos (by decide +kernel)];kernel_rfl)|(rw[if_neg (by decide +kernel)];exact⟨rfl,rfl⟩))
  (λos started H enc _ F=>by rw[OpenClaim.pre_eq_preRow];exact Abw os started H enc F)
theorem Ab8 (f:FuncId) (fn:Func) (hf:Tryz.pinned.checked.prog.funcNamed "loop.example/maltrun/laws.FnExactRunStart"=some f) (hfn:Tryz.pinned.checked.prog.funcs[f]?=some fn) :
  true=Tryz.pinned.checked.prog.looks []/\∀(j:Nat) t,fn.params[j]?=some t->Tryz.pinned.checked.prog.wantsStandIn t=false:=by
 obtain rfl:f=3:=A5 ((show Tryz.prog.funcNamed "loop.example/maltrun/laws.FnExactRunStart"=some 3 by kernel_rfl).symm.trans hf) |>.symm
 obtain rfl:fn=Tryz.f3:=(A5 (Tryz.func3.symm.trans hfn)).symm;refine⟨by kernel_rfl,λj t ht=>?_⟩;rw[Tryz.params3] at ht;have hm:t=29∨t=9∨t=30∨t=31:=by simpa using Array.mem_of_getElem? ht
 rcases hm with rfl|rfl|rfl|rfl
 ·exact (show Tryz.prog.wantsStandIn 29=false by kernel_rfl)
 ·exact (show Tryz.prog.wantsStandIn 9=false by kernel_rfl)
 ·exact (show Tryz.prog.wantsStandIn 30=false by kernel_rfl)
 ·exact (show Tryz.prog.wantsStandIn 31=false by kernel_rfl)
theorem fnExactRunStart_card:Rows.FnExactRunStartCardSaid :=
 Claim7.holds_tied_plain_at .later [] _ _ _ _ Acp (λ_ h=>by cases h) (by kernel_rfl) (λ_ h=>by cases h) fnExactRunStart_row_tie rfl ⟨rfl,rfl⟩ (by kernel_rfl) rfl Ab8 (by kernel_rfl)
end Go.Proofs.YtgecdacgmehmbaaGreatDoor
