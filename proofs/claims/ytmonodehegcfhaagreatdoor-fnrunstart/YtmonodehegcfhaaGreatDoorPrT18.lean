/-
  PROVED: for every code handed to it, the law of promise 18 (FnRunStart) returns true, and the code reads afterwards as it read before: RunStart answers a drawn house, name, recipe and slots as the specification does, every field, and the program's RunHouseOk as the specification's; where it refuses, the house stays as it was (none, if it was not ok); where it begins, the house has one batch more, the last, with that name and the next Start, as many things as slots, is ok, those that went on are as they were, and RunLeft is greater by the recipe's bound.
  CONDITIONS: the program's table of the ends' names and the errors package's variable errorType hold what their initialisers lay (tied to the program's text by the given tie); the form's own reach.
-/
import Derived.Test.YtmonodehegcfhaaGreatDoorCards
import Derived.Test.YtmonodehegcfhaaGreatDoorTie
import Derived.Test.YtmonodehegcfhaaGreatDoorJ47
import Derived.Test.YtmonodehegcfhaaGreatDoorJ13
import Derived.Test.YtmonodehegcfhaaGreatDoorLrs
namespace Go.Proofs.YtmonodehegcfhaaGreatDoor
open Go.Proofs.Tryz
open Go.ChangeShapes Go.WideShapes Go.ChangeAt Go.RowKit
open Go.ChangeMaps (open_string)
set_option maxRecDepth 100000 in
theorem Jz(H:Type)(enc:TypeId×Value->H)(W:World)(base:Nat)(args:Array Value)(ds gs:List (DataW H))(before:List MemPlace)
  (hval:∀(j:Nat) t v,Tryz.f3.params[j]?=some t->args[j]?=some v->Value.okWide prog W .any base t v)
  (hW:DataW.Whole enc prog Tryz.f3.params.toList Rows.fnRunStartSpec.vars false W args.toList ds gs before) (hL:laidMetH prog Rows.fnRunStartRow.laid W) :
  Calls prog 3 args W λe W'=>∃v,e=.returned v/\Rows.fnRunStartSpec.post enc prog Tryz.f3 false true false false W args v W':=by
 have a7:=hW;have a8:=hW.lt;obtain⟨p,q,a5,hV,rfl,b0,b1⟩:=hW;have hA:DataW.TrodAll enc prog W 0 (λ_=>true) true Tryz.f3.params.toList args.toList ds p:=a5;rw[params3] at hA hval;obtain⟨v0,b2,d0,b3,p0,q0,a4,rfl,rfl,h0,r0⟩:=trodAll_cons hA;obtain⟨rfl,rfl,rfl⟩:=trodAll_nil r0;obtain rfl:args=#[v0]:=by cases args;simp_all
 have a9:=hval 0 22 v0 (by simp) (by simp);obtain⟨a0,l0,c0,a6⟩:=okWide_slice underlying22 a9;obtain⟨x0,n0,k0,rfl,a1,a2,a3⟩:=NW ⟨_,_,_,a6⟩ h0;obtain⟨hE,hT⟩:=Qf hL;obtain⟨g1,rfl⟩:=Xw (n:= "loop.example/maltrun/impl.recEndNames") hV;refine (Mu x0 n0 k0 W hE hT a1 a2 a3).mono λe' W' ⟨he,hb⟩=>?_;subst he;refine⟨_,rfl,_,_,_,[],p0++[],q,a7,?_,?_,?_,hb.frame _,λh=>by cases h⟩
 ·exact trodAll_cons_mk (shut_bool underlying4 _) trodAll_mk0
 ·exact (trodAll_cons_mk (Below.trod Rn (by kernel_rfl) (of_decide_eq_true (by kernel_rfl)) h0 hb (λx hx=>a8 x (by simp[hx]))) trodAll_mk0)
 ·exact hb.trodVars Rn (by kernel_rfl) hV
theorem Lz(os:Os){H:Type}(enc:TypeId×Value->H):∃ds gs places,DataW.whole enc prog ((Ju os).forCall (λ_ _=>0) ⟨#[],#[Nz],[]⟩).memory Tryz.f3.params.toList Rows.fnRunStartSpec.vars false
  #[(Nz:Value)].toList 8=some (ds,gs,places) :=
 ⟨[.nil],[Rows.laid_loop_example_maltrun_impl_recEndNames],[.cell 0 0,.cell 0 1,.cell 0 2],by kernel_rfl⟩
set_option maxRecDepth 100000 in
theorem KG(os:Os)(started:os.Started)(H:Type)(enc:TypeId×Value->H)(F:Stop.Interp):
  ReturnsInHanded {} Tryz.checked os 3 .any ((OpenSpec.ofChange Rows.fnRunStartSpec).preRow enc prog Tryz.f3 Rows.fnRunStartRow.domain false Rows.fnRunStartRow.laid) (((OpenSpec.ofChange Rows.fnRunStartSpec).at F).post enc prog Tryz.f3 false true false false):=by
 obtain⟨ds,gs,a0,hx⟩:=Lz os enc
 refine returnsInHanded_of_row (C:=Tryz.checked) (s:=OpenSpec.ofChange Rows.fnRunStartSpec) own started (by kernel_rfl) func3
  (witness_row_at (enc:=enc) (C:=Tryz.checked) false (Ju os) #[Nz] rfl (by kernel_rfl) (by kernel_rfl) (by kernel_rfl)
   (OpenSpec.preRow_of_cond 8 hx (by kernel_rfl) (λk hk=>by cases hk) (by kernel_rfl) (VB os _))) ?_
 intro W base args ds gs before hval hW _ _ _ hL _ _;exact Jz H enc W base args ds gs before hval hW hL
theorem Mv:Rows.FnRunStartSaid :=
 OpenClaim.holds_of_cond 3 Tryz.f3 rfl rfl rfl rfl rfl rfl rfl ⟨rfl,rfl,rfl,rfl,rfl⟩ rfl rfl rfl rfl rfl (by kernel_rfl) func3 (by kernel_rfl)
  (of_decide_eq_true (by kernel_rfl)) (by unfold Func.isWrapper;first|(rw[if_pos (by decide +kernel)];kernel_rfl)|(rw[if_neg (by decide +kernel)];exact⟨rfl,rfl⟩))
  (λos started H enc _ F=>by rw[OpenClaim.pre_eq_preRow];exact KG os started H enc F)
theorem LA(f:FuncId)(fn:Func)(hf:Tryz.pinned.checked.prog.funcNamed "loop.example/maltrun/laws.FnRunStart"=some f)(hfn:Tryz.pinned.checked.prog.funcs[f]?=some fn):
  true=Tryz.pinned.checked.prog.looks []/\∀(j:Nat) t,fn.params[j]?=some t->Tryz.pinned.checked.prog.wantsStandIn t=false:=by
 obtain rfl:f=3:=A6 ((show prog.funcNamed "loop.example/maltrun/laws.FnRunStart"=some 3 by kernel_rfl).symm.trans hf) |>.symm
 obtain rfl:fn=Tryz.f3:=(A6 (func3.symm.trans hfn)).symm;refine⟨by kernel_rfl,λj t ht=>?_⟩;rw[params3] at ht;obtain rfl:t=22:=by simpa using Array.mem_of_getElem? ht
 exact (show prog.wantsStandIn 22=false by kernel_rfl)
theorem fnRunStart_card:Rows.FnRunStartCardSaid :=
 Claim7.holds_tied_plain_at .later [] _ _ _ _ Mv (λ_ h=>by cases h) (by kernel_rfl) (λ_ h=>by cases h) fnRunStart_row_tie rfl ⟨rfl,rfl⟩ (by kernel_rfl) rfl LA (by kernel_rfl)
end Go.Proofs.YtmonodehegcfhaaGreatDoor
