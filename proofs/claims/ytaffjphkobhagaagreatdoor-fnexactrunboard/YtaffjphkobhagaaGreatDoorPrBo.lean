/-
  PROVED: for every house handed to it, the law of RunBoard returns true, on every tape, and the house reads afterwards as it read before: so at every argument the program's RunBoard, whose lines are written each by a goroutine of its own and put in order by their places, answers as the specification's, and writes into no argument; no run has a race.
  CONDITIONS: the program's table of the ends' names, and the library's tables that its numbers are written by, hold what their initialisers lay (tied to the program's text by the given tie); the form's own reach.
-/
import Derived.Test.YtaffjphkobhagaaGreatDoorCards
import Derived.Test.YtaffjphkobhagaaGreatDoorTie
import Derived.Test.YtaffjphkobhagaaGreatDoorJ46
import Derived.Test.YtaffjphkobhagaaGreatDoorJ50
import Derived.Test.YtaffjphkobhagaaGreatDoorJ51
namespace Go.Proofs.YtaffjphkobhagaaGreatDoor
open Proofs.Tryz
open Go.ChangeShapes Go.WideShapes Go.ChangeAt Go.RowKit Go.Conc
variable{fn:Func}{f:FuncId}{m:Machine}{P:Program}{t:Trace}{Post Post':Value->World->Prop}{W w:World}
theorem OG.below(h:OG W w):Below W.heap.size W {w with tape:=W.tape}:=⟨h.os,rfl,h.output,h.size,h.block⟩
theorem D9.mono(h:D9 P Post m t)(hp:∀v w,Post v w->Post' v w):D9 P Post' m t:=by
 obtain⟨N,a0,o,w',t',h1,h2,h3,h4⟩:=h;exact⟨N,a0,o,w',t',h1,h2,h3,h4.mono λv=>hp v w'⟩
theorem OH{H:Type}{enc:TypeId×Value->H}{C:Checked}{os:Os}{s:ChangeSpec}{conds:List PathCond}{laid:List (String×DataW Unit)}
  (own:ownKnob C.prog.godebug=none) (started:os.Started) (hfn:C.prog.funcs[f]?=some fn)
  (witness:∃(w:World)(tape:Tape)(i:Input),w.os=os/\(w.forCall tape i).Shaped C.prog/\i.vars=[]/\Input.okWide C.prog (w.forCall tape i) .any w.heap.size f i/\
   (OpenSpec.ofChange s).preRow enc C.prog fn conds false laid (w.forCall tape i).memory i.args/\({}:Assume).holds C.prog (lone (Frame.enter C.prog f i.args .normal) [] (w.forCall tape i)))
  (runs:∀(W:World)(base:Nat)(args:Array Value)(ds gs:List (DataW H)) (before:List MemPlace),W.ShapedOpen C.prog->laidMetH C.prog laid W->
   (∀(j:Nat) t v,fn.params[j]?=some t->args[j]?=some v->Value.okWide C.prog W .any base t v)->DataW.Whole enc C.prog fn.params.toList s.vars false W args.toList ds gs before->
   D9 C.prog (λv W'=>s.post enc C.prog fn false true false false W args v W') (crowd #[G (Frame.enter C.prog f args .normal) []] W none) #[]) :
  ReturnsInLeavingWide {} C os f .any ((OpenSpec.ofChange s).preRow enc C.prog fn conds false laid) (s.post enc C.prog fn false true false false):=by
 refine returnsInLeavingWide_of_good own started witness λw tape i _ hsh _ hok hpre _=>?_;obtain⟨_,_,_,a3,a0,_,_,_,_,a1⟩:=hok;obtain rfl:a3=fn:=A5 (a0.symm.trans hfn);obtain⟨⟨hp,hl⟩,_⟩:=hpre;obtain⟨ds,gs,before,hw,_,_⟩:=OpenSpec.pre_parts hp;obtain⟨M,a2,o,w',t',h1,h2,h3,h4⟩:=runs (w.forCall tape i) w.heap.size i.args ds gs before hsh (hl.of_heap (by rfl)) a1 (DataW.Whole.of_heap (by rfl) hw);exact⟨M,a2,o,w',t',h1,h2,h3,h4.mono λv hp=>ChangeSpec.post_blind hp⟩
theorem Yz(h:W.ShapedOpen prog):prog.globals.size<=W.heap.size:=by
 rw[Gr];have a1:gN-1<gN:=aS
 have h1:=List.all_eq_true.1 KR (gN-1) (List.mem_range.2 a1);obtain⟨⟨a0,e⟩,hr⟩:=Option.isSome_iff_exists.1 h1;obtain⟨cs,hc,_⟩:=h.1 (gN-1) a0 e (by rw[Gr];exact a1) hr;have:=(D1.1 hc).1;omega
set_option maxRecDepth 100000 in
theorem JL(H:Type)(enc:TypeId×Value->H)(W:World)(base:Nat)(args:Array Value)(ds gs:List (DataW H))(before:List MemPlace)(hsh:W.ShapedOpen prog)(hL:laidMetH prog Rows.fnExactRunBoardRow.laid W)
  (hval:∀(j:Nat) t v,Tryz.f3.params[j]?=some t->args[j]?=some v->Value.okWide prog W .any base t v)
  (hW:DataW.Whole enc prog Tryz.f3.params.toList Rows.fnExactRunBoardSpec.vars false W args.toList ds gs before) :
  D9 prog (λv W'=>Rows.fnExactRunBoardSpec.post enc prog Tryz.f3 false true false false W args v W') (crowd #[G (Frame.enter prog 3 args .normal) []] W none) #[]:=by
 have b5:=hW;have b6:=hW.lt;obtain⟨p,q,a9,hV,rfl,b8,b9⟩:=hW;have hA:DataW.TrodAll enc prog W 0 (λ_=>true) true Tryz.f3.params.toList args.toList ds p:=a9;rw[params3] at hA hval;obtain⟨v0,c5,d0,c6,p0,q0,a6,rfl,rfl,h0,r0⟩:=trodAll_cons hA;obtain⟨rfl,rfl,rfl⟩:=trodAll_nil r0;obtain rfl:args=#[v0]:=by cases args;simp_all
 have b7:=hval 0 29 v0 dC dC;obtain⟨a7,rfl,_⟩:=okWide_struct underlying29 b7;have g0:=h0;obtain⟨a8,b0⟩:=g0;obtain⟨x0,b1,b2,b3,b4,a5,a0⟩:=Qh b0;obtain rfl:a7=#[Iz x0.now,Iz x0.last,b1,b2,b3,b4]:=by cases a7;simpa [Value.cells] using a5
 obtain⟨hE,hP⟩:=Yq hL;obtain⟨g1,rfl⟩:=AdQ (n:= "loop.example/maltrun/impl.recEndNames") hV;obtain⟨a1,c1,a2,c2,a3,c3,a4,c4,rfl,rfl,rfl,rfl⟩:=a0.shapes;refine (Bd.lawB_ends (Ys hsh) hE (JJ (u:=W) rfl hP) (Yz hsh) a0).mono λv W' ⟨he,hb⟩=>?_;subst he;have hb:=hb.below;refine⟨_,_,_,[],p0++[],q,b5,?_,?_,?_,?_,λh=>by cases h⟩
 .exact trodAll_cons_mk (shut_bool underlying4 _) trodAll_mk0
 .exact DataW.TrodAll.of_heap (w:={W' with tape:=W.tape}) (w':=W') rfl (trodAll_cons_mk (Below.trod VC sI (of_decide_eq_true sI) h0 hb (λx hx=>b6 x (by simp[hx]))) trodAll_mk0)
 .exact DataW.TrodVars.of_heap (w:={W' with tape:=W.tape}) (w':=W') rfl (hb.trodVars VC sI hV)
 .have hf:=hb.frame (λp=>p∈p0++[]++q/\(p∈([]:List MemPlace)\/p∈p0++[]\/p∈q));exact⟨hf.1,hf.2.1,hf.2.2⟩
theorem IR(os:Os){H:Type}(enc:TypeId×Value->H):∃ds gs places,DataW.whole enc prog ((Ii os).forCall (λ_ _=>0) ⟨#[],#[.agg #[Iz 0,Iz 0,Nz,Nz,Nz,Nz]],[]⟩).memory Tryz.f3.params.toList Rows.fnExactRunBoardSpec.vars false
  (#[.agg #[Iz 0,Iz 0,Nz,Nz,Nz,Nz]]:Array Value).toList 8=some (ds,gs,places) :=
 ⟨[.agg [.lit (.int .i64 0),.lit (.int .i64 0),.agg [.nil,.nil],.nil,.nil]],[Rows.laid_loop_example_maltrun_impl_recEndNames],[.cell 0 0,.cell 0 1,.cell 0 2],sI⟩
set_option maxRecDepth 100000 in
theorem Ij(os:Os)(started:os.Started)(H:Type)(enc:TypeId×Value->H):
  ReturnsInLeavingWide {} Tryz.checked os 3 .any ((OpenSpec.ofChange Rows.fnExactRunBoardSpec).preRow enc prog Tryz.f3 Rows.fnExactRunBoardRow.domain false Rows.fnExactRunBoardRow.laid) (Rows.fnExactRunBoardSpec.post enc prog Tryz.f3 false true false false):=by
 obtain⟨ds,gs,a0,hx⟩:=IR os enc
 refine OH (C:=Tryz.checked) own started func3
  (witness_row_at (enc:=enc) (C:=Tryz.checked) false (Ii os) #[.agg #[Iz 0,Iz 0,Nz,Nz,Nz,Nz]] rfl sI sI sI
   (OpenSpec.preRow_of_cond 8 hx sI (λk hk=>by cases hk) sI (Yr os _))) ?_
 intro W base args ds gs before hsh hL hval hW;exact JL H enc W base args ds gs before hsh hL hval hW
theorem JM:Rows.FnExactRunBoardSaid :=
 OpenClaim.holds_of_wide_leaving 3 Tryz.f3 rfl rfl rfl rfl rfl rfl rfl ⟨rfl,rfl,rfl,rfl,rfl⟩ rfl rfl rfl rfl rfl sI func3 sI
  (of_decide_eq_true sI) (by unfold Func.isWrapper;first|(rw[if_pos (by decide +kernel)];kernel_rfl)|(rw[if_neg (by decide +kernel)];exact⟨rfl,rfl⟩))
  (λos started H enc _=>by rw[OpenClaim.pre_eq_preRow];exact Ij os started H enc)
theorem IU(f:FuncId)(fn:Func)(hf:Tryz.pinned.checked.prog.funcNamed "loop.example/maltrun/laws.FnExactRunBoard"=some f)(hfn:Tryz.pinned.checked.prog.funcs[f]?=some fn):
  true=Tryz.pinned.checked.prog.looks []/\∀(j:Nat) t,fn.params[j]?=some t->Tryz.pinned.checked.prog.wantsStandIn t=false:=by
 obtain rfl:f=3:=A5 ((show prog.funcNamed "loop.example/maltrun/laws.FnExactRunBoard"=some 3 by kernel_rfl).symm.trans hf) |>.symm
 obtain rfl:fn=Tryz.f3:=(A5 (func3.symm.trans hfn)).symm;refine⟨sI,λj t ht=>?_⟩;rw[params3] at ht;have hm:t=29:=by simpa using Array.mem_of_getElem? ht
 subst hm;exact (show prog.wantsStandIn 29=false by kernel_rfl)
theorem NN(Lk:Looks){p:Pinned}{s:OpenSpec}{c:OpenClaim}(kinds:List LaidKind)(tests:Bool)(har:Bool×String)(lk g:Bool)
  (hc:c.holds p s) (hw:c.wfByText s=true) (htie:c.laidByTextAt Lk p kinds tests)
  (hst:c.start=.entering) (hnb:c.noBlocks=false/\c.again=false) (hm:p.checked.prog.mainIs=some (har.1,har.2.toList)) (hn:(!har.1&&har.2.isEmpty && !lk)=false)
  (hl:∀f fn,p.checked.prog.funcNamed c.func=some f->p.checked.prog.funcs[f]?=some fn->lk=p.checked.prog.looks []/\∀(j:Nat) t,fn.params[j]?=some t->p.checked.prog.wantsStandIn t=false)
  (hg:g=c.goesBy p.checked.prog) :
  Claim7.holds p (.plain s) {stood:={row:=c,standIns:=[],harness:=har,looks:=lk},kinds:=[],alts:=[],goes:=g,laidByText:=true,laidKinds:=kinds,laidTests:=tests,laidLooks:=Lk}:=by
 have h6:Claim7.isSixth {stood:={row:=c,standIns:=[],harness:=har,looks:=lk},kinds:=[]}=false:=by simpa [Claim7.isSixth] using hn
 refine⟨Claim7.tied_new_at Lk kinds tests (Claim7.new_of_sixth hc har lk hst hnb hm h6 hl) hw,?_,htie,?_,hg⟩
 .intro D hD;cases hD
 .intro h;cases h
theorem fnExactRunBoard_card:Rows.FnExactRunBoardCardSaid :=
 NN .later _ _ _ _ _ JM (by kernel_rfl) fnExactRunBoard_row_tie rfl ⟨rfl,rfl⟩ (by kernel_rfl) rfl IU (by kernel_rfl)
end Go.Proofs.YtaffjphkobhagaaGreatDoor
