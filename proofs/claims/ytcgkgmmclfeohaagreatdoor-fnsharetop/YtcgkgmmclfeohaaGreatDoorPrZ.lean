/-
  PROVED: for every code handed to it, the law of promise 9 returns true, on every tape, and the code reads afterwards as it read before: whatever is drawn to happen to a book (batches come, ask, need less, go), behind each step the program's book and code are the specification's, the book is well formed, safe and not stuck, and what was refused has changed nothing; then, as long as anybody shares, somebody can have all they need at once, gets it, and goes, and the book stays safe, until nobody is left; no run has a race.
  CONDITIONS: the errors package's variable errorType holds the handle that its initialiser lays (tied to the program's text by the given tie); the form's own reach.
-/
import Derived.Test.YtcgkgmmclfeohaaGreatDoorCards
import Derived.Test.YtcgkgmmclfeohaaGreatDoorTie
import Derived.Test.YtcgkgmmclfeohaaGreatDoorJ37
import Derived.Test.YtcgkgmmclfeohaaGreatDoorJ51
namespace Go.Proofs.YtcgkgmmclfeohaaGreatDoor
open Go.Proofs.Tryz
open Go.ChangeShapes Go.WideShapes Go.ChangeAt Go.RowKit Go.Conc
variable{P:Program}{W w:World}
theorem Y6.below(h:Y6 W w):Below W.heap.size W {w with tape:=W.tape}:=⟨h.os,rfl,h.output,h.size,h.block⟩
theorem E7.mono{Post Post':Value->World->Prop}{m:Machine}{t:Trace}(h:E7 P Post m t)(hp:∀v w,Post v w->Post' v w):E7 P Post' m t:=by
 obtain⟨N,a0,o,w',t',h1,h2,h3,h4⟩:=h;exact⟨N,a0,o,w',t',h1,h2,h3,h4.mono λv=>hp v w'⟩
theorem Pj{H:Type}{enc:TypeId×Value->H}{C:Checked}{os:Os}{f:FuncId}{fn:Func}{s:ChangeSpec}{conds:List PathCond}{laid:List (String×DataW Unit)}
  (own:ownKnob C.prog.godebug=none) (started:os.Started) (hfn:C.prog.funcs[f]?=some fn)
  (witness:∃(w:World)(tape:Tape)(i:Input),w.os=os/\(w.forCall tape i).Shaped C.prog/\i.vars=[]/\Input.okWide C.prog (w.forCall tape i) .any w.heap.size f i/\
   (OpenSpec.ofChange s).preRow enc C.prog fn conds false laid (w.forCall tape i).memory i.args/\({}:Assume).holds C.prog (lone (Frame.enter C.prog f i.args .normal) [] (w.forCall tape i)))
  (runs:∀(W:World)(base:Nat)(args:Array Value)(ds gs:List (DataW H)) (before:List MemPlace),W.ShapedOpen C.prog->laidMetH C.prog laid W->
   (∀(j:Nat) t v,fn.params[j]?=some t->args[j]?=some v->Value.okWide C.prog W .any base t v)->DataW.Whole enc C.prog fn.params.toList s.vars false W args.toList ds gs before->
   E7 C.prog (λv W'=>s.post enc C.prog fn false true false false W args v W') (crowd #[G (Frame.enter C.prog f args .normal) []] W none) #[]) :
  ReturnsInLeavingWide {} C os f .any ((OpenSpec.ofChange s).preRow enc C.prog fn conds false laid) (s.post enc C.prog fn false true false false):=by
 refine returnsInLeavingWide_of_good own started witness λw tape i _ hsh _ hok hpre _=>?_;obtain⟨_,_,_,a3,a0,_,_,_,_,a1⟩:=hok;obtain rfl:a3=fn:=A5 (a0.symm.trans hfn);obtain⟨⟨hp,hl⟩,_⟩:=hpre;obtain⟨ds,gs,before,hw,_,_⟩:=OpenSpec.pre_parts hp;obtain⟨M,a2,o,w',t',h1,h2,h3,h4⟩:=runs (w.forCall tape i) w.heap.size i.args ds gs before hsh (hl.of_heap (by rfl)) a1 (DataW.Whole.of_heap (by rfl) hw);exact⟨M,a2,o,w',t',h1,h2,h3,h4.mono λv hp=>ChangeSpec.post_blind hp⟩
set_option maxRecDepth 100000 in
theorem NY(H:Type)(enc:TypeId×Value->H)(W:World)(base:Nat)(args:Array Value)(ds gs:List (DataW H))(before:List MemPlace)(hsh:W.ShapedOpen prog)(hL:laidMetH prog Rows.fnShareTopRow.laid W)
  (hval:∀(j:Nat) t v,Tryz.f3.params[j]?=some t->args[j]?=some v->Value.okWide prog W .any base t v)
  (hW:DataW.Whole enc prog Tryz.f3.params.toList Rows.fnShareTopSpec.vars false W args.toList ds gs before) :
  E7 prog (λv W'=>Rows.fnShareTopSpec.post enc prog Tryz.f3 false true false false W args v W') (crowd #[G (Frame.enter prog 3 args .normal) []] W none) #[]:=by
 have a7:=hW;have a8:=hW.lt;obtain⟨p,q,a5,hV,rfl,b0,b1⟩:=hW;have hA:DataW.TrodAll enc prog W 0 (λ_=>true) true Tryz.f3.params.toList args.toList ds p:=a5;rw[params3] at hA hval;obtain⟨v0,b2,d0,b3,p0,q0,a4,rfl,rfl,h0,r0⟩:=trodAll_cons hA;obtain⟨rfl,rfl,rfl⟩:=trodAll_nil r0;obtain rfl:args=#[v0]:=by cases args;simp_all
 have a9:=hval 0 22 v0 (by simp) (by simp);obtain⟨a0,l0,c0,a6⟩:=okWide_slice underlying22 a9;obtain⟨x0,n0,k0,rfl,a1,a2,a3⟩:=Qr ⟨_,_,_,a6⟩ h0;have hE:T8 W:=T8.of_laid hL;obtain⟨rfl,rfl⟩:=trodVars_none hV;refine (Ul hE a1 a2 a3 (WA hsh)).mono λv W' ⟨he,hb⟩=>?_;subst he;have hb:=hb.below;refine⟨_,_,_,[],p0++[],[],a7,?_,?_,?_,?_,λh=>by cases h⟩
 ·exact trodAll_cons_mk (shut_bool underlying4 _) trodAll_mk0
 ·exact DataW.TrodAll.of_heap (w:={W' with tape:=W.tape}) (w':=W') rfl (trodAll_cons_mk (Below.trod Uv (by kernel_rfl) (of_decide_eq_true (by kernel_rfl)) h0 hb (λx hx=>a8 x (by simp[hx]))) trodAll_mk0)
 ·exact DataW.TrodVars.of_heap (w:={W' with tape:=W.tape}) (w':=W') rfl (hb.trodVars Uv (by kernel_rfl) hV)
 ·have hf:=hb.frame (λp=>p∈p0++[]++[]/\(p∈([]:List MemPlace)∨p∈p0++[]∨p∈([]:List MemPlace)));exact⟨hf.1,hf.2.1,hf.2.2⟩
theorem MB(os:Os){H:Type}(enc:TypeId×Value->H):∃ds gs places,DataW.whole enc prog ((JN os).forCall (λ_ _=>0) ⟨#[],#[Nz],[]⟩).memory Tryz.f3.params.toList Rows.fnShareTopSpec.vars false
  #[(Nz:Value)].toList 8=some (ds,gs,places) :=
 ⟨[.nil],[],[],by kernel_rfl⟩
set_option maxRecDepth 100000 in
theorem LE(os:Os)(started:os.Started)(H:Type)(enc:TypeId×Value->H):
  ReturnsInLeavingWide {} Tryz.checked os 3 .any ((OpenSpec.ofChange Rows.fnShareTopSpec).preRow enc prog Tryz.f3 Rows.fnShareTopRow.domain false Rows.fnShareTopRow.laid) (Rows.fnShareTopSpec.post enc prog Tryz.f3 false true false false):=by
 obtain⟨ds,gs,a0,hx⟩:=MB os enc
 refine Pj (C:=Tryz.checked) own started func3
  (witness_row_at (enc:=enc) (C:=Tryz.checked) false (JN os) #[Nz] rfl (by kernel_rfl) (by kernel_rfl) (by kernel_rfl)
   (OpenSpec.preRow_of_cond 8 hx (by kernel_rfl) (λk hk=>by cases hk) (by kernel_rfl) (Zd os _))) ?_
 intro W base args ds gs before hsh hL hval hW;exact NY H enc W base args ds gs before hsh hL hval hW
theorem NZ:Rows.FnShareTopSaid :=
 OpenClaim.holds_of_wide_leaving 3 Tryz.f3 rfl rfl rfl rfl rfl rfl rfl ⟨rfl,rfl,rfl,rfl,rfl⟩ rfl rfl rfl rfl rfl (by kernel_rfl) func3 (by kernel_rfl)
  (of_decide_eq_true (by kernel_rfl)) (by unfold Func.isWrapper;first|(rw[if_pos (by decide +kernel)];kernel_rfl)|(rw[if_neg (by decide +kernel)];exact⟨rfl,rfl⟩))
  (λos started H enc _=>by rw[OpenClaim.pre_eq_preRow];exact LE os started H enc)
theorem MC(f:FuncId)(fn:Func)(hf:Tryz.pinned.checked.prog.funcNamed "loop.example/maltrun/laws.FnShareTop"=some f)(hfn:Tryz.pinned.checked.prog.funcs[f]?=some fn):
  true=Tryz.pinned.checked.prog.looks []/\∀(j:Nat) t,fn.params[j]?=some t->Tryz.pinned.checked.prog.wantsStandIn t=false:=by
 obtain rfl:f=3:=A5 ((show prog.funcNamed "loop.example/maltrun/laws.FnShareTop"=some 3 by kernel_rfl).symm.trans hf) |>.symm
 obtain rfl:fn=Tryz.f3:=(A5 (func3.symm.trans hfn)).symm;refine⟨by kernel_rfl,λj t ht=>?_⟩;rw[params3] at ht;have hm:t=22:=by simpa using Array.mem_of_getElem? ht
 subst hm;exact (show prog.wantsStandIn 22=false by kernel_rfl)
theorem Oa(Lk:Looks){p:Pinned}{s:OpenSpec}{c:OpenClaim}(kinds:List LaidKind)(tests:Bool)(har:Bool×String)(lk g:Bool)
  (hc:c.holds p s) (hw:c.wfByText s=true) (htie:c.laidByTextAt Lk p kinds tests)
  (hst:c.start=.entering) (hnb:c.noBlocks=false/\c.again=false) (hm:p.checked.prog.mainIs=some (har.1,har.2.toList)) (hn:(!har.1&&har.2.isEmpty && !lk)=false)
  (hl:∀f fn,p.checked.prog.funcNamed c.func=some f->p.checked.prog.funcs[f]?=some fn->lk=p.checked.prog.looks []/\∀(j:Nat) t,fn.params[j]?=some t->p.checked.prog.wantsStandIn t=false)
  (hg:g=c.goesBy p.checked.prog) :
  Claim7.holds p (.plain s) {stood:={row:=c,standIns:=[],harness:=har,looks:=lk},kinds:=[],alts:=[],goes:=g,laidByText:=true,laidKinds:=kinds,laidTests:=tests,laidLooks:=Lk}:=by
 have h6:Claim7.isSixth {stood:={row:=c,standIns:=[],harness:=har,looks:=lk},kinds:=[]}=false:=by simpa [Claim7.isSixth] using hn
 refine⟨Claim7.tied_new_at Lk kinds tests (Claim7.new_of_sixth hc har lk hst hnb hm h6 hl) hw,?_,htie,?_,hg⟩
 ·intro D hD;cases hD
 ·intro h;cases h
theorem fnShareTop_card:Rows.FnShareTopCardSaid :=
 Oa .later _ _ _ _ _ NZ (by kernel_rfl) fnShareTop_row_tie rfl ⟨rfl,rfl⟩ (by kernel_rfl) rfl MC (by kernel_rfl)
end Go.Proofs.YtcgkgmmclfeohaaGreatDoor
