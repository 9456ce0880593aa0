/-
  PROVED: for every code handed to it, the law of promises 11 and 13 returns true, on every tape, and the code reads afterwards as it read before: for every book, name and list of things that the code draws the program's ShareAsk answers as the specification's, the same book and the same code; what is granted is had, and leaves a book that is safe safe; who is refused is refused because somebody else has some of it, or because behind it all could end in no order, and then they are not among those who can have all they need at once; no run has a race.
  CONDITIONS: the errors package's variable errorType holds the handle that its initialiser lays (tied to the program's text by the given tie); the form's own reach.
-/
import Derived.Test.YtmfjakieahkacaaGreatDoorCards
import Derived.Test.YtmfjakieahkacaaGreatDoorTie
import Derived.Test.YtmfjakieahkacaaGreatDoorJ51
import Derived.Test.YtmfjakieahkacaaGreatDoorJ17
import Derived.Test.YtmfjakieahkacaaGreatDoorJ44
namespace Go.Proofs.YtmfjakieahkacaaGreatDoor
open Go.ChangeShapes Go.WideShapes Go.ChangeAt Go.RowKit Go.Conc
theorem AA.below{W w:World}(h:AA W w):Below W.heap.size W {w with tape:=W.tape}:=⟨h.os,rfl,h.output,h.size,h.block⟩
theorem G4.mono{P:Program}{Post Post':Value->World->Prop}{m:Machine}{t:Trace}(h:G4 P Post m t)(hp:∀v w,Post v w->Post' v w):G4 P Post' m t:=by
 obtain⟨N,last,o,w',t',h1,h2,h3,h4⟩:=h;exact⟨N,last,o,w',t',h1,h2,h3,h4.mono λv=>hp v w'⟩
theorem MJ{H:Type}{enc:TypeId×Value->H}{C:Checked}{os:Os}{f:FuncId}{fn:Func}{s:ChangeSpec}{conds:List PathCond}{laid:List (String×DataW Unit)}
  (own:ownKnob C.prog.godebug=none) (started:os.Started) (hfn:C.prog.funcs[f]?=some fn)
  (witness:∃(w:World)(tape:Tape)(i:Input),w.os=os/\(w.forCall tape i).Shaped C.prog/\i.vars=[]/\Input.okWide C.prog (w.forCall tape i) .any w.heap.size f i/\
   (OpenSpec.ofChange s).preRow enc C.prog fn conds false laid (w.forCall tape i).memory i.args/\({}:Assume).holds C.prog (lone (Frame.enter C.prog f i.args .normal) [] (w.forCall tape i)))
  (runs:∀(W:World)(base:Nat)(args:Array Value)(ds gs:List (DataW H)) (before:List MemPlace),W.ShapedOpen C.prog->laidMetH C.prog laid W->
   (∀(j:Nat) t v,fn.params[j]?=some t->args[j]?=some v->Value.okWide C.prog W .any base t v)->DataW.Whole enc C.prog fn.params.toList s.vars false W args.toList ds gs before->
   G4 C.prog (λv W'=>s.post enc C.prog fn false true false false W args v W') (crowd #[G (Frame.enter C.prog f args .normal) []] W none) #[]) :
  ReturnsInLeavingWide {} C os f .any ((OpenSpec.ofChange s).preRow enc C.prog fn conds false laid) (s.post enc C.prog fn false true false false):=by
 refine returnsInLeavingWide_of_good own started witness λw tape i _ hsh _ hok hpre _=>?_;obtain⟨_,_,_,fn',hfn',_,_,_,_,hval⟩:=hok;obtain rfl:fn'=fn:=A5 (hfn'.symm.trans hfn);obtain⟨⟨hp,hl⟩,_⟩:=hpre;obtain⟨ds,gs,before,hw,_,_⟩:=OpenSpec.pre_parts hp;obtain⟨M,last,o,w',t',h1,h2,h3,h4⟩:=runs (w.forCall tape i) w.heap.size i.args ds gs before hsh (hl.of_heap (by rfl)) hval (DataW.Whole.of_heap (by rfl) hw);exact⟨M,last,o,w',t',h1,h2,h3,h4.mono λv hp=>ChangeSpec.post_blind hp⟩
set_option maxRecDepth 100000 in
theorem LJ(H:Type)(enc:TypeId×Value->H)(W:World)(base:Nat)(args:Array Value)(ds gs:List (DataW H))(before:List MemPlace)(hsh:W.ShapedOpen Tryz.prog)(hL:laidMetH Tryz.prog Rows.fnShareAskRow.laid W)
  (hval:∀(j:Nat) t v,Tryz.f3.params[j]?=some t->args[j]?=some v->Value.okWide Tryz.prog W .any base t v)
  (hW:DataW.Whole enc Tryz.prog Tryz.f3.params.toList Rows.fnShareAskSpec.vars false W args.toList ds gs before) :
  G4 Tryz.prog (λv W'=>Rows.fnShareAskSpec.post enc Tryz.prog Tryz.f3 false true false false W args v W') (crowd #[G (Frame.enter Tryz.prog 3 args .normal) []] W none) #[]:=by
 have hW':=hW;have hlt:=hW.lt;obtain⟨p,q,hA0,hV,rfl,hfz,hnd⟩:=hW;have hA:DataW.TrodAll enc Tryz.prog W 0 (λ_=>true) true Tryz.f3.params.toList args.toList ds p:=hA0;rw[Tryz.params3] at hA hval;obtain⟨v0,vs0,d0,ds0,p0,q0,hargs,rfl,rfl,h0,r0⟩:=trodAll_cons hA;obtain⟨rfl,rfl,rfl⟩:=trodAll_nil r0;obtain rfl:args=#[v0]:=by cases args;simp_all
 have hk0:=hval 0 22 v0 (by simp) (by simp);obtain⟨a0,l0,c0,hv0⟩:=okWide_slice Tryz.underlying22 hk0;obtain⟨x0,n0,k0,rfl,hsrc0,hcap0,hbig0⟩:=NR ⟨_,_,_,hv0⟩ h0;have hE:Bf W:=Bf.of_laid hL;obtain⟨rfl,rfl⟩:=trodVars_none hV;refine (Rn hE hsrc0 hcap0 hbig0 (TU hsh)).mono λv W' ⟨he,hb⟩=>?_;subst he;have hb:=hb.below;refine⟨_,_,_,[],p0++[],[],hW',?_,?_,?_,?_,λh=>by cases h⟩
 ·exact trodAll_cons_mk (shut_bool Tryz.underlying4 _) trodAll_mk0
 ·exact DataW.TrodAll.of_heap (w:={W' with tape:=W.tape}) (w':=W') rfl (trodAll_cons_mk (Below.trod RA (by kernel_rfl) (of_decide_eq_true (by kernel_rfl)) h0 hb (λx hx=>hlt x (by simp[hx]))) trodAll_mk0)
 ·exact DataW.TrodVars.of_heap (w:={W' with tape:=W.tape}) (w':=W') rfl (hb.trodVars RA (by kernel_rfl) hV)
 ·have hf:=hb.frame (λp=>p∈p0++[]++[]/\(p∈([]:List MemPlace)∨p∈p0++[]∨p∈([]:List MemPlace)));exact⟨hf.1,hf.2.1,hf.2.2⟩
theorem Ky(os:Os){H:Type}(enc:TypeId×Value->H):∃ds gs places,DataW.whole enc Tryz.prog ((Iq os).forCall (λ_ _=>0) ⟨#[],#[.slice none 0 0],[]⟩).memory Tryz.f3.params.toList Rows.fnShareAskSpec.vars false
  #[(.slice none 0 0:Value)].toList 8=some (ds,gs,places) :=
 ⟨[.nil],[],[],by kernel_rfl⟩
set_option maxRecDepth 100000 in
theorem JO(os:Os)(started:os.Started)(H:Type)(enc:TypeId×Value->H):
  ReturnsInLeavingWide {} Tryz.checked os 3 .any ((OpenSpec.ofChange Rows.fnShareAskSpec).preRow enc Tryz.prog Tryz.f3 Rows.fnShareAskRow.domain false Rows.fnShareAskRow.laid) (Rows.fnShareAskSpec.post enc Tryz.prog Tryz.f3 false true false false):=by
 obtain⟨ds,gs,places,hx⟩:=Ky os enc
 refine MJ (C:=Tryz.checked) own started Tryz.func3
  (witness_row_at (enc:=enc) (C:=Tryz.checked) false (Iq os) #[.slice none 0 0] rfl (by kernel_rfl) (by kernel_rfl) (by kernel_rfl)
   (OpenSpec.preRow_of_cond 8 hx (by kernel_rfl) (λk hk=>by cases hk) (by kernel_rfl) (WG os _))) ?_
 intro W base args ds gs before hsh hL hval hW;exact LJ H enc W base args ds gs before hsh hL hval hW
theorem LK:Rows.FnShareAskSaid :=
 OpenClaim.holds_of_wide_leaving 3 Tryz.f3 rfl rfl rfl rfl rfl rfl rfl ⟨rfl,rfl,rfl,rfl,rfl⟩ rfl rfl rfl rfl rfl (by kernel_rfl) Tryz.func3 (by kernel_rfl)
  (of_decide_eq_true (by kernel_rfl)) (by unfold Func.isWrapper;first|(rw[if_pos (by decide +kernel)];kernel_rfl)|(rw[if_neg (by decide +kernel)];exact⟨rfl,rfl⟩))
  (λos started H enc _=>by rw[OpenClaim.pre_eq_preRow];exact JO os started H enc)
theorem KA(f:FuncId)(fn:Func)(hf:Tryz.pinned.checked.prog.funcNamed "loop.example/maltrun/laws.FnShareAsk"=some f)(hfn:Tryz.pinned.checked.prog.funcs[f]?=some fn):
  true=Tryz.pinned.checked.prog.looks []/\∀(j:Nat) t,fn.params[j]?=some t->Tryz.pinned.checked.prog.wantsStandIn t=false:=by
 obtain rfl:f=3:=A5 ((show Tryz.prog.funcNamed "loop.example/maltrun/laws.FnShareAsk"=some 3 by kernel_rfl).symm.trans hf) |>.symm
 obtain rfl:fn=Tryz.f3:=(A5 (Tryz.func3.symm.trans hfn)).symm;refine⟨by kernel_rfl,λj t ht=>?_⟩;rw[Tryz.params3] at ht;have hm:t=22:=by simpa using Array.mem_of_getElem? ht
 subst hm;exact (show Tryz.prog.wantsStandIn 22=false by kernel_rfl)
theorem LL(Lk:Looks){p:Pinned}{s:OpenSpec}{c:OpenClaim}(kinds:List LaidKind)(tests:Bool)(har:Bool×String)(lk g:Bool)
  (hc:c.holds p s) (hw:c.wfByText s=true) (htie:c.laidByTextAt Lk p kinds tests)
  (hst:c.start=.entering) (hnb:c.noBlocks=false/\c.again=false) (hm:p.checked.prog.mainIs=some (har.1,har.2.toList)) (hn:(!har.1&&har.2.isEmpty && !lk)=false)
  (hl:∀f fn,p.checked.prog.funcNamed c.func=some f->p.checked.prog.funcs[f]?=some fn->lk=p.checked.prog.looks []/\∀(j:Nat) t,fn.params[j]?=some t->p.checked.prog.wantsStandIn t=false)
  (hg:g=c.goesBy p.checked.prog) :
  Claim7.holds p (.plain s) {stood:={row:=c,standIns:=[],harness:=har,looks:=lk},kinds:=[],alts:=[],goes:=g,laidByText:=true,laidKinds:=kinds,laidTests:=tests,laidLooks:=Lk}:=by
 have h6:Claim7.isSixth {stood:={row:=c,standIns:=[],harness:=har,looks:=lk},kinds:=[]}=false:=by simpa [Claim7.isSixth] using hn
 refine⟨Claim7.tied_new_at Lk kinds tests (Claim7.new_of_sixth hc har lk hst hnb hm h6 hl) hw,?_,htie,?_,hg⟩
 ·intro D hD;cases hD
 ·intro h;cases h
theorem fnShareAsk_card:Rows.FnShareAskCardSaid :=
 LL .later _ _ _ _ _ LK (by kernel_rfl) fnShareAsk_row_tie rfl ⟨rfl,rfl⟩ (by kernel_rfl) rfl KA (by kernel_rfl)
end Go.Proofs.YtmfjakieahkacaaGreatDoor
