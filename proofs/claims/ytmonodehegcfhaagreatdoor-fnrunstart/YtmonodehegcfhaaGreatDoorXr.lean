/- A region that draws its order and ends in one operation that waits for all: what is read may be taken first, though that last operation writes over it. -/
import Derived.OrdersHeld
import Derived.Deep.RegionHeld
import Derived.Test.YtmonodehegcfhaaGreatDoorJ2
namespace Go.Proofs.YtmonodehegcfhaaGreatDoor
open Go
section
variable {P:Program} {ops:Array Oper} {Q:Exit->Act->World->Prop} {md:Region.Mode} {S:World->Prop} {L:Nat}
def AY(P:Program)(md:Region.Mode)(ops:Array Oper)(Q:Exit->Act->World->Prop)(S:World->Prop)(L:Nat):Nat->Array Bool->Act->World->Prop
 | 0,listed,a,w=>Region.ready md ops listed=[]/\Q .normal a w
 | fuel+1,listed,a,w=>(Region.ready md ops listed=[]->Q .normal a w)/\
  ∀i∈Region.ready md ops listed,wpOp P ops Q i (λa' w'=>(i≠L->S w')/\AY P md ops Q S L fuel (listed.setIfInBounds i true) a' w') a w
theorem On:∀(fuel:Nat)(listed:Array Bool)(a:Act)(w:World),AY P md ops Q S L fuel listed a w->wpAny P md ops Q fuel listed a w
 | 0,_,_,_,h=>h
 | fuel+1,_,_,_,h=>⟨h.1,λi hi=>wpOp_mono (λa' w' h'=>On fuel _ a' w' h'.2) (h.2 i hi)⟩
def FV(md:Region.Mode)(ops:Array Oper)(L i:Nat):Bool:=((ops[L]?).map λo=>o.after.any λe=>Region.binds md e&&e.on==i).getD (decide (ops.size<=L))
theorem VM{listed:Array Bool}{i j:Nat}(hw:FV md ops L i=true)(hi:i∈Region.ready md ops listed)(hj:j∈Region.ready md ops listed):j≠L:=by
 rintro rfl;obtain⟨_,oj,a1,a0⟩:=mem_ready.1 hj;simp only[FV,a1,Option.map_some,Option.getD_some,Array.any_eq_true',Bool.and_eq_true,beq_iff_eq] at hw;obtain⟨e,he,hb,a2⟩:=hw;have h1:=a0 e he hb;have h0:=(mem_ready.1 hi).1;rw[a2] at h1;rcases Nat.lt_or_ge i listed.size with h'|h'
 ·simp[h'] at h0 h1;rw[h0] at h1;cases h1
 ·simp[Array.getElem?_eq_none h'] at h1
theorem LC{i:Nat}{oi:Oper}{v:Value}(hi:ops[i]?=some oi)(hsel:∀(j:Nat)(o:Oper) cs b,ops[j]?=some o->o.op≠.select cs b)
  (hQ:∀c a w,Q (.panic c) (a.put oi.dst v) w->Q (.panic c) a w) (hw:FV md ops L i=true) :
  ∀(fuel:Nat)(listed:Array Bool)(a:Act)(w:World),
   (∀j oj,ops[j]?=some oj->j≠i->listed.getD j true=false->(∀e∈oj.after,Region.binds md e=true->e.on≠i)->oi.apart ops oj=true)->
   i∈Region.ready md ops listed->YieldsIf P ops S oi v a->S w->AY P md ops Q S L fuel (listed.setIfInBounds i true) (a.put oi.dst v) w->AY P md ops Q S L (fuel+1) listed a w:=by
 intro fuel;induction fuel with
 | zero =>
  intro listed a w _ hr hy hS H;refine⟨λh=>(by rw[h] at hr;cases hr),λj hj=>?_⟩;by_cases hji:j=i
  ·subst hji;exact hy.wpOp hi hS ⟨λ_=>hS,H⟩
  ·have hm:=ready_mono hj hji;rw[H.1] at hm;cases hm
 | succ fuel ih =>
  intro listed a w hfree hr hy hS H;refine⟨λh=>(by rw[h] at hr;cases hr),λj hj=>?_⟩;by_cases hji:j=i
  ·subst hji;exact hy.wpOp hi hS ⟨λ_=>hS,H⟩
  ·have a4:j≠L:=VM hw hr hj;obtain⟨a0,oj,a1,a2⟩:=mem_ready.1 hj
   have a3:∀e∈oj.after,Region.binds md e=true->e.on≠i:=λe he hb heq=>by
    have h1:=a2 e he hb;have h0:=(mem_ready.1 hr).1;rw[heq] at h1;rcases Nat.lt_or_ge i listed.size with h'|h'
    ·simp[h'] at h0 h1;rw[h0] at h1;cases h1
    ·simp[Array.getElem?_eq_none h'] at h1
   have h2:=wpOp_putIf a1 (hfree j oj a1 hji a0 a3) (λcs b=>hsel i oi cs b hi) (λcs b=>hsel j oj cs b a1) hQ hy (H.2 j (ready_mono hj hji));refine wpOp_mono (λa' w' h3=>⟨λ_=>h3.2.1 a4,ih (listed.setIfInBounds j true) a' w' (λk ok hk hki hun hno=>?_) (ready_mono hr (Ne.symm hji)) h3.1 (h3.2.1 a4) ?_⟩) h2
   ·refine hfree k ok hk hki ?_ hno;by_cases hjk:j=k
    ·subst hjk;exact a0
    ·rw[getD_set_ne true hjk] at hun;exact hun
   ·rw[Array.setIfInBounds_comm _ _ hji];exact h3.2.2
theorem TK{i:Nat}{oi:Oper}{v:Value}{fuel:Nat}{listed:Array Bool}{a:Act}{w:World}(hi:ops[i]?=some oi)
  (hs:Region.noSelect ops=true) (hf:Region.free md ops listed i=true) (hr:(Region.ready md ops listed).contains i=true) (hw:FV md ops L i=true)
  (hQ:∀c a w,Q (.panic c) (a.put oi.dst v) w->Q (.panic c) a w) (hg:Region.wanted oi (yielded ops a.tmps)=true) (hS:S w) (hy:∀w,S w->(execOp a.eval oi).run P w=.ok (.value v) w)
  (h:AY P md ops Q S L fuel (listed.setIfInBounds i true) (a.put oi.dst v) w):AY P md ops Q S L (fuel+1) listed a w :=
 LC hi (Region.noSelect_spec hs) hQ hw fuel listed a w (Region.free_spec hi hf) (by simpa using hr) (.inl ⟨hg,hy⟩) hS h
theorem TL{i:Nat}{oi:Oper}{fuel:Nat}{listed:Array Bool}{a:Act}{w:World}(hi:ops[i]?=some oi)
  (hs:Region.noSelect ops=true) (hf:Region.free md ops listed i=true) (hr:(Region.ready md ops listed).contains i=true) (hw:FV md ops L i=true)
  (hQ:∀c a w,Q (.panic c) (a.put oi.dst undef) w->Q (.panic c) a w) (hg:Region.wanted oi (yielded ops a.tmps)=false) (hS:S w)
  (h:AY P md ops Q S L fuel (listed.setIfInBounds i true) (a.put oi.dst undef) w):AY P md ops Q S L (fuel+1) listed a w :=
 LC hi (Region.noSelect_spec hs) hQ hw fuel listed a w (Region.free_spec hi hf) (by simpa using hr) (.inr ⟨hg,rfl⟩) hS h
theorem D6(i:Nat){oi:Oper}{v:Value}{fuel:Nat}{listed:Array Bool}{a:Act}{w:World}(hi:ops[i]?=some oi)(hS:S w)
  (h:AY P md ops Q S L fuel (listed.setIfInBounds i true) (a.put oi.dst v) w)
  (hy:∀w,S w->(execOp a.eval oi).run P w=.ok (.value v) w:=by (intro w hSw;(try dsimp only at hSw);go_simp;try with_reducible rfl))
  (hs:Region.noSelect ops=true:=by kernel_rfl) (hf:Region.free md ops listed i=true:=by kernel_rfl) (hr:(Region.ready md ops listed).contains i=true:=by kernel_rfl) (hw:FV md ops L i=true:=by kernel_rfl)
  (hQ:∀c a w,Q (.panic c) (a.put oi.dst v) w->Q (.panic c) a w:=by exact λ_ _ _ h=>h) (hg:Region.wanted oi (yielded ops a.tmps)=true:=by first|kernel_rfl|rfl):AY P md ops Q S L (fuel+1) listed a w :=
 TK hi hs hf hr hw hQ hg hS hy h
theorem K9(i:Nat){oi:Oper}{fuel:Nat}{listed:Array Bool}{a:Act}{w:World}(hi:ops[i]?=some oi)(hS:S w)
  (h:AY P md ops Q S L fuel (listed.setIfInBounds i true) (a.put oi.dst undef) w)
  (hs:Region.noSelect ops=true:=by kernel_rfl) (hf:Region.free md ops listed i=true:=by kernel_rfl) (hr:(Region.ready md ops listed).contains i=true:=by kernel_rfl) (hw:FV md ops L i=true:=by kernel_rfl)
  (hQ:∀c a w,Q (.panic c) (a.put oi.dst undef) w->Q (.panic c) a w:=by exact λ_ _ _ h=>h) (hg:Region.wanted oi (yielded ops a.tmps)=false:=by first|kernel_rfl|rfl):AY P md ops Q S L (fuel+1) listed a w :=
 TL hi hs hf hr hw hQ hg hS h
theorem VN{i:Nat}{o:Oper}{fuel:Nat}{listed:Array Bool}{a:Act}{w:World}(hr:Region.ready md ops listed=[i])(ho:ops[i]?=some o)
  (h:∀K':Act->World->Prop,Shut (∀a w,(i≠L->S w)->AY P md ops Q S L fuel (listed.setIfInBounds i true) a w->K' a w)->if Region.wanted o (yielded ops a.tmps)=true then Oper.wp P o a w K' Q else K' (a.put o.dst undef) w) :
  AY P md ops Q S L (fuel+1) listed a w:=by
 refine⟨λh0=>(by rw[hr] at h0;cases h0),λj hj=>?_⟩;rw[hr] at hj;obtain rfl:j=i:=by simpa using hj
 exact wpOp_step ho λK' hK=>h K' λa w hS hA=>hK a w ⟨hS,hA⟩
theorem E7(i:Nat){o:Oper}{fuel:Nat}{listed:Array Bool}{a:Act}{w:World}(ho:ops[i]?=some o)
  (h:∀K':Act->World->Prop,Shut (∀a w,(i≠L->S w)->AY P md ops Q S L fuel (listed.setIfInBounds i true) a w->K' a w)->if Region.wanted o (yielded ops a.tmps)=true then Oper.wp P o a w K' Q else K' (a.put o.dst undef) w)
  (hr:Region.ready md ops listed=[i]:=by kernel_rfl):AY P md ops Q S L (fuel+1) listed a w:=VN hr ho h
theorem E6{i:Nat}{R K:Act->World->Prop}{a:Act}{w:World}(h:Shut (∀a w,(i≠L->S w)->R a w->K a w))(hs:S w)(hr:R a w):K a w:=h a w (λ_=>hs) hr
theorem Bf{i:Nat}{R K:Act->World->Prop}{a:Act}{w:World}(h:Shut (∀a w,(i≠i->S w)->R a w->K a w))(hr:R a w):K a w:=h a w (λe=>absurd rfl e) hr
theorem R4{i j:Nat}{o o':Oper}{fuel:Nat}{listed:Array Bool}{a:Act}{w:World}(hr:Region.ready md ops listed=[i,j])(ho:ops[i]?=some o)(ho':ops[j]?=some o')
  (h:∀K':Act->World->Prop,Shut (∀a w,(i≠L->S w)->AY P md ops Q S L fuel (listed.setIfInBounds i true) a w->K' a w)->if Region.wanted o (yielded ops a.tmps)=true then Oper.wp P o a w K' Q else K' (a.put o.dst undef) w)
  (h':∀K':Act->World->Prop,Shut (∀a w,(j≠L->S w)->AY P md ops Q S L fuel (listed.setIfInBounds j true) a w->K' a w)->if Region.wanted o' (yielded ops a.tmps)=true then Oper.wp P o' a w K' Q else K' (a.put o'.dst undef) w) :
  AY P md ops Q S L (fuel+1) listed a w:=by
 refine⟨λh0=>(by rw[hr] at h0;cases h0),λk hk=>?_⟩;rw[hr] at hk;rcases (by simpa using hk:k=i∨k=j) with rfl|rfl
 ·exact wpOp_step ho λK' hK=>h K' λa w hS hA=>hK a w ⟨hS,hA⟩
 ·exact wpOp_step ho' λK' hK=>h' K' λa w hS hA=>hK a w ⟨hS,hA⟩
theorem F0{listed:Array Bool}{a:Act}{w:World}(hr:Region.ready md ops listed=[])(h:Q .normal a w):∀fuel,AY P md ops Q S L fuel listed a w
 | 0=>⟨hr,h⟩
 | _+1=>⟨λ_=>h,by rw[hr];simp⟩
theorem F5{id:Nat}{a:Act}{w:World}(L:Nat)(S:World->Prop)(hm:P.follows .mixedOrders=true)(h:AY P .any ops Q S L ops.size (Array.replicate ops.size false) a w.drew):(Code.region id ops true).wp P Q a w :=
 wp_region_any hm (On _ _ _ _ h)
end
end Go.Proofs.YtmonodehegcfhaaGreatDoor
