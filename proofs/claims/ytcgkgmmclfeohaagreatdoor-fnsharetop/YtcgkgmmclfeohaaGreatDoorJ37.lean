/- What the row's list gives: the errors package's handle of the type error; a world for the witness. -/
import Derived.Test.YtcgkgmmclfeohaaGreatDoorRows
import Derived.Test.YtcgkgmmclfeohaaGreatDoorJ12
import Derived.Test.YtcgkgmmclfeohaaGreatDoorJ20
import Derived.LaidHandle
import Derived.Test.YtcgkgmmclfeohaaGreatDoorJ28
import Derived.Test.YtcgkgmmclfeohaaGreatDoorJ30
import Derived.Test.YtcgkgmmclfeohaaGreatDoorJ35
namespace Go.Proofs.YtcgkgmmclfeohaaGreatDoor
open Go.Proofs.Tryz
open Go.ChangeShapes Go.WideShapes Go.ChangeAt Go.RowKit
theorem etN:prog.globalNamed "errors.errorType"=some 0:=by kernel_rfl
theorem rtN:(prog.cutTypes.find? (·.1 == "internal/reflectlite.rtype")).map (·.2)=some 152:=by kernel_rfl
theorem Afn:((List.range prog.types.size).filter λt=>prog.rowNamed t [101,114,114,111,114])=[87]:=by kernel_rfl
theorem T8.of_laid{W:World}(h:laidMetH prog [("errors.errorType",Rows.laid_errors_errorType)] W):T8 W:=by
 have h':laidMet prog [] W/\handlesMet prog [("errors.errorType",Rows.laid_errors_errorType)] W:=h;obtain⟨a0,u,ty,e1,e2,e3,e4,e5⟩:=h'.2 _ (D0.2 rfl);have en:a0=[101,114,114,111,114]:=(A5 e1).symm;subst en;obtain rfl:=A5 (rtN.symm.trans e2);have hm:ty∈(List.range prog.types.size).filter λt=>prog.rowNamed t [101,114,114,111,114]:=List.mem_filter.2 ⟨List.mem_range.2 e3,e4⟩;rw[Afn] at hm;obtain rfl:=D0.1 hm;have hh:typeHandle prog 87=(Value.pointer (some ⟨1,87,none⟩)):=by kernel_rfl
 rw[hh] at e5;unfold T8;simpa using World.var?_cell etN e5 0
noncomputable def JN(os:Os):World :=
 {World.holding prog os ⟨#[],#[],[]⟩ with heap:=(World.holding prog os ⟨#[],#[],[]⟩).heap.modify 0 fun
   | .cells _ t frozen=>.cells #[(Value.iface 152 (.agg #[(Value.pointer (some ⟨1,87,none⟩))]))] t frozen
   | o=>o}
theorem Zd(os:Os)(args:Array Value):laidMetH prog [("errors.errorType",Rows.laid_errors_errorType)] ((JN os).forCall (λ_ _=>0) ⟨#[],args,[]⟩).memory :=
 laidMetH_of_parts (laidMet_nil _ _) (by kernel_rfl)
end Go.Proofs.YtcgkgmmclfeohaaGreatDoor
namespace Go.Proofs.YtcgkgmmclfeohaaGreatDoor
open Go.Proofs.Tryz
open Go.Conc Go.RowKit
def O1(n:Nat)(T:Array Value)(l:List (Nat×Value)):Prop:=T.size=n/\∀p∈l,T[p.1]?=some p.2
theorem O1.get{n:Nat}{T:Array Value}{l:List (Nat×Value)}(h:O1 n T l)(x:Nat)(v:Value)(hm:(x,v)∈l):T[x]?=some v:=h.2 _ hm
theorem O1.ev{n:Nat}{T:Array Value}{l:List (Nat×Value)}{ds:List Deferred}(h:O1 n T l)(x:Nat)(v:Value)(hm:(x,v)∈l):(⟨T,ds⟩:Act).eval (.tmp x)=v:=by
 have:=h.get x v hm;simp[Act.eval,this]
theorem O1.put{n:Nat}{T:Array Value}{l:List (Nat×Value)}(h:O1 n T l)(d:Nat)(v:Value)(hd:d<n)(hn:∀p∈l,p.1≠d):O1 n (T.setIfInBounds d v) ((d,v)::l):=by
 refine⟨by simp[h.1],λp hp=>?_⟩;rcases List.mem_cons.1 hp with rfl|hp
 ·simp[h.1,hd]
 ·rw[Array.getElem?_setIfInBounds_ne (Ne.symm (hn p hp))];exact h.2 p hp
theorem O1.sub{n:Nat}{T:Array Value}{l l':List (Nat×Value)}(h:O1 n T l)(hs:∀p∈l',p∈l):O1 n T l':=⟨h.1,λp hp=>h.2 p (hs p hp)⟩
theorem D6{o:Oper}(h:o.guard=none)(f:Nat->Option Bool):Region.wanted o f=true:=by simp[Region.wanted,h]
theorem AbW{o:Oper}{j:Nat}{t t':Bool}{ops:Array Oper}{T:Array Value}{oj:Oper}{s:Nat}(h:o.guard=some (j,t))(hj:ops[j]?=some oj)(hs:oj.dst=some s)(hT:T[s]?=some (.bool t')):Region.wanted o (yielded ops T)=(t'==t):=by
 simp[Region.wanted,h,yielded,hj,hs,hT]
section
variable {P:Program} {Shun:Loc->Prop} {Post:Value->World->Prop} {b:Frame} {a:Act} {k:List Item} {cs:List Frame} {gs:Array Goroutine} {sl:Option (Nat×Nat)} {t:Trace} {V:World}
theorem D9{g g':Goroutine}(hh:G6 P Shun gs g t)(hr:g.status=.running)(hs:∀w,stepG P true g w=.go g' w #[])(kk:∀gs' sl' t' d,G6 P Shun gs' g' t'->E7 P Post (crowd gs' (V.at d) sl') t'):E7 P Post (crowd gs V sl) t:=by
 have hG:Go.Conc.Goes P true AtRel (DE λ_=>False) (λg w'=>g=g'/\AtRel V w') 1 g V:=Go.Conc.Goes.step hr λw₁ h₁=>by
  rw[hs];simp only[goes_go];exact⟨λe he=>by simp at he,Go.Conc.Goes.stop λw₂ h₂=>⟨rfl,atRel_trans _ _ _ h₁ h₂⟩⟩
 refine P5 (D:=DE λ_=>False) (B0:=0) (λ_ _ _ h e he=>(h e he).elim) hh hG λgs' g'' w' sl' t' hh' hst=>?_;obtain⟨rfl,d,rfl⟩:=hst;exact kk _ _ _ _ hh'
theorem Ze{id:Nat}{ops:Array Oper}(hh:G6 P Shun gs (G (b.at a (.code (.region id ops true)::k)) cs) t)(kk:∀gs' sl' t' d x,G6 P Shun gs' (G (b.at a (.inRegion ops (Region.schedule (P.follows .mixedOrders) ops x)::k)) cs) t'->E7 P Post (crowd gs' (V.at d) sl') t'):E7 P Post (crowd gs V sl) t:=by
 have hG:Go.Conc.Goes P true AtRel (DE λ_=>False) (λg w'=>(∃x,g=G (b.at a (.inRegion ops (Region.schedule (P.follows .mixedOrders) ops x)::k)) cs)/\AtRel V w') 1 (G (b.at a (.code (.region id ops true)::k)) cs) V:=Go.Conc.Goes.step rfl λw₁ h₁=>by
  rw[stepG_region_draw];simp only[goes_go];refine⟨λe he=>by simp at he,Go.Conc.Goes.stop λw₂ h₂=>⟨⟨_,rfl⟩,?_⟩⟩;obtain⟨d,rfl⟩:=h₁;obtain⟨d',rfl⟩:=h₂;exact⟨d',rfl⟩
 refine P5 (D:=DE λ_=>False) (B0:=0) (λ_ _ _ h e he=>(h e he).elim) hh hG λgs' g'' w' sl' t' hh' hst=>?_;obtain⟨⟨x,rfl⟩,d,rfl⟩:=hst;exact kk _ _ _ _ _ hh'
theorem AbX{ops:Array Oper}{i:Nat}{rest:List Nat}{o:Oper}{v:Value}{dst:Option Tmp}(B:Nat)(hh:G6 P Shun gs (G (b.at a (.inRegion ops (i::rest)::k)) cs) t)(ho:ops[i]?=some o)(hw:Region.wanted o (yielded ops a.tmps)=true)(hk:b.kind=.normal)(hdst:o.dst=dst)
  (hr:∀d,(execOp a.eval o).run P (V.at d)=.ok (.value v) (V.at d)) (he:∀d,∀e∈(execOp a.eval o).events P (V.at d) #[],EvL Shun B e)
  (kk:∀gs' sl' t' d,G6 P Shun gs' (G (b.at (a.put dst v) (.inRegion ops rest::k)) cs) t'->E7 P Post (crowd gs' (V.at d) sl') t'):E7 P Post (crowd gs V sl) t:=by
 subst hdst
 have hG:Go.Conc.Goes P true AtRel (DE (EvL Shun B)) (λg w'=>g=G (b.at (a.put o.dst v) (.inRegion ops rest::k)) cs/\AtRel V w') 1 (G (b.at a (.inRegion ops (i::rest)::k)) cs) V:=Go.Conc.Goes.step rfl λw₁ h₁=>by
  obtain⟨d,rfl⟩:=h₁;rw[stepG_value ho hw (by rw[hk];intro h;cases h) (hr d)];simp only[goes_go];exact⟨λe hx=>he d e (mem_listed hx),Go.Conc.Goes.stop λw₂ h₂=>⟨rfl,by obtain⟨d',rfl⟩:=h₂;exact⟨d',rfl⟩⟩⟩
 refine P5 (D:=DE (EvL Shun B)) (B0:=B) (λ_ _ _ h=>h) hh hG λgs' g'' w' sl' t' hh' hst=>?_;obtain⟨rfl,d,rfl⟩:=hst;exact kk _ _ _ _ hh'
theorem Afo{ops:Array Oper}{i:Nat}{rest:List Nat}{o:Oper}{v:Value}{x:Operand}{dst:Option Tmp}(hh:G6 P Shun gs (G (b.at a (.inRegion ops (i::rest)::k)) cs) t)(ho:ops[i]?=some o)(hw:Region.wanted o (yielded ops a.tmps)=true)(hk:b.kind=.normal)(hdst:o.dst=dst)(hop:o.op=.move x∨o.op=.assign x)(hx:a.eval x=v)
  (kk:∀gs' sl' t' d,G6 P Shun gs' (G (b.at (a.put dst v) (.inRegion ops rest::k)) cs) t'->E7 P Post (crowd gs' (V.at d) sl') t'):E7 P Post (crowd gs V sl) t:=by
 have e:execOp a.eval o=Pure.pure (.value v):=by unfold execOp;rcases hop with h|h<;>rw[h]<;>simp[hx]
 exact AbX 0 hh ho hw hk hdst (λd=>by rw[e];rfl) (λd x hx=>by rw[e] at hx;simp at hx) kk
theorem Afp{ops:Array Oper}{i:Nat}{rest:List Nat}{o:Oper}{dst:Option Tmp}(hh:G6 P Shun gs (G (b.at a (.inRegion ops (i::rest)::k)) cs) t)(ho:ops[i]?=some o)(hw:Region.wanted o (yielded ops a.tmps)=false)(hdst:o.dst=dst)
  (kk:∀gs' sl' t' d,G6 P Shun gs' (G (b.at (a.put dst undef) (.inRegion ops rest::k)) cs) t'->E7 P Post (crowd gs' (V.at d) sl') t'):E7 P Post (crowd gs V sl) t:=by
 subst hdst;exact D9 hh rfl (λw=>by rw[stepG_unwanted ho hw]) kk
theorem Zf{ops:Array Oper}{i:Nat}{rest:List Nat}{o:Oper}{f:FuncId}{fn:Func}{args:Array Operand}{ats:Array TypeId}{vs:Array Value}(hh:G6 P Shun gs (G (b.at a (.inRegion ops (i::rest)::k)) cs) t)(ho:ops[i]?=some o)(hw:Region.wanted o (yielded ops a.tmps)=true)(hk:b.kind=.normal)(hop:o.op=.call {callee:=.value (.func f),args,argTypes:=ats})
  (hf:P.funcs[f]?=some fn) (hname:(fn.name == "runtime.NumGoroutine")=false) (hb:fn.body.isNone=false) (hvs:args.map a.eval=vs)
  (kk:∀gs' sl' t' d,G6 P Shun gs' (G (Frame.enter P f vs .normal) (b.at a (.inRegion ops (i::rest)::k)::cs)) t'->E7 P Post (crowd gs' (V.at d) sl') t'):E7 P Post (crowd gs V sl) t:=by
 have hs:∀w,stepG P true (G (b.at a (.inRegion ops (i::rest)::k)) cs) w=.go (G (Frame.enter P f vs .normal) (b.at a (.inRegion ops (i::rest)::k)::cs)) w #[]:=λw=>by
  subst hvs;rw[stepG_enter ho hw (by rw[hk];intro h;cases h) (run_call_body hop hf hname hb)];have:listed P b.fn a o w=#[]:=by unfold listed;rw[events_call_body hop hf hname hb];exact seen_none P _
  rw[this]
 exact D9 hh rfl hs kk
theorem Afq{X:Nat->Prop}{s:Nat->Bool}(S:M6 P s)(hX:Y9 Shun X)(hbV:M1 X V){ops:Array Oper}{i:Nat}{rest:List Nat}{o:Oper}{f:FuncId}{fn:Func}{args:Array Operand}{ats:Array TypeId}{vs:Array Value}{dst:Option Tmp}(hh:G6 P Shun gs (G (b.at a (.inRegion ops (i::rest)::k)) cs) t)(ho:ops[i]?=some o)(hw:Region.wanted o (yielded ops a.tmps)=true)(hk:b.kind=.normal)(hdst:o.dst=dst)(hop:o.op=.call {callee:=.value (.func f),args,argTypes:=ats})
  (hf:P.funcs[f]?=some fn) (hname:(fn.name == "runtime.NumGoroutine")=false) (hb:fn.body.isNone=false) (hsf:s f=true) (hvs:args.map a.eval=vs) {R:Value->World->Prop} (hR:∀v,N6 (R v))
  (hc:∀τ d,Calls P f vs (E0 X V τ d) λe u'=>(∃v,e=.returned v/\R v u')/\Below (E0 X V τ d).heap.size (E0 X V τ d) u')
  (kk:∀gs' w' sl' t' v,G6 P Shun gs' (G (b.at (a.put dst v) (.inRegion ops rest::k)) cs) t'->M1 X w'->(∀τ d,R v (E0 X w' τ d)/\Below V.heap.size (E0 X V τ d) (E0 X w' τ d))->E7 P Post (crowd gs' w' sl') t'):E7 P Post (crowd gs V sl) t:=by
 subst hdst;refine Zf hh ho hw hk hop hf hname hb hvs λgs1 sl1 t1 d1 hh1=>?_;refine Y5 hX hh1 (KI S hsf (hbV.at d1) (R:=λw v u=>R v u/\Up w u) (λτ d=>(show Calls P f vs (E0 X V τ d) _ from hc τ d).mono ?_) _ cs (by rw[hf];cases hx:fn.body with|none=>rw[hx] at hb;cases hb|some _=>simp[hx])) λgs2 g2 w2 sl2 t2 hh2 hst2=>?_
 ·rintro e u' ⟨⟨v,rfl,h1⟩,h2⟩;exact⟨v,rfl,h1,h2⟩
 obtain⟨v,rfl,a0,a1⟩:=hst2;rw[Frame.finish_at,ho] at hh2;exact kk _ _ _ _ v hh2 a0 λτ d=>S8 (hR v) ((a1 τ d).imp λu h=>let ⟨τ,d,h1,h2⟩:=h;⟨τ,d,h1,by (try unfold Up at h2);rw[I5] at h2;exact h2⟩)
theorem Ali{X:Nat->Prop}{ops:Array Oper}{i:Nat}{rest:List Nat}{o:Oper}{f:FuncId}{fn:Func}{args:Array Operand}{ats:Array TypeId}{vs:Array Value}{dst:Option Tmp}(hh:G6 P Shun gs (G (b.at a (.inRegion ops (i::rest)::k)) cs) t)(ho:ops[i]?=some o)(hw:Region.wanted o (yielded ops a.tmps)=true)(hk:b.kind=.normal)(hdst:o.dst=dst)(hop:o.op=.call {callee:=.value (.func f),args,argTypes:=ats})
  (hf:P.funcs[f]?=some fn) (hname:(fn.name == "runtime.NumGoroutine")=false) (hb:fn.body.isNone=false) (hvs:args.map a.eval=vs) {R:Value->World->Prop}
  (hc:∀d,AB P f vs X Shun (V.at d) R)
  (kk:∀X' Shun' gs' w' sl' t' v,Y9 Shun' X'->(∀b,X' b->X b∨V.heap.size<=b)->G6 P Shun' gs' (G (b.at (a.put dst v) (.inRegion ops rest::k)) cs) t'->M1 X' w'->(∀τ d,R v (E0 X' w' τ d)/\Below V.heap.size (E0 X V τ d) (E0 X' w' τ d))->E7 P Post (crowd gs' w' sl') t'):E7 P Post (crowd gs V sl) t:=by
 subst hdst;refine Zf hh ho hw hk hop hf hname hb hvs λgs1 sl1 t1 d1 hh1=>?_;refine hc d1 Post _ cs gs1 sl1 t1 hh1 λX' Shun' gs' w' sl' t' v hX' hW' hh' hb' hR'=>?_;rw[Frame.finish_at,ho] at hh';exact kk X' Shun' gs' w' sl' t' v hX' hW' hh' hb' hR'
end
end Go.Proofs.YtcgkgmmclfeohaaGreatDoor
namespace Go.Proofs.YtcgkgmmclfeohaaGreatDoor
open Go.Proofs.Tryz
theorem OR:∀(l m:List Nat),l.Nodup->(∀x∈l,x∈m)->l.length<=m.length
 | [],_,_,_=>Nat.zero_le _
 | a::l,m,hd,hs=>by
  have ha:a∈m:=hs a (by simp);have h1:=OR l (m.erase a) (List.nodup_cons.1 hd).2 λx hx=>(List.mem_erase_of_ne (λe=>(List.nodup_cons.1 hd).1 (by rw[← e];exact hx))).2 (hs x (by simp[hx]));have h2:=List.length_erase_of_mem ha;have h3:0<m.length:=List.length_pos_of_mem ha;rw[List.length_cons];omega
def OS(ops:Array Oper):List Nat->List Nat->Prop
 | done,[]=>∀i,i<ops.size->i∈done
 | done,i::l=>i<ops.size/\i∉done/\(∀o,ops[i]?=some o->∀e∈o.after,Region.binds .any e=true->e.on∈done)/\OS ops (i::done) l
def Nu(ops:Array Oper):Bool:=(List.range ops.size).all λi=>((ops[i]?).map λo=>o.after.all λe=>!Region.binds .any e || decide (e.on<i)).getD true
theorem Zg{ops:Array Oper}(h:Nu ops=true){i:Nat}{o:Oper}(ho:ops[i]?=some o){e:Edge}(he:e∈o.after)(hb:Region.binds .any e=true):e.on<i:=by
 have hi:i<ops.size:=(D2.1 ho).1;have h1:=List.all_eq_true.1 h i (List.mem_range.2 hi);rw[ho,Option.map_some,Option.getD_some,Array.all_eq_true_iff_forall_mem] at h1;have h2:=h1 e he;rw[hb] at h2;simpa using h2
theorem PS{ops:Array Oper}{listed:Array Bool}{i:Nat}:i∈Region.ready .any ops listed↔i<ops.size/\listed.getD i true=false/\∀o,ops[i]?=some o->∀e∈o.after,Region.binds .any e=true->listed.getD e.on false=true:=by
 unfold Region.ready;rw[List.mem_filter,List.mem_range,Bool.and_eq_true,Bool.not_eq_true'];constructor
 ·rintro⟨h1,h2,h3⟩;refine⟨h1,h2,λo ho e he hb=>?_⟩;rw[ho,Option.map_some,Option.getD_some,Array.all_eq_true_iff_forall_mem] at h3;have:=h3 e he;rw[hb] at this;simpa using this
 ·rintro⟨h1,h2,h3⟩;refine⟨h1,h2,?_⟩;rw[Array.getElem?_eq_getElem h1,Option.map_some,Option.getD_some,Array.all_eq_true_iff_forall_mem];intro e he;cases hb:Region.binds .any e with
  | false=>rfl
  | true=>simpa using h3 _ (Array.getElem?_eq_getElem h1) e he hb
theorem UV{ops:Array Oper}(hlow:Nu ops=true):∀(fuel t:Nat)(listed:Array Bool)(done:List Nat),listed.size=ops.size->(∀i,i<ops.size->(listed.getD i true=true↔i∈done))->done.Nodup->(∀i∈done,i<ops.size)->done.length+fuel=ops.size->
  OS ops done (Region.linearise.go .any ops fuel t listed [])
 | 0,t,listed,done,hs,hl,hn,hd,hf=>by
  have e:Region.linearise.go .any ops 0 t listed []=[]:=by simp[Region.linearise.go]
  rw[e];intro i hi;refine Decidable.byContradiction λhx=>?_
  have:=OR (i::done) (List.range ops.size) (List.nodup_cons.2 ⟨hx,hn⟩) λx hx=>List.mem_range.2 (by
   rcases List.mem_cons.1 hx with rfl|hx
   ·exact hi
   ·exact hd x hx)
  rw[List.length_cons,List.length_range] at this;omega
 | fuel+1,t,listed,done,hs,hl,hn,hd,hf=>by
  have dflt:∀i,i<ops.size->listed.getD i false=listed.getD i true:=λi hi=>by
   rw[Array.getD_eq_getD_getElem?,Array.getD_eq_getD_getElem?,Array.getElem?_eq_getElem (by omega)];rfl
  have key:∀k,k<=ops.size->(∀j,j<k->j∈done)∨∃j,j∈Region.ready .any ops listed:=λk=>by
   induction k with
   | zero=>exact λ_=>.inl λj hj=>by omega
   | succ k ih =>
    intro hk;rcases ih (by omega) with h|h
    ·by_cases hx:k∈done
     ·exact .inl λj hj=>by
       by_cases e:j=k
       ·exact e ▸ hx
       ·exact h j (by omega)
     ·refine .inr ⟨k,PS.2 ⟨by omega,?_,λo ho e he hbi=>?_⟩⟩
      ·cases hq:listed.getD k true with
       | false=>rfl
       | true=>exact absurd ((hl k (by omega)).1 hq) hx
      ·have h1:=Zg hlow ho he hbi;rw[dflt _ (by omega)];exact (hl _ (by omega)).2 (h _ h1)
    ·exact .inr h
  have some':∃j,j∈Region.ready .any ops listed:=by
   rcases key ops.size (A3 _) with h|h
   ·have:=OR (List.range ops.size) done List.nodup_range λx hx=>h x (List.mem_range.1 hx);rw[List.length_range] at this;omega
   ·exact h
  simp only[Region.linearise.go]
  change OS ops done (match (Region.ready .any ops listed)[t % (Region.ready .any ops listed).length]? with
   | some i=>Region.linearise.go .any ops fuel (t / (Region.ready .any ops listed).length) (listed.setIfInBounds i true) [i]
   | none=>[].reverse)
  cases hr:Region.ready .any ops listed with
  | nil =>
   obtain⟨j,hj⟩:=some';rw[hr] at hj;simp at hj
  | cons x xs =>
   have a0:t % (x::xs).length<(x::xs).length:=Nat.mod_lt _ (by simp);rw[A0 a0];simp only[];rw[linearise_go_acc,List.reverse_singleton,List.singleton_append];have hm:(x::xs)[t % (x::xs).length]∈Region.ready .any ops listed:=by rw[hr];exact List.getElem_mem a0
   generalize (x::xs)[t % (x::xs).length]=i at *;obtain⟨r1,r2,r3⟩:=PS.1 hm
   have a1:i∉done:=λh=>by
    have:=(hl i r1).2 h;rw[r2] at this;cases this
   refine⟨r1,a1,λo ho e he hb=>?_,UV hlow fuel _ _ (i::done) (by simp[hs]) (λj hj=>?_) (List.nodup_cons.2 ⟨a1,hn⟩) (λj hj=>?_) (by rw[List.length_cons];omega)⟩
   ·have h1:=Zg hlow ho he hb;have h2:=r3 o ho e he hb;rw[dflt _ (by omega)] at h2;exact (hl _ (by omega)).1 h2
   ·by_cases e:j=i
    ·subst e;rw[Array.getD_eq_getD_getElem?];simp[hs,r1]
    ·rw[Array.getD_eq_getD_getElem?,Array.getElem?_setIfInBounds_ne (Ne.symm e),← Array.getD_eq_getD_getElem?,hl j hj];simp[e]
   ·rcases List.mem_cons.1 hj with rfl|hj
    ·exact r1
    ·exact hd j hj
theorem Nv{P:Program}(hm:P.follows .mixedOrders=true){ops:Array Oper}(hlow:Nu ops=true)(x:Nat):OS ops [] (Region.schedule (P.follows .mixedOrders) ops x):=by
 simp only[Region.schedule,hm,Bool.true_or,if_true];refine UV hlow _ _ _ [] (by simp) (λi hi=>?_) List.nodup_nil (λi hi=>by simp at hi) (by simp);rw[Array.getD_eq_getD_getElem?];simp[hi]
end Go.Proofs.YtcgkgmmclfeohaaGreatDoor
namespace Go.Proofs.YtcgkgmmclfeohaaGreatDoor
open Go.Proofs.Tryz
open Go.Conc Go.ConcN Go.RowKit Go.Conc.Lib Go.ConcR.Gen Go.ConcN.Gen
open Go.ConcR (KK wgBlock WgAt stA smA rd wr mk Payload DC0)
theorem CV{Shun:Loc->Prop}{a:Addr}{B0:Nat}(hM:a.block<B0)(hs:¬Shun (.cell a)):EvL Shun B0 ⟨.cell a,true,false⟩:=by
 refine⟨λx hx h=>?_,by simp,by simp,hM⟩;simp only[Go.ConcR.ofEvent_cell,MemAct.touch?,Option.some.injEq] at hx;subst hx;exact absurd h hs
theorem PT(T:Array Value)(d l:Nat)(v:Value):(cO T d l).finish v=bO.at ⟨T,Abf d⟩ (.endRangeFunc l::.inBlock 0::[.code KM]):=rfl
theorem LU{P:Program}{main:Bool}{b:Frame}{a:Act}{todo:List Item}{c:Frame}{cs:List Frame}{w:World}{fn:Func}{q q2:Tmp}{T T2:TypeId}{r r2:Addr}{x y:Value}(hn:b.kind=.normal)(hd:a.defers=[])(hf:P.funcs[b.fn]?=some fn)(hres:fn.results=#[.cell q T,.cell q2 T2])
  (ht:a.tmps.getD q undef=.pointer (some r)) (ht2:a.tmps.getD q2 undef=.pointer (some r2)) (hL:(loadVar T r).run P w=.ok x w) (hE:∀es,(loadVar T r).events P w es=es.push ⟨.cell r,false,false⟩) (hL2:(loadVar T2 r2).run P w=.ok y w) (hE2:∀es,(loadVar T2 r2).events P w es=es.push ⟨.cell r2,false,false⟩) :
  ∃es,stepG P main (G {b.at a todo with mode:=.returning} (c::cs)) w=.go (G (c.finish (.tuple #[x,y])) cs) w es/\∀e∈es,e=⟨.cell r,false,false⟩∨e=⟨.cell r2,false,false⟩:=by
 have a1:a.tmps[q]?.getD undef=.pointer (some r):=by simpa using ht
 have a0:a.tmps[q2]?.getD undef=.pointer (some r2):=by simpa using ht2
 have hr:(results fn a.tmps).runT P w #[]=(.ok (.tuple #[x,y]) w,#[⟨.cell r,false,false⟩,⟨.cell r2,false,false⟩]):=by
  have ha:(asAddr (.pointer (some r))).run P w=.ok r w:=by simp[go_sem]
  have a2:(asAddr (.pointer (some r2))).run P w=.ok r2 w:=by simp[go_sem]
  have hb:∀es,(asAddr (.pointer (some r))).events P w es=es:=λes=>by simp[go_sem]
  have a3:∀es,(asAddr (.pointer (some r2))).events P w es=es:=λes=>by simp[go_sem]
  simp only[results,hres];simp[Sem.run_bind,Result.andThen,Result.evThen,a1,a0,ha,a2,hb,a3,hL,hL2,hE,hE2]
 refine⟨seen P b.fn #[⟨.cell r,false,false⟩,⟨.cell r2,false,false⟩],?_,λe he=>?_⟩
 ·simp only[G,stepG,unwind,doReturn,Frame.at,hn,hd,hf,hr,GStep.after];simp
 ·have:=mem_seen he;simpa using this
theorem GA(P:Program)(w:World)(es:Array Event)(a:Addr)(m:Mode)(x:Option Addr)(n c:Nat):(store a (Vz x n c) m).events P w es=storedEv P w es a (Vz x n c) m:=events_store P w es a _ m rfl
theorem Nw(P:Program)(w:World)(es:Array Event)(a:Addr)(m:Mode)(s:Bool):(store a (.bool s) m).events P w es=storedEv P w es a (.bool s) m:=events_store P w es a _ m rfl
theorem SE{s:GStep}{g:Goroutine}{w:World}{K:Goroutine->World->Array Event->Prop}{Q:Array Event->Prop}(h:∃es,s=.go g w es/\Q es)(hk:∀es,Q es->K g w es):s.goes K:=by
 obtain⟨es,rfl,ho⟩:=h;exact hk es ho
theorem Ed(W:World)(l:Nat)(o:Obj):W.grownBy (W.putObj l o) (some l):=⟨rfl,rfl,rfl,by rw[World.putObj_size];exact A3 _,λi _ hi=>World.putObj_heap_other λe=>hi (by rw[e])⟩
noncomputable def V8(V:World)(TO:Array Value)(l dl p2 p3:Nat):World :=
 (((V.putObj l (.loop {Ab TO dl with state:=.exhausted})).setCell ⟨p2,0,none⟩ (.slice none 0 0)).setCell ⟨p3,0,none⟩ (.bool false)).putObj dl (.deferred none)
section
variable {X:Nat->Prop} {Shun:Loc->Prop} {c:Frame} {cs:List Frame}
end
theorem UW(T:Array Value)(h:T.size=11):∃v0 v1 v2 v3 v4 v5 v6 v7 v8 v9 v10:Value,T=#[v0,v1,v2,v3,v4,v5,v6,v7,v8,v9,v10]:=by
 obtain⟨l⟩:=T;simp only[List.size_toArray] at h;match l,h with
 | [v0,v1,v2,v3,v4,v5,v6,v7,v8,v9,v10],_=>exact⟨_,_,_,_,_,_,_,_,_,_,_,rfl⟩
theorem OT{X:Nat->Prop}{W w:World}(hb:M1 X W)(hsz:W.heap.size<=w.heap.size)(hX:∀b,X b->w.heap[b]?=W.heap[b]?)(hp:NV w):M1 X w :=
 ⟨λb h=>A1 (hb.old b h) hsz,λb h=>by rw[hX b h];exact hb.cov b h,hp⟩
theorem Jc{w:World}(h:NV w){l:Nat}{o:Obj}(ho:∀c t,o≠.pending c t):NV (w.putObj l o):=by
 intro b c t hx;by_cases e:b=l
 ·subst e;by_cases hl:b<w.heap.size
  ·rw[World.putObj_heap_same hl] at hx;exact absurd (A5 hx) (ho c t)
  ·rw[Array.getElem?_eq_none (by rw[World.putObj_size];omega)] at hx;cases hx
 ·rw[World.putObj_heap_other e] at hx;exact h b c t hx
theorem SF{w:World}(h:NV w){o:Obj}(ho:∀c t,o≠.pending c t):NV (w.alloc o):=by
 intro b c t hx;rcases Nat.lt_trichotomy b w.heap.size with h1|rfl|h1
 ·rw[Below.heap_alloc w o b h1] at hx;exact h b c t hx
 ·rw[World.alloc_heap_new] at hx;exact absurd (A5 hx) (ho c t)
 ·rw[Array.getElem?_eq_none (by rw[World.size_alloc];omega)] at hx;cases hx
theorem Hu{X:Nat->Prop}{V w:World}{τ τ':Nat->Question->Nat}{d d' B k:Nat}(h:Below B (E0 X V τ d) (E0 X w τ' d'))(hk:k<B)(hx:¬X k):w.heap[k]?=V.heap[k]?:=by
 have h1:(pz X w).heap[k]?=(pz X V).heap[k]?:=h.block k hk;rw[Bd,Bd] at h1;have e:∀o:Option Obj,o.map (Bw X k)=o:=λo=>by cases o<;>simp[Bw,hx]
 rwa [e,e] at h1
theorem OU(V:World)(T:Array Value):(V1 V T).heap.size=V.heap.size+2:=by simp[V1,World.size_alloc]
theorem Zh(V:World)(T:Array Value)(b:Nat)(h:b<V.heap.size):(V1 V T).heap[b]?=V.heap[b]?:=by
 rw[V1,Below.heap_alloc _ _ _ (by rw[World.size_alloc];omega),Below.heap_alloc _ _ _ h]
theorem Adt(V:World)(T:Array Value):(V1 V T).heap[V.heap.size+1]?=some (.loop (Ab T V.heap.size)):=by
 have:=World.alloc_heap_new (V.alloc (.deferred (some []))) (.loop (Ab T V.heap.size));rwa [World.size_alloc] at this
theorem Afr(V:World)(T:Array Value):(V1 V T).heap[V.heap.size]?=some (.deferred (some [])):=by
 rw[V1,Below.heap_alloc _ _ _ (by rw[World.size_alloc];omega)];exact World.alloc_heap_new V _
theorem Adu{X:Nat->Prop}{V:World}(h:M1 X V)(T:Array Value):M1 X (V1 V T) :=
 OT h (by rw[OU];omega) (λb hb=>Zh V T b (h.old b hb)) (SF (SF h.pend (by intro c t e;cases e)) (by intro c t e;cases e))
theorem UX(V:World)(TO:Array Value)(l dl p2 p3:Nat):(V8 V TO l dl p2 p3).heap.size=V.heap.size:=by
 rw[V8,World.putObj_size,(aside_setCell _ _ _).size,(aside_setCell _ _ _).size,World.putObj_size]
theorem SG{V:World}{TO:Array Value}{l dl p2 p3 b:Nat}(h1:b≠l)(h2:b≠dl)(h3:b≠p2)(h4:b≠p3):(V8 V TO l dl p2 p3).heap[b]?=V.heap[b]?:=by
 rw[V8,World.putObj_heap_other h2,(aside_setCell _ _ _).block b h4,(aside_setCell _ _ _).block b h3,World.putObj_heap_other h1]
theorem Adv{X:Nat->Prop}{V:World}(h:M1 X V){TO:Array Value}{l dl p2 p3:Nat}(h1:¬X l)(h2:¬X dl)(h3:¬X p2)(h4:¬X p3):M1 X (V8 V TO l dl p2 p3) :=
 OT h (by rw[UX];exact A3 _) (λb hb=>SG (λe=>h1 (e ▸ hb)) (λe=>h2 (e ▸ hb)) (λe=>h3 (e ▸ hb)) (λe=>h4 (e ▸ hb)))
  (Jc (Hr (Hr (Jc h.pend (by intro c t e;cases e)) _ _) _ _) (by intro c t e;cases e))
theorem AbY(V:World)(TO:Array Value)(l dl p2 p3:Nat):(V8 V TO l dl p2 p3).os=V.os/\(V8 V TO l dl p2 p3).output=V.output:=⟨rfl,rfl⟩
section
variable {X:Nat->Prop} {Shun:Loc->Prop} {c:Frame} {cs:List Frame}
set_option maxRecDepth 100000 in
set_option maxHeartbeats 2000000 in
theorem Afs(hX:Y9 Shun X){T:Array Value}{w:World}{bx:Nat}{s1 s2:Value}(hT:T.size=11)(t1:T[1]?=some (Pz bx 0)){τ:Nat->Question->Nat}{d:Nat}(hc0:(E0 X w τ d).cell? ⟨bx,0,none⟩=some s1)(hc1:(E0 X w τ d).cell? ⟨bx,1,none⟩=some s2):
  Go.Conc.Goes prog true AtRel (DE (EvL Shun w.heap.size)) (λg w'=>(∃T',g=G (Frame.enter prog 40 #[.agg #[s1,s2]] .normal) (bA.at ⟨T',[]⟩ (.inRegion Ns [1,2,3,4,5,6]::[.code YZ])::c::cs)/\T'.size=11)/\AtRel w w') 20 (G (bA.at ⟨T,[]⟩ [.code PR]) (c::cs)) w:=by
 obtain⟨hc0,hx⟩:=AA hc0;obtain⟨hc1,-⟩:=AA hc1;have a1:=World.block_lt_of_cell? w _ hc0;have a2:∀o,¬Shun (.cell ⟨bx,o,none⟩):=λo h=>by obtain⟨a,e,ha⟩:=hX _ h;cases e;exact hx ha
 obtain⟨v0,v1,v2,v3,v4,v5,v6,v7,v8,v9,a4,rfl⟩:=UW T hT;simp only[List.getElem?_toArray,List.getElem?_cons_succ,List.getElem?_cons_zero,Option.some.injEq] at t1;subst t1;simp only[PR,YZ,Ns,Gz,Tryz.f15,Option.getD_some];have rl:∀{V w w₁:World},AtRel V w->AtRel w w₁->AtRel V w₁:=λh r=>atRel_trans _ _ _ h r;have hF:AtRel w w:=atRel_refl w;u_c stepG_seq rl hF
 u_reg rl hF
 u_in rl hF
 refine goes_oper_k rfl rfl (by k_ne) (λK hK=>?_);have a3:(‹World›).cell? ⟨bx,0,none⟩=some s1:=(by obtain⟨d,rfl⟩:=hF;exact hc0);have a0:(‹World›).cell? ⟨bx,1,none⟩=some s2:=(by obtain⟨d,rfl⟩:=hF;exact hc1);go_simp;refine hK _ _ ⟨(λe he=>by have hm:=mem_listed he;simp[go_sem, *] at hm;rcases hm with rfl|rfl<;>exact X7 a1 (a2 _)),?_⟩;clear hK K a3 a0;try walk_nrm
 u_in rl hF
 refine JH #[.agg #[s1,s2]] rfl rfl (by k_ne) rfl func40 (by kernel_rfl) rfl (by simp[Act.eval]) ⟨λe he=>by simp at he,?_⟩;exact Go.Conc.Goes.stop λw₁ r=>⟨⟨_,rfl,rfl⟩,rl hF r⟩
end
theorem Afu(b:Bk)(a:Act):N6 (AtA b (λ_=>True) a):=λ_ _ _ h=>h
theorem Afv(b:Bk)(lo:Nat)(a:Act):N6 (AtO b lo (λ_=>True) a):=λ_ _ _ h=>h
theorem Afw:Gz=Bz [UR] PR:=by simp only[Bz,UR,PR,Gz,Tryz.f15,Option.getD_some]
theorem Afx:BT=Bz [KL,Kd] (.seq (.seq Nt FE) KM):=by simp only[Bz,KL,Kd,Nt,FE,KM,BT,Tryz.f40,Option.getD_some]
theorem Afy:Ec=Bz [UT,UU] LF:=by simp only[Bz,UT,UU,LF,Ec,Tryz.f69,Option.getD_some]
theorem UY:∀r∈[UR,KL,Kd,Nt,UT,UU],O0 prog (λg=>Fm.contains g) r=true:=by
 intro r hr;simp only[List.mem_cons,List.not_mem_nil,or_false] at hr;rcases hr with rfl|rfl|rfl|rfl|rfl|rfl<;>kernel_rfl
theorem frA:Cm prog bA:=⟨rfl,_,func15⟩
theorem frO:Cm prog bO:=⟨rfl,_,func40⟩
theorem frF:Cm prog bF:=⟨rfl,_,func69⟩
theorem KN{w w':World}{b:Nat}{cs:List Value}(h:CB w b cs)(hb:w'.heap[b]?=w.heap[b]?)(hz:w.heap.size<=w'.heap.size):CB w' b cs:=by
 refine⟨λj v hv=>?_,λj hj=>?_,A1 h.2.2 hz⟩
 ·rw[C2 (w:=w) (a:=⟨b,0+j,none⟩) hb];exact h.1 j v hv
 ·rw[C2 (w:=w) (a:=⟨b,0+j,none⟩) hb,World.frozen?_of_block (w:=w) (a:=⟨b,0+j,none⟩) hb];exact h.2.1 j hj
theorem UZ{X:Nat->Prop}{w:World}{τ:Nat->Question->Nat}{d b:Nat}{cs:List Value}(h:CB (E0 X w τ d) b cs)(hx:¬X b):CB w b cs:=by
 refine KN (w:=E0 X w τ d) h ?_ (by (try unfold Up);rw[I5];exact A3 _);show w.heap[b]?=(pz X w).heap[b]?
 rw[Bd];cases w.heap[b]?<;>simp[Bw,hx]
end Go.Proofs.YtcgkgmmclfeohaaGreatDoor
namespace Go.Proofs.YtcgkgmmclfeohaaGreatDoor
open Go.Proofs.Tryz
open Go.RowKit
end Go.Proofs.YtcgkgmmclfeohaaGreatDoor
