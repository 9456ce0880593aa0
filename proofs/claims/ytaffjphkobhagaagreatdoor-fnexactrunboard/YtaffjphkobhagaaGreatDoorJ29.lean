/- A lone run among others who make blocks too, 22: the lone world that a worker begins with. -/
import Derived.Test.YtaffjphkobhagaaGreatDoorJ28
namespace Go.Proofs.YtaffjphkobhagaaGreatDoor
open Proofs.Tryz
variable{G' Q:Act->World->Prop}{es es':Array Event}{xs:Array Operand}{ats:Array TypeId}{args:Array Value}{B r:Code}{f:FuncId}{l:List Nat}{vs:List Value}{id:Nat}{g:Nat->Bool}{x:Operand}{e:TypeId}{v:Value}{R:Value->World->Prop}{V' W u w':World}
namespace Bd
open Go.Conc
section
variable {P:Program} {V:Nat->Prop} {Low:Nat} {w:World}
open Classical in
noncomputable def Bf(V:Nat->Prop)(w:World)(b:Nat):Obj :=
 if V b then (match w.heap[b]? with|some (.cells c e _)=>.cells c e (0,c.size)|_=>.cells #[] 0 (0,0)) else .cells #[] 0 (0,0)
noncomputable def AW(V:Nat->Prop)(Low:Nat)(w:World):World:={w with heap:=(Array.range Low).map (Bf V w)}
theorem Gf{b:Nat}(hb:b<Low):(AW V Low w).heap[b]?=some (Bf V w b):=by
 show ((Array.range Low).map (Bf V w))[b]?=_
 rw[Array.getElem?_map,Array.getElem?_eq_getElem (by simpa using hb)];simp
theorem Ku:(AW V Low w).heap.size=Low:=by simp[AW]
def Y1(V:Nat->Prop)(Low:Nat):Rn:=⟨V,Low,Low,_root_.id⟩
theorem Nm(b:Nat):¬(Y1 V Low).M b:=λ⟨x,⟨h1,h2⟩,_⟩=>by
 have h1:Low<=x:=h1;have h2:x<Low:=h2;omega
structure HU (V:Nat->Prop) (Low:Nat) (w:World):Prop where
 low:∀b,V b->b<Low
 le:Low<=w.heap.size
 at_:∀b,V b->∃c e f,w.heap[b]?=some (.cells c e f)/\F1 (Y1 V Low) c c/\∀(i:Nat)(n:Int),c[i]?≠some (.int .u8 n)
theorem HU.begin(h:HU V Low w):WR P (Y1 V Low) (AW V Low w) w:=by
 have no:∀b,(Y1 V Low).O b->False:=λx ⟨h1,h2⟩=>by
  have h1:Low<=x:=h1;have h2:x<Low:=h2;omega
 refine⟨rfl,rfl,Ku,A3 _,h.le,λb hb=>(no b hb).elim,λb c hb=>(no b hb).elim,λb hb=>?_,λb hb=>(no b hb).elim,λb hb hv=>?_⟩
 .have hb:V b:=hb;obtain⟨c,e,f,h1,h3,h4⟩:=h.at_ b hb;refine⟨h.low b hb,c,e,f,?_,h1,h3,h4⟩;rw[Gf (h.low b hb)];unfold Bf;rw[if_pos hb,h1]
 .have hb:b<Low:=hb;have hv:¬V b:=hv;refine⟨0,?_⟩;rw[Gf hb];unfold Bf;rw[if_neg hv]
theorem VT:NV (AW V Low w):=λb c t hx=>by
 rcases Nat.lt_or_ge b Low with h1|h1
 .rw[Gf h1] at hx;unfold Bf at hx;split at hx
  .grind
  .cases hx
 .rw[Array.getElem?_eq_none_iff.2 (by rw[Ku];exact h1)] at hx;cases hx
theorem HU.cell(h:HU V Low w){a:Addr}(ha:V a.block)(τ:Nat->Question->Nat)(d:Nat):({AW V Low w with tape:=τ,drawn:=d}:World).cell? a=w.cell? a:=by
 obtain⟨c,e,f,h1,_⟩:=h.at_ _ ha
 have h2:({AW V Low w with tape:=τ,drawn:=d}:World).heap[a.block]?=some (.cells c e (0,c.size)):=by
  show (AW V Low w).heap[a.block]?=_
  rw[Gf (h.low _ ha)];unfold Bf;rw[if_pos ha,h1]
 simp only[World.cell?,h1,h2]
end
end Bd
namespace Bd
open Go.Conc Go.ConcN
section
variable {p:F5} {main:Bool} {Stop:(Nat->Prop)->Goroutine->World->Prop} {M:Nat->Prop} {w:World} {fr:Frame} {cs:List Frame} {ops:Array Oper} {i:Nat} {rest:List Nat} {k:List Item} {o:Oper}
def Nn:Option Nat->Op->Bool
 | none,_=>true
 | some _,.defer _=>false
 | some _,_=>true
structure Bg (fr:Frame) (ops:Array Oper) (i:Nat) (rest:List Nat) (k:List Item) (o:Oper):Prop where
 mode:fr.mode=.run
 round:Nn fr.roundOf o.op=true
 kind:(fr.kind==CallKind.early)=false
 todo:fr.todo=.inRegion ops (i::rest)::k
 at_:ops[i]?=some o
 guard:o.guard=none
theorem Bg.step(h:Bg fr ops i rest k o)(P:Program)(w:World):stepG P main (G fr cs) w=stepG.apply P true fr cs none (execOp fr.eval o) w:=by
 have hw:∀y,Region.wanted o y=true:=λy=>by unfold Region.wanted;rw[h.guard]
 have hn:=h.round;simp only[stepG,stepG.exec,G,h.mode,h.todo,h.at_,hw,stepG.oper,Frame.oper?,Option.map_some,Option.getD_some,if_true];revert hn
 cases fr.roundOf with
 | none=>exact λ_=>rfl
 | some l=>cases o.op<;>first|exact λ_=>rfl|exact λh=>nomatch h
theorem Bg.early(h:Bg fr ops i rest k o):(fr.kind==CallKind.early)=false:=h.kind
theorem Dg{P:Program}{Q:Event->Prop}(h:∀e∈es,Q e):∀e∈seen P f es ++ #[],Q e:=λe he=>by
 rw[Array.append_empty] at he;exact h e (mem_seen he)
theorem Ends.value(h:Bg fr ops i rest k o)(hx:∀w₁,R0 p M w w₁->∃es,(execOp fr.eval o).runT p.P w₁ #[]=(.ok (.value v) w₁,es)/\∀e∈es,FP p M e)(kk:Ends p main Stop M (G (fr.finish v) cs) w):Ends p main Stop M (G fr cs) w :=
 Ends.own rfl λw₁ qb=>by
  obtain⟨es,e1,e2⟩:=hx w₁ qb;refine⟨_,w₁,seen p.P fr.fn es ++ #[],?_,⟨.refl _,Dg e2⟩,kk.rely qb⟩;rw[h.step];unfold stepG.apply;simp only[e1,h.early,if_true,Bool.false_eq_true,if_false,GStep.after];rfl
theorem Ends.enter(h:Bg fr ops i rest k o)(hx:∀w₁,(execOp fr.eval o).runT p.P w₁ #[]=(.ok (.enter f args) w₁,#[]))(kk:Ends p main Stop M (G (Frame.enter p.P f args .normal) (fr::cs)) w):Ends p main Stop M (G fr cs) w :=
 Ends.own rfl λw₁ qb=>by
  refine⟨_,w₁,seen p.P fr.fn #[] ++ #[],?_,⟨.refl _,Dg dC⟩,kk.rely qb⟩;rw[h.step];unfold stepG.apply;simp only[hx w₁,h.early,h.todo,if_true,Bool.false_eq_true,if_false,GStep.after];rfl
theorem Ends.defer(h:Bg fr ops i rest k o){d:Deferred}(hx:∀w₁,(execOp fr.eval o).runT p.P w₁ #[]=(.ok (.defer d) w₁,#[]))(kk:Ends p main Stop M (G ({fr with defers:=d::fr.defers}.finish undef) cs) w):Ends p main Stop M (G fr cs) w :=
 Ends.own rfl λw₁ qb=>by
  refine⟨_,w₁,seen p.P fr.fn #[] ++ #[],?_,⟨.refl _,Dg dC⟩,kk.rely qb⟩;rw[h.step];unfold stepG.apply;simp only[hx w₁,h.early,h.todo,if_true,Bool.false_eq_true,if_false,GStep.after];rfl
theorem Ends.draw(hm:fr.mode=.run)(ht:fr.todo=.code (.region id ops true)::k)(kk:∀x,Ends p main Stop M (G {fr with todo:=.inRegion ops (Region.schedule (p.P.follows .mixedOrders) ops x)::k} cs) w):Ends p main Stop M (G fr cs) w :=
 Ends.step rfl λw₁ qb=>by
  have e:stepG p.P main (G fr cs) w₁=.go (G {fr with todo:=.inRegion ops (Region.schedule (p.P.follows .mixedOrders) ops (w₁.tape w₁.drawn (.order fr.fn id)))::k} cs) (w₁.at (w₁.drawn+1)) #[]:=by
   simp[stepG,stepG.exec,G,hm,ht,choose,Sem.run,Question.forced,Question.cut,World.at]
  have hp:BQ M w₁ (w₁.at (w₁.drawn+1))=M:=Pa rfl;refine⟨_,_,#[],e,.at _ _,dC,?_⟩;rw[hp];exact ((kk _).rely qb).rely (.at _ _)
end
section
variable {P:Program} {t:TypeId} {a:Addr} {w:World}
theorem IE{d:TypeDesc}(h:P.underlying t=some d)(w:World)(es:Array Event):(underlying t).runT P w es=(.ok d w,es):=by
 show Sem.runT P (match P.underlying t with|some d=>_|none=>_) w es=_
 rw[h];rfl
theorem Gg{i:TypeInfo}(h:P.info? t=some i)(w:World)(es:Array Event):(sizeOf t).runT P w es=(.ok i.size w,es):=by
 show Sem.runT P (Sem.bind (match P.info? t with|some i=>_|none=>_) _) w es=_
 rw[h];rfl
def Bh:TypeDesc->Bool
 | .struct _ | .array _ _=>true
 | _=>false
theorem VU{d:TypeDesc}(h:P.underlying t=some d)(w:World)(es:Array Event):(isAgg t).runT P w es=(.ok (Bh d) w,es):=by
 show ((underlying t).bind _).runT P w es=_
 rw[Sem.runT_bind',IE h];cases d<;>rfl
theorem SP(h:w.cell? a=some v)(es:Array Event):(load a).runT P w es=(.ok v w,es.push ⟨.cell a,false,false⟩):=by
 simp only[load,Sem.runT,h];rfl
theorem SQ{d:TypeDesc}(h:P.underlying t=some d)(hd:Bh d=false)(hc:w.cell? a=some v)(es:Array Event):(Instr.loadAt t (.pointer (some a))).runT P w es=(.ok v w,es.push ⟨.cell a,false,false⟩):=by
 show ((isAgg t).bind _).runT P w es=_
 rw[Sem.runT_bind',VU h,hd];exact SP hc es
theorem VV:∀(cs:List Value)(i:Nat)(acc:Array Value)(es:Array Event),(∀j v,cs[j]?=some v->w.cell? (a.add (i+j))=some v)->∃es',(loadCellsFrom a i cs.length acc).runT P w es=(.ok (acc++cs.toArray) w,es')/\∀e∈es',e∈es\/∃j,e=⟨.cell (a.add j),false,false⟩
 | [],i,acc,es,_=>⟨es,by simp only[List.length_nil,loadCellsFrom,Array.append_empty];rfl,λe he=>.inl he⟩
 | v::cs,i,acc,es,h=>by
  have h0:w.cell? (a.add i)=some v:=h 0 v rfl
  obtain⟨es',e1,e2⟩:=VV cs (i+1) (acc.push v) (es.push ⟨.cell (a.add i),false,false⟩) λj x hx=>by
   have:=h (j+1) x hx;rw[show i+1+j=i+(j+1) by omega];exact this
  refine⟨es',?_,λe he=>?_⟩
  .show ((load (a.add i)).bind _).runT P w es=_
   rw[Sem.runT_bind',SP h0];show (loadCellsFrom a (i+1) cs.length (acc.push v)).runT P w _=_
   rw[e1];simp
  .grind
theorem Aaa{d:TypeDesc}(h:P.underlying t=some d)(hd:Bh d=true){i:TypeInfo}(hi:P.info? t=some i){cs:List Value}(hs:i.size=cs.length)(hc:∀j v,cs[j]?=some v->w.cell? (a.add j)=some v)(es:Array Event):
  ∃es',(Instr.loadAt t (.pointer (some a))).runT P w es=(.ok (.agg cs.toArray) w,es')/\∀e∈es',e∈es\/∃j,e=⟨.cell (a.add j),false,false⟩:=by
 obtain⟨es',e1,e2⟩:=VV (P:=P) (w:=w) (a:=a) cs 0 #[] es λj v hv=>by rw[Nat.zero_add];exact hc j v hv
 refine⟨es',?_,e2⟩;show ((isAgg t).bind _).runT P w es=_
 rw[Sem.runT_bind',VU h,hd];show ((sizeOf t).bind _).runT P w es=_
 rw[Sem.runT_bind',Gg hi,hs];show ((loadCellsFrom a 0 cs.length #[]).bind _).runT P w es=_
 rw[Sem.runT_bind',e1];simp
theorem BF(a:Addr)(j:Nat):(a.add j).block=a.block:=by
 unfold Addr.add;split<;>rfl
theorem Kv{B:Nat}{cs:List Value}{f:Nat×Nat}(h:w.heap[B]?=some (.cells cs.toArray e f))(j:Nat)(v:Value)(hv:cs[j]?=some v):w.cell? ((⟨B,0,none⟩:Addr).add j)=some v:=by
 have e:(⟨B,0,none⟩:Addr).add j=⟨B,j,none⟩:=by
  unfold Addr.add;split
  .simp_all
  .simp
 rw[e];simp only[World.cell?,h];simpa using hv
end
section
variable {p:F5} {M:Nat->Prop} {a:Addr}
theorem JB(h:(a.block<p.Low/\¬p.Sh (.cell a))\/(M a.block/\¬p.Sh (.cell a))):FP p M ⟨.cell a,false,false⟩:=by
 refine⟨λx hx=>.inr ?_,dC,dC,dC⟩;simp only[MemAct.ofEvent,MemAct.touch?,Option.some.injEq] at hx;subst hx;rcases h with⟨h1,h2⟩|⟨h1,h2⟩
 .exact⟨rfl,a.block,rfl,h2,.inl ⟨h1,rfl⟩⟩
 .exact⟨rfl,a.block,rfl,h2,.inr h1⟩
end
end Bd
namespace Bd
open Go.Conc Go.Extern
def fsB:List Nat:=[55,56,23,108,152,88,137,50,91,58,59,60,114,115,154,155,84,146,192,193,194,195,176,200,214,180,219,220,221,222,229,230]
abbrev sB:FZs:=Ci fsB true
def gB:Nat->Bool:=λn=>n==2
noncomputable def SM:TypeId->Bool:=λt=>Om prog prog.depth t
theorem Xx:SA prog 154/\KU prog 154:=⟨ZP func154 sI sI sI sI (λr c c' h=>Ael r c c' h),Zb (e:=AbiNoEscape.same) func154 sI sI sI sI (λX c=>s_same X c)⟩
theorem AbU:SA prog 155/\KU prog 155:=⟨ZP (e:=λa=>BytealgMakeNoZero.makeNoZero Tryz.f155.params Tryz.f155.resultTypes a) func155 sI sI sI sI (λr c c' h=>ZR _ _ r c c' h),Zb (e:=λa=>BytealgMakeNoZero.makeNoZero Tryz.f155.params Tryz.f155.resultTypes a) func155 sI sI sI sI (λX c=>s_noZero _ _ X c)⟩
theorem SN:De prog sB gB SM:=Aem (x:=[154,155]) (λf hf=>by
 simp only[List.mem_cons,List.not_mem_nil,or_false] at hf;rcases hf with rfl|rfl
 .exact Xx
 .exact AbU) sI sI
end Bd
namespace Bd
open Go.Conc Go.ConcN
section
variable {p:F5} {main:Bool} {Stop:(Nat->Prop)->Goroutine->World->Prop} {M:Nat->Prop} {w:World} {fr:Frame} {cs:List Frame} {ops:Array Oper} {i:Nat} {rest:List Nat} {k:List Item} {o:Oper}
theorem Pq{t:TypeId}(hop:o.op=.load t x)(f:Operand->Value):execOp f o=(do pure (.value (← Instr.loadAt t (f x))):Sem Next):=by unfold execOp;rw[hop]
theorem I9{P:Program}{q:Sem Value}{w:World}(h:q.runT P w es=(.ok v w',es')):(do pure (.value (← q)):Sem Next).runT P w es=(.ok (.value v) w',es'):=by
 simp_all
theorem Ends.load1(h:Bg fr ops i rest k o){t:TypeId}{a:Addr}{d:TypeDesc}(hop:o.op=.load t x)(hx:fr.eval x=.pointer (some a))(hu:p.P.underlying t=some d)(hd:Bh d=false)(hc:∀w₁,R0 p M w w₁->w₁.cell? a=some v)(hev:FP p M ⟨.cell a,false,false⟩)(kk:Ends p main Stop M (G (fr.finish v) cs) w):Ends p main Stop M (G fr cs) w :=
 Ends.value h (λw₁ qb=>⟨_,by rw[Pq hop,hx];exact I9 (SQ hu hd (hc w₁ qb) #[]),λe he=>by simp at he;rw[he];exact hev⟩) kk
theorem Ends.loadN(h:Bg fr ops i rest k o){t:TypeId}{a:Addr}{d:TypeDesc}{inf:TypeInfo}(hop:o.op=.load t x)(hx:fr.eval x=.pointer (some a))(hu:p.P.underlying t=some d)(hd:Bh d=true)(hi:p.P.info? t=some inf)(hs:inf.size=vs.length)(hc:∀w₁,R0 p M w w₁->∀j v,vs[j]?=some v->w₁.cell? (a.add j)=some v)(hev:∀j,FP p M ⟨.cell (a.add j),false,false⟩)(kk:Ends p main Stop M (G (fr.finish (.agg vs.toArray)) cs) w):Ends p main Stop M (G fr cs) w :=
 Ends.value h (λw₁ qb=>by
  obtain⟨es',e1,e2⟩:=Aaa hu hd hi hs (hc w₁ qb) #[];refine⟨es',by rw[Pq hop,hx];exact I9 e1,λe he=>?_⟩;rcases e2 e he with h1|⟨j,rfl⟩
  .simp at h1
  .exact hev j) kk
end
noncomputable def I4:Array Oper:=match Tryz.f53.body with|some (.seq _ (.region _ ops _))=>ops|_=>#[]
noncomputable def J1(i:Nat):Oper:=(I4[i]?).getD {dst:=none,op:=.move (.const undef),type:=0,pos:= "",after:=#[],guard:=none}
theorem Aha:I4[0]?=some (J1 0)/\(J1 0).op=.load 87 (.tmp 1)/\(J1 0).dst=some 5/\(J1 0).guard=none/\(J1 0).after.toList.map (·.on)=[]/\(J1 0).after.all (λe=>Region.binds .any e)=true:=⟨sI,sI,sI,sI,sI,sI⟩
theorem Ahb:I4[1]?=some (J1 1)/\(J1 1).op=.load 3 (.tmp 2)/\(J1 1).dst=some 6/\(J1 1).guard=none/\(J1 1).after.toList.map (·.on)=[]/\(J1 1).after.all (λe=>Region.binds .any e)=true:=⟨sI,sI,sI,sI,sI,sI⟩
theorem Ahc:I4[2]?=some (J1 2)/\(J1 2).op=.load 52 (.tmp 3)/\(J1 2).dst=some 7/\(J1 2).guard=none/\(J1 2).after.toList.map (·.on)=[]/\(J1 2).after.all (λe=>Region.binds .any e)=true:=⟨sI,sI,sI,sI,sI,sI⟩
theorem Ahd:I4[3]?=some (J1 3)/\(J1 3).op=.load 38 (.tmp 4)/\(J1 3).dst=some 8/\(J1 3).guard=none/\(J1 3).after.toList.map (·.on)=[]/\(J1 3).after.all (λe=>Region.binds .any e)=true:=⟨sI,sI,sI,sI,sI,sI⟩
theorem Ahe:I4[4]?=some (J1 4)/\(J1 4).op=.load 52 (.tmp 3)/\(J1 4).dst=some 9/\(J1 4).guard=none/\(J1 4).after.toList.map (·.on)=[]/\(J1 4).after.all (λe=>Region.binds .any e)=true:=⟨sI,sI,sI,sI,sI,sI⟩
theorem Adg:I4[5]?=some (J1 5)/\(J1 5).op=.call {callee:=.value (.func 56),args:=#[.tmp 8,.tmp 9],argTypes:=#[38,52]}/\(J1 5).dst=some 10/\(J1 5).guard=none/\(J1 5).after.toList.map (·.on)=[3,4]/\(J1 5).after.all (λe=>Region.binds .any e)=true:=⟨sI,sI,sI,sI,sI,sI⟩
theorem Ahf:I4[6]?=some (J1 6)/\(J1 6).op=.field 80 (.tmp 10) 1/\(J1 6).dst=some 11/\(J1 6).guard=none/\(J1 6).after.toList.map (·.on)=[5]/\(J1 6).after.all (λe=>Region.binds .any e)=true:=⟨sI,sI,sI,sI,sI,sI⟩
theorem Adh:I4[7]?=some (J1 7)/\(J1 7).op=.call {callee:=.value (.func 55),args:=#[.tmp 7,.tmp 11],argTypes:=#[52,22]}/\(J1 7).dst=some 12/\(J1 7).guard=none/\(J1 7).after.toList.map (·.on)=[2,6,5]/\(J1 7).after.all (λe=>Region.binds .any e)=true:=⟨sI,sI,sI,sI,sI,sI⟩
theorem Adi:I4[8]?=some (J1 8)/\(J1 8).op=.build 102 #[(0,.tmp 6),(1,.tmp 12)]/\(J1 8).dst=some 13/\(J1 8).guard=none/\(J1 8).after.toList.map (·.on)=[1,7]/\(J1 8).after.all (λe=>Region.binds .any e)=true:=⟨sI,sI,sI,sI,sI,sI⟩
theorem Adj:I4[9]?=some (J1 9)/\(J1 9).op=.send (.tmp 5) (.tmp 13)/\(J1 9).dst=none/\(J1 9).guard=none/\(J1 9).after.toList.map (·.on)=[0,8,7]/\(J1 9).after.all (λe=>Region.binds .any e)=true:=⟨sI,sI,sI,sI,sI,sI⟩
theorem Me:I4.size=10:=sI
theorem Aeu:MQ I4=true:=sI
theorem IF{ops:Array Oper}{done:List Nat}{i:Nat}{o:Oper}{q:List Nat}(hf:AL ops done (i::l))(ho:ops[i]?=some o)(ha:o.after.toList.map (·.on)=q)(hb:o.after.all (λe=>Region.binds .any e)=true):∀x∈q,x∈done:=λx hx=>by
 rw[← ha] at hx;obtain⟨e,he,rfl⟩:=List.mem_map.1 hx;have he:e∈o.after:=by simpa using he
 exact hf.2.2.1 o ho e he (Array.all_eq_true'.1 hb e he)
structure BM where
 B1:Nat
 C:Nat
 Bb:Nat
 H:Nat
 n:Int
 bc:List Value
 hc:List Value
 line:BA
 V:Nat->Prop
 U:Array Obj
def Aab(q:BM)(b:Value)(h:Array Obj):Prop:=∀x:World,x.heap=h->Calls prog 55 #[.agg q.bc.toArray,b] x λe _=>∃v,e=.returned v/\v=.string q.line
def Xy(q:BM)(v:Value)(u':World):Prop:=∃a b c,v=.agg #[a,b,c]/\Aab q b u'.heap
structure W8 (p:F5) (q:BM):Prop where
 P:p.P=prog
 ok:p.Ok
 b1:q.B1<p.Low/\q.B1≠p.Wg/\q.B1≠p.Ch/\∀a:Addr,a.block=q.B1->¬p.Sh (.cell a)
 h:q.H<p.Low/\q.H≠p.Wg/\q.H≠p.Ch/\∀a:Addr,a.block=q.H->¬p.Sh (.cell a)
 c:p.Low<=q.C
 bb:p.Low<=q.Bb
 bl:q.bc.length=6
 hl:q.hc.length=6
 bv:VR (Y1 q.V p.Low) (.agg q.bc.toArray) (.agg q.bc.toArray)
 hv:VR (Y1 q.V p.Low) (.agg q.hc.toArray) (.agg q.hc.toArray)
 c1:∀x:World,x.heap=q.U->Calls prog 56 #[.agg q.hc.toArray,.agg q.bc.toArray] x λe u'=>∃v,e=.returned v/\Xy q v u'
structure Mem (p:F5) (q:BM) (w:World):Prop where
 b1:∃t f,w.heap[q.B1]?=some (.cells [Value.chan (some p.Ch)].toArray t f)
 h:∃t f,w.heap[q.H]?=some (.cells q.hc.toArray t f)
 c:w.heap[q.C]?=some (.cells #[.int .i64 q.n] 3)
 bb:∃t f,w.heap[q.Bb]?=some (.cells q.bc.toArray t f)
 live:WgLive p.ty p.Wg w
def vals(p:F5)(q:BM):Nat->Option Value
 | 0=>some (.chan (some p.Ch))
 | 1=>some (.int .i64 q.n)
 | 2=>some (.agg q.bc.toArray)
 | 3=>some (.agg q.hc.toArray)
 | 4=>some (.agg q.bc.toArray)
 | 7=>some (.string q.line)
 | 8=>some (.agg #[.int .i64 q.n,.string q.line])
 | _=>none
def Kw(p:F5)(q:BM):List Value:=[.pointer (some ⟨p.Wg,0,none⟩),.pointer (some ⟨q.B1,0,none⟩),.pointer (some ⟨q.C,0,none⟩),.pointer (some ⟨q.Bb,0,none⟩),.pointer (some ⟨q.H,0,none⟩)]
def Gh(p:F5)(q:BM)(done:List Nat)(M:Nat->Prop)(T:Array Value)(w:World):Prop :=
 ∃r u,Gb prog gB SM r/\WR prog r u w/\NV u/\Ap p r/\(Y1 q.V p.Low).le r/\(∀b,r.M b->M b)/\¬r.M q.C/\¬r.M q.Bb/\(5∉done->u.heap=q.U)/\
  (5∈done->7∉done->∃v',T[10]?=some v'/\∃a b c,VR r (.agg #[a,b,c]) v'/\Aab q b u.heap/\(6∈done->∃b',T[11]?=some b'/\VR r b b'))
structure J (p:F5) (q:BM) (done:List Nat) (M:Nat->Prop) (T:Array Value) (w:World):Prop where
 size:T.size=14
 base:∀(x:Nat)(v:Value),(Kw p q)[x]?=some v->T[x]?=some v
 vals:∀i∈done,∀v,Bd.vals p q i=some v->T[5+i]?=some v
 cl:∀x,x=6\/x=7->x∈done->5∈done
 cl7:7∈done->6∈done
 mC:M q.C
 mB:M q.Bb
 mem:Mem p q w
 lone:Gh p q done M T w
section
variable {p:F5} {q:BM} {done:List Nat} {M M':Nat->Prop} {T:Array Value} {w w₁:World}
theorem Mem.rely(hq:W8 p q)(h:Mem p q w)(mC:M q.C)(mB:M q.Bb)(hR:R0 p M w w₁):Mem p q w₁:=by
 obtain⟨h1,h2,h3,h4,h5⟩:=h;refine⟨?_,?_,(hR.rk.own _ mC).trans h3,?_,hR.rk.live h5⟩
 .rw[hR.rk.low _ hq.b1.1 hq.b1.2.1 hq.b1.2.2.1];exact h1
 .rw[hR.rk.low _ hq.h.1 hq.h.2.1 hq.h.2.2.1];exact h2
 .rw[hR.rk.own _ mB];exact h4
theorem Mem.since(hq:W8 p q){r:Rn}(h:Mem p q w)(mC:M q.C)(mB:M q.Bb)(nC:¬r.M q.C)(nB:¬r.M q.Bb)(hS:AD p M r w w₁):Mem p q w₁:=by
 obtain⟨h1,h2,h3,h4,h5⟩:=h;have l3:q.C<w.heap.size:=(D1.1 h3).1;have l4:q.Bb<w.heap.size:=by obtain⟨t,f,h4⟩:=h4;exact (D1.1 h4).1
 refine⟨?_,?_,(hS.own _ mC nC l3).trans h3,?_,hS.live h5⟩
 .rw[hS.low _ hq.b1.1 hq.b1.2.1 hq.b1.2.2.1];exact h1
 .rw[hS.low _ hq.h.1 hq.h.2.1 hq.h.2.2.1];exact h2
 .rw[hS.own _ mB nB l4];exact h4
theorem Gh.rely(h:Gh p q done M T w)(hR:R0 p M w w₁):Gh p q done M T w₁:=by
 obtain⟨r,u,h1,h2,h3,h4,h5,h6,h7,h8,h9,a0⟩:=h;exact⟨r,u.at w₁.drawn,h1,h2.rely h4 h6 hR,h3,h4,h5,h6,h7,h8,h9,a0⟩
theorem J.rely(hq:W8 p q)(h:J p q done M T w)(hR:R0 p M w w₁):J p q done M T w₁:=⟨h.size,h.base,h.vals,h.cl,h.cl7,h.mC,h.mB,h.mem.rely hq h.mC h.mB hR,h.lone.rely hR⟩
theorem Gh.put(h:Gh p q done M T w){i:Nat}(h5:i≠5)(h6:i≠6)(h7:i≠7):Gh p q (i::done) M (T.setIfInBounds (5+i) v) w:=by
 obtain⟨r,u,h1,h2,h3,h4,a0,a4,a5,h8,h9,a6⟩:=h;refine⟨r,u,h1,h2,h3,h4,a0,a4,a5,h8,λhx=>h9 λhy=>hx (by simp[hy]),λa1 a2=>?_⟩;have b1:5∈done:=by rcases List.mem_cons.1 a1 with e|e;exact absurd e.symm h5;exact e
 obtain⟨v',c1,a,b,c,c2,c3,c4⟩:=a6 b1 λhy=>a2 (by simp[hy]);refine⟨v',by rw[Array.getElem?_setIfInBounds_ne oM];exact c1,a,b,c,c2,c3,λa3=>?_⟩;have b3:6∈done:=by rcases List.mem_cons.1 a3 with e|e;exact absurd e.symm h6;exact e
 obtain⟨b',d1,d2⟩:=c4 b3;exact⟨b',by rw[Array.getElem?_setIfInBounds_ne oM];exact d1,d2⟩
theorem J.put(h:J p q done M T w){i:Nat}(hM:∀b,M b->M' b)(hi:i∉done)(h9:i<9)(hcl:i=6\/i=7->5∈done)(hcl7:i=7->6∈done)(hv:∀v',Bd.vals p q i=some v'->v'=v)(hm:Mem p q w₁)(hl:Gh p q (i::done) M' (T.setIfInBounds (5+i) v) w₁):J p q (i::done) M' (T.setIfInBounds (5+i) v) w₁:=by
 refine⟨by simp[h.size],λx y hx=>?_,λk hk y hy=>?_,λx hx hd=>?_,λhd=>?_,hM _ h.mC,hM _ h.mB,hm,hl⟩
 .have a0:x<5:=by
   have:=(A2.1 hx).1;simpa [Kw] using this
  rw[Array.getElem?_setIfInBounds_ne oM];exact h.base x y hx
 .rcases List.mem_cons.1 hk with rfl|hk
  .rw[hv y hy,Array.getElem?_setIfInBounds_self_of_lt (by rw[h.size];omega)]
  .have a1:k≠i:=λe=>hi (e ▸ hk);rw[Array.getElem?_setIfInBounds_ne oM];exact h.vals k hk y hy
 .rcases List.mem_cons.1 hd with rfl|hd
  .simp_all
  .exact C7 _ (h.cl x hx hd)
 .rcases List.mem_cons.1 hd with e|hd
  .simp_all
  .exact C7 _ (h.cl7 hd)
theorem J.putV(_hq:W8 p q)(h:J p q done M T w){i:Nat}(hi:i∉done)(h9:i<9)(h5:i≠5)(h6:i≠6)(h7:i≠7)(hv:∀v',Bd.vals p q i=some v'->v'=v):J p q (i::done) M (T.setIfInBounds (5+i) v) w :=
 h.put (λ_ h=>h) hi h9 (λh=>h.elim (λe=>absurd e h6) λe=>absurd e h7) (λe=>absurd e h7) hv h.mem (h.lone.put h5 h6 h7)
end
def wf(d:Deferred)(T:Array Value)(k:List Item):Frame:={fn:=53,tmps:=T,todo:=k,defers:=[d],mode:=.run,kind:=.deferred}
theorem DS{d:Deferred}{T:Array Value}{ops:Array Oper}{i s:Nat}{k:List Item}{o:Oper}(ho:ops[i]?=some o)(hs:o.dst=some s)(v:Value):(wf d T (.inRegion ops (i::l)::k)).finish v=wf d (T.setIfInBounds s v) (.inRegion ops l::k):=by
 unfold Frame.finish wf;simp only[ho,hs,Option.bind_some]
theorem BV{d:Deferred}{T:Array Value}{k:List Item}{x:Nat}(h:T[x]?=some v):(wf d T k).eval (.tmp x)=v:=by
 show T.getD x undef=v
 simp[Array.getD,(D1.1 h).1,(D1.1 h).2]
theorem Aib:(prog.underlying 87).map Bh=some false:=sI
theorem Ahg:(prog.underlying 3).map Bh=some false:=sI
theorem AbW:(prog.underlying 52).map Bh=some true:=sI
theorem Aic:(prog.underlying 38).map Bh=some true:=sI
theorem Xz:(prog.info? 52).map (·.size)=some 6:=sI
theorem Aid:(prog.info? 38).map (·.size)=some 6:=sI
theorem Aac(a b c:Value)(w:World)(es:Array Event):(Instr.field 80 (.agg #[a,b,c]) 1).runT prog w es=(.ok b w,es):=sI
section
variable {p:F5} {q:BM} {done:List Nat} {M M':Nat->Prop} {T:Array Value} {w w₁:World} {d:Deferred} {k:List Item} {cs:List Frame}
theorem Aad{f:Nat}(hf:sB f=true)(hb:((prog.funcs[f]?).bind (·.body)).isSome=true):DP prog sB gB SM f:=by
 rcases SN.out f hf with h|⟨_,fn,h1,h2⟩
 .exact h
 .simp_all
theorem AbX{P:Program}{s:FZs}{nf:TypeId->Bool}{f:Nat}(h:DP P s g nf f)(args:Array Value)(w:World)(es:Array Event):(callFunc f args).runT P w es=(.ok (.enter f args) w,es):=by
 obtain⟨fn,a0,h1,h2,_,h4⟩:=h;unfold callFunc;show Sem.runT P (match P.funcs[f]? with|none=>_|some fn=>_) w es=_
 rw[h1];have hb:fn.body.isNone=false:=by rw[h2];rfl
 simp only[h4,hb];rfl
abbrev Es (p:F5) (q:BM) (d:Deferred) (k:List Item) (cs:List Frame) (done:List Nat) (i:Nat) (l:List Nat) (M':Nat->Prop) (g:Goroutine) (w':World):Prop:=∃T',g=G (wf d T' (.inRegion I4 l::k)) cs/\J p q (i::done) M' T' w'
theorem SS(hq:W8 p q){a:Addr}(hM:M a.block)(hl:p.Low<=a.block):FP p M ⟨.cell a,false,false⟩:=JB (.inr ⟨hM,λh=>by have:=hq.ok.low h;omega⟩)
theorem w0(hq:W8 p q)(hf:AL I4 done (0::l))(hJ:J p q done M T w):Ends p false (Es p q d k cs done 0 l) M (G (wf d T (.inRegion I4 (0::l)::k)) cs) w:=by
 obtain⟨h1,h2,h3,h4,_,_⟩:=Aha;obtain⟨ds,hu,hd⟩:=B6.1 Aib;refine Ends.load1 (v:=.chan (some p.Ch)) ⟨rfl,rfl,rfl,rfl,h1,h4⟩ h2 (BV (hJ.base 1 _ rfl)) (by rw[hq.P];exact hu) hd (λw₁ hR=>?_) (JB (.inl ⟨hq.b1.1,hq.b1.2.2.2 _ rfl⟩)) ?_
 .obtain⟨t,f,hb⟩:=(hJ.rely hq hR).mem.b1;simp[World.cell?,hb]
 .rw[DS h1 h3];exact Ends.stop λw₁ hR=>⟨_,rfl,(hJ.putV hq (i:=0) hf.2.1 oM oM oM oM λv' e=>by cases e;rfl).rely hq hR⟩
theorem w1(hq:W8 p q)(hf:AL I4 done (1::l))(hJ:J p q done M T w):Ends p false (Es p q d k cs done 1 l) M (G (wf d T (.inRegion I4 (1::l)::k)) cs) w:=by
 obtain⟨h1,h2,h3,h4,_,_⟩:=Ahb;obtain⟨ds,hu,hd⟩:=B6.1 Ahg;refine Ends.load1 (v:=.int .i64 q.n) ⟨rfl,rfl,rfl,rfl,h1,h4⟩ h2 (BV (hJ.base 2 _ rfl)) (by rw[hq.P];exact hu) hd (λw₁ hR=>?_) (SS hq hJ.mC hq.c) ?_
 .have hb:=(hJ.rely hq hR).mem.c;simp[World.cell?,hb]
 .rw[DS h1 h3];exact Ends.stop λw₁ hR=>⟨_,rfl,(hJ.putV hq (i:=1) hf.2.1 oM oM oM oM λv' e=>by cases e;rfl).rely hq hR⟩
theorem w2(hq:W8 p q)(hf:AL I4 done (2::l))(hJ:J p q done M T w):Ends p false (Es p q d k cs done 2 l) M (G (wf d T (.inRegion I4 (2::l)::k)) cs) w:=by
 obtain⟨h1,h2,h3,h4,_,_⟩:=Ahc;obtain⟨ds,hu,hd⟩:=B6.1 AbW;obtain⟨a0,hi,hz⟩:=B6.1 Xz;refine Ends.loadN (vs:=q.bc) (inf:=a0) ⟨rfl,rfl,rfl,rfl,h1,h4⟩ h2 (BV (hJ.base 3 _ rfl)) (by rw[hq.P];exact hu) hd (by rw[hq.P];exact hi) (by rw[hz,hq.bl]) (λw₁ hR=>?_) (λj=>SS hq (by rw[BF];exact hJ.mB) (by rw[BF];exact hq.bb)) ?_
 .obtain⟨t,f,hb⟩:=(hJ.rely hq hR).mem.bb;exact Kv hb
 .rw[DS h1 h3];exact Ends.stop λw₁ hR=>⟨_,rfl,(hJ.putV hq (i:=2) hf.2.1 oM oM oM oM λv' e=>by cases e;rfl).rely hq hR⟩
theorem w4(hq:W8 p q)(hf:AL I4 done (4::l))(hJ:J p q done M T w):Ends p false (Es p q d k cs done 4 l) M (G (wf d T (.inRegion I4 (4::l)::k)) cs) w:=by
 obtain⟨h1,h2,h3,h4,_,_⟩:=Ahe;obtain⟨ds,hu,hd⟩:=B6.1 AbW;obtain⟨a0,hi,hz⟩:=B6.1 Xz;refine Ends.loadN (vs:=q.bc) (inf:=a0) ⟨rfl,rfl,rfl,rfl,h1,h4⟩ h2 (BV (hJ.base 3 _ rfl)) (by rw[hq.P];exact hu) hd (by rw[hq.P];exact hi) (by rw[hz,hq.bl]) (λw₁ hR=>?_) (λj=>SS hq (by rw[BF];exact hJ.mB) (by rw[BF];exact hq.bb)) ?_
 .obtain⟨t,f,hb⟩:=(hJ.rely hq hR).mem.bb;exact Kv hb
 .rw[DS h1 h3];exact Ends.stop λw₁ hR=>⟨_,rfl,(hJ.putV hq (i:=4) hf.2.1 oM oM oM oM λv' e=>by cases e;rfl).rely hq hR⟩
theorem w3(hq:W8 p q)(hf:AL I4 done (3::l))(hJ:J p q done M T w):Ends p false (Es p q d k cs done 3 l) M (G (wf d T (.inRegion I4 (3::l)::k)) cs) w:=by
 obtain⟨h1,h2,h3,h4,_,_⟩:=Ahd;obtain⟨ds,hu,hd⟩:=B6.1 Aic;obtain⟨a0,hi,hz⟩:=B6.1 Aid;refine Ends.loadN (vs:=q.hc) (inf:=a0) ⟨rfl,rfl,rfl,rfl,h1,h4⟩ h2 (BV (hJ.base 4 _ rfl)) (by rw[hq.P];exact hu) hd (by rw[hq.P];exact hi) (by rw[hz,hq.hl]) (λw₁ hR=>?_) (λj=>JB (.inl ⟨by rw[BF];exact hq.h.1,hq.h.2.2.2 _ (BF _ _)⟩)) ?_
 .obtain⟨t,f,hb⟩:=(hJ.rely hq hR).mem.h;exact Kv hb
 .rw[DS h1 h3];exact Ends.stop λw₁ hR=>⟨_,rfl,(hJ.putV hq (i:=3) hf.2.1 oM oM oM oM λv' e=>by cases e;rfl).rely hq hR⟩
end
section
variable {p:F5} {q:BM} {done:List Nat} {M M':Nat->Prop} {T:Array Value} {w w₁:World} {d:Deferred} {k:List Item} {cs:List Frame}
theorem F1.two{r:Rn}{a a' b b':Value}(ha:VR r a a')(hb:VR r b b'):F1 r #[a,b] #[a',b']:=⟨rfl,λi v v' h1 h2=>by
 match i,h1,h2 with
 | 0,h1,h2=>cases h1;cases h2;exact ha
 | 1,h1,h2=>cases h1;cases h2;exact hb
 | n+2,h1,h2=>simp at h1⟩
theorem Pr{P:Program}{s:FZs}{nf:TypeId->Bool}{o:Oper}(hop:o.op=.call {callee:=.value (.func f),args:=xs,argTypes:=ats})(hb:DP P s g nf f)(fr:Frame)(w:World)(es:Array Event):(execOp fr.eval o).runT P w es=(.ok (.enter f (xs.map fr.eval)) w,es):=by
 rw[Db,FB o hop];exact AbX hb _ _ _
theorem Aie{r:Rn}{a b c v':Value}(h:VR r (.agg #[a,b,c]) v'):∃a' b' c',v'=.agg #[a',b',c']/\VR r b b':=by
 generalize hx:Value.agg #[a,b,c]=x at h;cases h with
 | agg hs hh =>
  cases hx
  rename_i c';rcases c' with⟨_|⟨a',_|⟨b',_|⟨c',_|⟨z,l⟩⟩⟩⟩⟩<;>simp at hs
  exact⟨a',b',c',rfl,hh 1 b b' rfl rfl⟩
 | _=>cases hx
theorem ST:DP prog sB gB SM 56:=Aad sI sI
theorem Aae:DP prog sB gB SM 55:=Aad sI sI
theorem AbY:sB 56=true:=sI
theorem AfO:sB 55=true:=sI
theorem Aaf(n:Int)(s:BA)(w:World)(es:Array Event):(Instr.build 102 #[(0,Iz n),(1,Tz s)]).runT prog w es=(.ok (.agg #[Iz n,Tz s]) w,es):=sI
theorem w5(hq:W8 p q)(hf:AL I4 done (5::l))(hJ:J p q done M T w):Ends p false (Es p q d k cs done 5 l) M (G (wf d T (.inRegion I4 (5::l)::k)) cs) w:=by
 obtain⟨h1,h2,h3,h4,h5,h6⟩:=Adg;have a0:=IF hf h1 h5 h6;have e8:T[8]?=some (.agg q.hc.toArray):=hJ.vals 3 (a0 3 dC) _ rfl;have e9:T[9]?=some (.agg q.bc.toArray):=hJ.vals 4 (a0 4 dC) _ rfl;obtain⟨r,u,k1,k2,k3,k4,k5,k6,k7,k8,k9,a3⟩:=hJ.lone;refine Ends.enter (f:=56) (args:=#[.agg q.hc.toArray,.agg q.bc.toArray]) ⟨rfl,rfl,rfl,rfl,h1,h4⟩ (λw₁=>?_) ?_
 .rw[hq.P,Pr h2 ST];simp only[List.map_toArray,List.map_cons,List.map_nil,BV e8,BV e9]
 .rw[hq.P];have hl:=Kt (main:=false) SN hq.P hq.ok AbY ST k1 k2 k3 (F1.two (hq.hv.mono k5) (hq.bv.mono k5)) k4 k6 (Q:=Xy q) (λτ dd=>hq.c1 _ (k9 hf.2.1)) (wf d T (.inRegion I4 (5::l)::k)) cs;refine Ends.mono ?_ hl;rintro M' g w' ⟨r1,u1,u0,v,v',rfl,b1,b2,b3,b4,b5,b6,b7,b8,b9,a1,a2⟩;obtain⟨a,b,c,rfl,hL⟩:=b6;have lC:q.C<w.heap.size:=(D1.1 hJ.mem.c).1;have lB:q.Bb<w.heap.size:=by obtain⟨t,f,h⟩:=hJ.mem.bb;exact (D1.1 h).1
  refine⟨T.setIfInBounds 10 v',by rw[DS h1 h3],hJ.put (i:=5) b9 hf.2.1 oM (λh=>oM) (λh=>oM) (λv' e=>by cases e) (hJ.mem.since hq hJ.mC hJ.mB k7 k8 a2) ?_⟩;refine⟨r1,u1,b2,b3,b4,k4.mono b1,k5.trans b1,b8,λh=>k7 (a1 _ h lC),λh=>k8 (a1 _ h lB),λh=>absurd dC h,λ_ _=>⟨v',?_,a,b,c,b5,by rw[← b7];exact hL,λh=>?_⟩⟩
  .rw[Array.getElem?_setIfInBounds_self_of_lt (by rw[hJ.size];omega)]
  .rcases List.mem_cons.1 h with e|e
   .cases e
   .exact absurd (hJ.cl 6 (.inl rfl) e) hf.2.1
theorem w6(hq:W8 p q)(hf:AL I4 done (6::l))(hJ:J p q done M T w):Ends p false (Es p q d k cs done 6 l) M (G (wf d T (.inRegion I4 (6::l)::k)) cs) w:=by
 obtain⟨h1,h2,h3,h4,h5,h6⟩:=Ahf;have d5:=IF hf h1 h5 h6 5 dC;obtain⟨r,u,k1,k2,k3,k4,k5,k6,k7,k8,k9,a0⟩:=hJ.lone;have d7:7∉done:=λh=>hf.2.1 (hJ.cl7 h)
 .obtain⟨v',a1,a,b,c,hv,hL,_⟩:=a0 d5 d7;obtain⟨a',b',c',rfl,hb⟩:=Aie hv;refine Ends.value (v:=b') ⟨rfl,rfl,rfl,rfl,h1,h4⟩ (λw₁ hR=>⟨#[],?_,dC⟩) ?_
  .have e:execOp (wf d T (.inRegion I4 (6::l)::k)).eval (J1 6)=(do pure (.value (← Instr.field 80 ((wf d T (.inRegion I4 (6::l)::k)).eval (.tmp 10)) 1)):Sem Next):=by unfold execOp;rw[h2]
   rw[e,BV a1,hq.P];exact I9 (Aac a' b' c' w₁ #[])
  .rw[DS h1 h3];refine Ends.stop λw₁ hR=>⟨_,rfl,J.rely hq (hJ.put (i:=6) (M':=M) (w₁:=w) (λ_ h=>h) hf.2.1 oM (λ_=>d5) (λh=>oM) (λv' e=>by cases e) hJ.mem ?_) hR⟩;refine⟨r,u,k1,k2,k3,k4,k5,k6,k7,k8,λh=>absurd (by simp[d5]) h,λ_ _=>⟨_,?_,a,b,c,hv,hL,λ_=>⟨b',?_,hb⟩⟩⟩
   .simp_all
   .rw[Array.getElem?_setIfInBounds_self_of_lt (by rw[hJ.size];omega)]
theorem w7(hq:W8 p q)(hf:AL I4 done (7::l))(hJ:J p q done M T w):Ends p false (Es p q d k cs done 7 l) M (G (wf d T (.inRegion I4 (7::l)::k)) cs) w:=by
 obtain⟨h1,h2,h3,h4,h5,h6⟩:=Adh;have a0:=IF hf h1 h5 h6;have e7:T[7]?=some (.agg q.bc.toArray):=hJ.vals 2 (a0 2 dC) _ rfl;have d5:=a0 5 dC;obtain⟨r,u,k1,k2,k3,k4,k5,k6,k7,k8,k9,a2⟩:=hJ.lone;obtain⟨v',a6,a,b,c,hv,hL,a3⟩:=a2 d5 hf.2.1;obtain⟨b',a4,hb⟩:=a3 (a0 6 dC);refine Ends.enter (f:=55) (args:=#[.agg q.bc.toArray,b']) ⟨rfl,rfl,rfl,rfl,h1,h4⟩ (λw₁=>?_) ?_
 .rw[hq.P,Pr h2 Aae];simp only[List.map_toArray,List.map_cons,List.map_nil,BV e7,BV a4]
 .rw[hq.P];have hl:=Kt (main:=false) SN hq.P hq.ok AfO Aae k1 k2 k3 (F1.two (hq.bv.mono k5) hb) k4 k6 (Q:=λv _=>v=Tz q.line) (λτ dd=>hL _ rfl) (wf d T (.inRegion I4 (7::l)::k)) cs;refine Ends.mono ?_ hl;rintro M' g w' ⟨r1,u1,u0,v,v',rfl,b1,b2,b3,b4,b5,b6,b7,b8,b9,a1,a5⟩;subst b6;cases b5
  have lC:q.C<w.heap.size:=(D1.1 hJ.mem.c).1;have lB:q.Bb<w.heap.size:=by obtain⟨t,f,h⟩:=hJ.mem.bb;exact (D1.1 h).1
  refine⟨T.setIfInBounds 12 (Tz q.line),by rw[DS h1 h3],hJ.put (i:=7) b9 hf.2.1 oM (λ_=>d5) (λ_=>a0 6 dC) (λv' e=>by cases e;rfl) (hJ.mem.since hq hJ.mC hJ.mB k7 k8 a5) ?_⟩;exact⟨r1,u1,b2,b3,b4,k4.mono b1,k5.trans b1,b8,λh=>k7 (a1 _ h lC),λh=>k8 (a1 _ h lB),λh=>absurd (by simp[d5]) h,λ_ h=>absurd dC h⟩
theorem w8(hq:W8 p q)(hf:AL I4 done (8::l))(hJ:J p q done M T w):Ends p false (Es p q d k cs done 8 l) M (G (wf d T (.inRegion I4 (8::l)::k)) cs) w:=by
 obtain⟨h1,h2,h3,h4,h5,h6⟩:=Adi;have a0:=IF hf h1 h5 h6;have e6:T[6]?=some (Iz q.n):=hJ.vals 1 (a0 1 dC) _ rfl;have a1:T[12]?=some (Tz q.line):=hJ.vals 7 (a0 7 dC) _ rfl;refine Ends.value (v:=.agg #[Iz q.n,Tz q.line]) ⟨rfl,rfl,rfl,rfl,h1,h4⟩ (λw₁ hR=>⟨#[],?_,dC⟩) ?_
 .have e:execOp (wf d T (.inRegion I4 (8::l)::k)).eval (J1 8)=(do pure (.value (← Instr.build 102 #[(0,(wf d T (.inRegion I4 (8::l)::k)).eval (.tmp 6)),(1,(wf d T (.inRegion I4 (8::l)::k)).eval (.tmp 12))])):Sem Next):=by
   unfold execOp;rw[h2];simp only[List.map_toArray,List.map_cons,List.map_nil]
  rw[e,BV e6,BV a1,hq.P];exact I9 (Aaf q.n q.line w₁ #[])
 .rw[DS h1 h3];exact Ends.stop λw₁ hR=>⟨_,rfl,(hJ.putV hq (i:=8) hf.2.1 oM oM oM oM λv' e=>by cases e;rfl).rely hq hR⟩
theorem Ahh(hq:W8 p q):∀(done:List Nat)(i:Nat)(l:List Nat)(M:Nat->Prop)(T:Array Value)(w:World),i≠9->AL I4 done (i::l)->J p q done M T w->Ends p false (Es p q d k cs done i l) M (G (wf d T (.inRegion I4 (i::l)::k)) cs) w:=by
 intro done i l M T w h9 hf hJ;have a0:i<10:=by rw[← Me];exact hf.1
 match i,h9,hf,a0 with
 | 0,_,hf,_=>exact w0 hq hf hJ
 | 1,_,hf,_=>exact w1 hq hf hJ
 | 2,_,hf,_=>exact w2 hq hf hJ
 | 3,_,hf,_=>exact w3 hq hf hJ
 | 4,_,hf,_=>exact w4 hq hf hJ
 | 5,_,hf,_=>exact w5 hq hf hJ
 | 6,_,hf,_=>exact w6 hq hf hJ
 | 7,_,hf,_=>exact w7 hq hf hJ
 | 8,_,hf,_=>exact w8 hq hf hJ
 | 9,h9,_,_=>exact absurd rfl h9
 | n+10,_,_,h=>omega
end
def Cl(ops:Array Oper)(done:List Nat):Prop:=∀x∈done,∀o,ops[x]?=some o->∀e∈o.after,Region.binds .any e=true->e.on∈done
theorem Cl.cons{ops:Array Oper}{done:List Nat}{i:Nat}(h:Cl ops done)(hf:AL ops done (i::l)):Cl ops (i::done):=λx hx o ho e he hb=>by
 rcases List.mem_cons.1 hx with rfl|hx
 .exact C7 _ (hf.2.2.1 o ho e he hb)
 .exact C7 _ (h x hx o ho e he hb)
theorem Cl.on{ops:Array Oper}{done:List Nat}{i:Nat}{o:Oper}{q:List Nat}(h:Cl ops done)(hi:i∈done)(ho:ops[i]?=some o)(ha:o.after.toList.map (·.on)=q)(hb:o.after.all (λe=>Region.binds .any e)=true):∀x∈q,x∈done:=λx hx=>by
 rw[← ha] at hx;obtain⟨e,he,rfl⟩:=List.mem_map.1 hx;have he:e∈o.after:=by simpa using he
 exact h i hi o ho e he (Array.all_eq_true'.1 hb e he)
theorem AbZ{done:List Nat}(h:Cl I4 done)(hf:AL I4 done (9::l)):(∀i,i<9->i∈done)/\l=[]:=by
 have on:=λ{i:Nat} {o:Oper} {q:List Nat} (hi:i∈done) (ho:I4[i]?=some o) (ha:o.after.toList.map (·.on)=q) hb=>h.on hi ho ha hb;obtain⟨a1,_,_,_,a5,a6⟩:=Adj;have b9:=IF hf a1 a5 a6;have m0:=b9 0 dC;have m8:=b9 8 dC;have m7:=b9 7 dC;obtain⟨c1,_,_,_,c5,c6⟩:=Adi;have m1:=on m8 c1 c5 c6 1 dC;obtain⟨d1,_,_,_,d5,d6⟩:=Adh;have m2:=on m7 d1 d5 d6 2 dC;have m6:=on m7 d1 d5 d6 6 dC;have m5:=on m7 d1 d5 d6 5 dC;obtain⟨e1,_,_,_,e5,e6⟩:=Adg;have m3:=on m5 e1 e5 e6 3 dC;have m4:=on m5 e1 e5 e6 4 dC
 have a0:∀i,i<9->i∈done:=λi hi=>by
  grind
 refine⟨a0,?_⟩;cases l with
 | nil=>rfl
 | cons x l =>
  have hx:=hf.2.2.2;have a2:x<10:=by rw[← Me];exact hx.1
  have hn:=hx.2.1;exfalso
  rcases Nat.lt_or_ge x 9 with h1|h1
  .simp_all
  .grind
section
variable {p:F5} {q:BM} {d:Deferred} {k:List Item} {cs:List Frame} {Stop:(Nat->Prop)->Goroutine->World->Prop}
theorem LF(hq:W8 p q)(kk:∀done M T w,(∀i,i<9->i∈done)->J p q done M T w->Ends p false Stop M (G (wf d T (.inRegion I4 [9]::k)) cs) w):
  ∀(l done:List Nat)(M:Nat->Prop)(T:Array Value)(w:World),AL I4 done l->Cl I4 done->9∉done->J p q done M T w->Ends p false Stop M (G (wf d T (.inRegion I4 l::k)) cs) w
 | [],done,M,T,w,hf,hc,h9,hJ=>absurd (hf 9 (by rw[Me];omega)) h9
 | i::l,done,M,T,w,hf,hc,h9,hJ=>by
  by_cases hi:i=9
  .subst hi;obtain⟨h1,rfl⟩:=AbZ hc hf;exact kk done M T w h1 hJ
  .refine Ends.bind ?_ ?_ (Ahh hq done i l M T w hi hf hJ)
   .rintro M' g w' ⟨T',rfl,hJ'⟩;exact LF hq kk l (i::done) M' T' w' hf.2.2.2 (hc.cons hf) (λh=>(List.mem_cons.1 h).elim (λe=>hi e.symm) h9) hJ'
   .rintro M' g w' ⟨T',rfl,_⟩;rfl
theorem XA(hq:W8 p q)(hmx:p.P.follows .mixedOrders=true){M:Nat->Prop}{T:Array Value}{w:World}(hJ:J p q [] M T w)(kk:∀done M T w,(∀i,i<9->i∈done)->J p q done M T w->Ends p false Stop M (G (wf d T (.inRegion I4 [9]::k)) cs) w):
  Ends p false Stop M (G (wf d T (.code (.region id I4 true)::k)) cs) w :=
 Ends.draw rfl rfl λx=>LF hq kk _ [] M T w (MR hmx Aeu x) (λx hx=>by simp at hx) dC hJ
end
end Bd
namespace Ld
open Go.Conc Go.RowKit
section
variable {P:Program} {s:FZs}
theorem pz0(u:World)(τ:Nat->Question->Nat)(d:Nat):F7 X0 u τ d={u with tape:=τ,drawn:=d}:=by
 have e:u.heap.mapIdx (Ay X0)=u.heap:=by
  apply Array.ext_getElem?
  intro i;rw[Array.getElem?_mapIdx];cases u.heap[i]? with
  | none=>rfl
  | some o=>rw[Option.map_some];unfold Ay;rw[if_neg id]
 unfold F7 pz;rw[e]
theorem XD{v:World}(h:M4 (λ_=>False) u v):v={u with tape:=v.tape,drawn:=v.drawn}:=by
 have h1:v.heap=u.heap:=Array.ext_getElem? λi=>(h 0).same i id;have h2:v.os=u.os:=(h 0).os;have h3:v.output=u.output:=(h 0).output;cases v;cases u
 simp only at h1 h2 h3;subst h1 h2 h3;rfl
end
def tp(w:World)(τ:Nat->Question->Nat)(d:Nat):World:={w with tape:=τ,drawn:=d}
abbrev none_:Loc->Prop:=λ_=>False
def I8(P:Program)(f:FuncId)(args:Array Value)(W:World)(R:Value->World->Prop):Prop :=
 ∀(Post:Value->World->Prop)(c:Frame)(cs:List Frame)(gs:Array Goroutine)(sl:Option (Nat×Nat)) (t:Trace),F0 P none_ gs (G (Frame.enter P f args .normal) (c::cs)) t->
  (∀gs' w' sl' t' v,F0 P none_ gs' (G (c.finish v) cs) t'->(∀(b:Nat)(c:Array Value)(t:TypeId),w'.heap[b]?=some (Obj.pending c t)->gN<=b)->(∀τ d,R v (tp w' τ d)/\Below W.heap.size (tp W τ d) (tp w' τ d))->D9 P Post (crowd gs' w' sl') t')->D9 P Post (crowd gs W sl) t
theorem l_of{P:Program}{s:FZs}(S:I6 P s)(hf:s f=true)(ha:FL s f args)(hn:∀(b:Nat)(c:Array Value)(t:TypeId),W.heap[b]?=some (Obj.pending c t)->gN<=b)(hR:∀v,X9 (R v))
  (hc:∀τ d,Calls P f args (tp W τ d) λe u'=>(∃v,e=.returned v/\R v u')/\Below W.heap.size (tp W τ d) u') (hbf:((P.funcs[f]?).bind (·.body)).isSome=true:=by kernel_rfl):I8 P f args W R:=by
 intro Post c cs gs sl t hh k;have hb:Aq X0 W:=⟨λ_ h=>h.elim,λ_ h=>h.elim,hn⟩
 have a0:=OX (X:=X0) S hf hbf ha hb (R:=λw v u=>R v u/\Below W.heap.size w u) (λτ d=>by
  rw[pz0];refine (hc τ d).mono ?_;rintro e u' ⟨⟨v,rfl,h1⟩,h2⟩;exact⟨v,rfl,h1,h2⟩) (c::cs)
 refine ends_run (X:=X0) (λ_ h=>h.elim) hh a0 λgs1 g1 w1 sl1 t1 hh1 hL=>?_;have hr:g1.status=.running:=by obtain⟨fe,rfl,_⟩:=hL;rfl
 obtain⟨v,h1,h2,h3⟩:=Abq hL;have hG:Run P X0 (λg w=>g=G (c.finish v) cs/\∃d,w=w1.at d) g1 w1:=.step hr (λ_=>G (c.finish v) cs) (λd=>w1.at d) (λd=>(h1 d).choose) (λd=>(h1 d).choose_spec.1) (λd=>(h1 d).choose_spec.2) (λd=>.stop λd'=>⟨rfl,_,rfl⟩);refine ends_run (X:=X0) (λ_ h=>h.elim) hh1 hG λgs2 g2 w2 sl2 t2 hh2 hst=>?_;obtain⟨rfl,d2,rfl⟩:=hst;refine k gs2 _ sl2 t2 v hh2 h2.pend λτ d=>?_;obtain⟨τ0,d0,u0,⟨q1,q2⟩,q3⟩:=h3 τ d;rw[pz0] at q3 q2;have e:tp (w1.at d2) τ d={u0 with tape:=τ,drawn:=d}:=XD q3;rw[e];refine⟨hR v _ _ _ q1,?_⟩;exact {os:=q2.os,tape:=rfl,output:=q2.output,size:=q2.size,block:=q2.block}
end Ld
section
open Go.Conc Go.RowKit
structure Acb (F:World->Prop):Prop where
 up:∀u u',F u->Up u u'->F u'
 tl:X9 F
structure CJ (X0:Nat->Prop) (W0:World) (F:World->Prop) (X:Nat->Prop) (Shun:Loc->Prop) (V:World):Prop where
 hX:Afp Shun X
 base:Aq X V
 hold:∀τ d,F (F7 X V τ d)
 low:∀τ d,Below W0.heap.size (F7 X0 W0 τ d) (F7 X V τ d)
 far:∀b,X b->X0 b\/W0.heap.size<=b
section
variable {X0 X:Nat->Prop} {W0 V:World} {F:World->Prop} {Shun:Loc->Prop}
theorem CJ.at(h:CJ X0 W0 F X Shun V)(d:Nat):CJ X0 W0 F X Shun (V.at d):=⟨h.hX,h.base.at d,h.hold,h.low,h.far⟩
theorem CJ.size(h:CJ X0 W0 F X Shun V):W0.heap.size<=V.heap.size:=by
 have:=(h.low (λ_ _=>0) 0).size;(try unfold Up at this);rwa [Ct,Ct] at this
variable {P:Program} {s:FZs} {Post:Value->World->Prop} {b:Frame} {a:Act} {k:List Item} {bw:List Frame} {gs:Array Goroutine} {sl:Option (Nat×Nat)} {t:Trace}
theorem XE(hF:Acb F)(hG:∀a,X9 (G' a)){g:Goroutine}{V:World}(hI:CJ X0 W0 F X Shun V)(hst:MN X b k bw (λa u=>∃τ d,G' a u/\Below V.heap.size (F7 X V τ d) u) g V'):
  ∃a',g=G (b.at a' k) bw/\a'.defers=[]/\CJ X0 W0 (λu=>F u/\G' a' u) X Shun V':=by
 obtain⟨a',rfl,hd,a0,hQ⟩:=hst;have h1:=λτ d=>Jm (hG a') (hQ τ d);refine⟨a',rfl,hd,hI.hX,a0,λτ d=>⟨hF.up _ _ (hI.hold τ d) (by (try unfold Up);rw[Ct];exact (h1 τ d).2),(h1 τ d).1⟩,λτ d=>(hI.low τ d).trans ((h1 τ d).2.mono hI.size),hI.far⟩
theorem Ps{Q Q':Exit->Act->World->Prop}(hq:∀e a u,Q e a u->Q' e a u):∀{l:List Code} {a:Act} {u:World},GU P l Q a u->GU P l Q' a u
 | [],_,_,h=>hq _ _ _ h
 | _::_,_,_,h=>wp_mono h λe _ _ h1=>by
  cases e with
  | normal=>exact Ps hq h1
  | _=>exact hq _ _ _ h1
theorem AfT[UX s X][NL s](S:I6 P s){l:List Code}(hl:∀r∈l,M7 P s [] r=true)(hb:FrB P b)(hd:a.defers=[])(hF:Acb F)(hI:CJ X0 W0 F X Shun V)(hG:∀a,X9 (G' a))(h:∀u,F u->GU P l (λe a' u'=>e=.normal/\G' a' u'/\Up u u') a u)
  (hh:F0 P Shun gs (G (b.at a (.code (MM l B)::k)) bw) t) (kk:∀gs V sl t a',F0 P Shun gs (G (b.at a' (.code B::k)) bw) t->a'.defers=[]->CJ X0 W0 (λu=>F u/\G' a' u) X Shun V->D9 P Post (crowd gs V sl) t):D9 P Post (crowd gs V sl) t:=by
 refine ends_run hI.hX hh (Rp S hb (Q:=λa u=>∃τ d,G' a u/\Below V.heap.size (F7 X V τ d) u) B k bw l hl hd hI.base (λτ d=>La hI.base (λτ d=>Ps ?_ (h _ (hI.hold τ d))) τ d)) λgs' g' w' sl' t' hh' hst=>?_
 .intro e a' u' hq;refine⟨hq.1,τ,d,hq.2.1,?_⟩;have:=hq.2.2;(try unfold Up at this);rwa [Ct] at this
 obtain⟨a',rfl,a0,a1⟩:=XE hF hG hI hst;exact kk gs' w' sl' t' a' hh' a0 a1
def Adl(P:Program)(ops:Array Oper)(l:List Nat)(Q:Exit->Act->World->Prop)(a:Act)(u:World):Prop:=∀b k cs,∃e a' w',Q e a' w'/\Arrives P (lone (b.at a (.inRegion ops l::k)) cs u) b k cs e a' w'
theorem Acd{ops:Array Oper}{Q:Exit->Act->World->Prop}{a:Act}(h:wpOps P ops Q l a u):Adl P ops l Q a u:=wp_ops l a u h
theorem Aex[UX s X][NL s](S:I6 P s){ops:Array Oper}(hl:O8 P s [] (.inRegion ops l))(hb:FrB P b)(hd:a.defers=[]){w:World}(hw:Aq X w)
  (h:∀τ d,Ef (λu=>Adl P ops l (λe a' u'=>e=.normal/\Q a' u') a u) (F7 X w τ d)) (k:List Item) (bw:List Frame) :
  Run P X (MN X b k bw Q) (G (b.at a (.inRegion ops l::k)) bw) w:=by
 have a1:M8 P s (b.at a [.inRegion ops l]):=hb.ok hd (by intro i hi;simp at hi;subst hi;exact hl)
 have a2:St P X s GT (λfe u=>∃a',fe=b.at a' []/\Ef (Q a') u) (b.at a [.inRegion ops l]) [] w:=by
  refine⟨a1,dC,hw,λτ d=>?_⟩;obtain⟨u0,h1,h2⟩:=h τ d;obtain⟨e,a',u',⟨rfl,hq⟩,⟨N,hN⟩⟩:=h1 b [] [c0 P];obtain⟨ve,q1,q2⟩:=shift S N a1 (seg:=[]) dC h2 hN;exact⟨N,b.at a' [],ve,q1,⟨rfl,rfl⟩,a',rfl,_,hq,q2⟩
 refine (ML S (λfe u v hf ⟨a',h1,h3⟩=>⟨a',h1,h3.full hf⟩) k bw a2).mono λg w' ⟨fe,h1,h2,h3,h4,h5⟩=>?_;obtain⟨a',e,_⟩:=h5 (λ_ _=>0) 0;subst e;refine⟨a',h1,h2.defers,h3,λτ d=>?_⟩;obtain⟨a0,e,hq⟩:=h5 τ d;have e1:a'.tmps=a0.tmps:=congrArg Frame.tmps e;have e2:a'.defers=a0.defers:=congrArg Frame.defers e;obtain rfl:a'=a0:=by cases a';cases a0;simp_all
 exact hq
theorem Ahk[NL s][UX s X](S:I6 P s){ops:Array Oper}(hl:O8 P s [] (.inRegion ops l))(hb:FrB P b)(hd:a.defers=[])(hI:CJ X0 W0 F X Shun V)(hG:∀a,X9 (G' a))(h:∀u,F u->W0.heap.size<=u.heap.size->wpOps P ops (λe a' u'=>e=.normal/\G' a' u'/\Below W0.heap.size u u') l a u)
  (hh:F0 P Shun gs (G (b.at a (.inRegion ops l::k)) bw) t) (kk:∀gs V sl t a',F0 P Shun gs (G (b.at a' k) bw) t->a'.defers=[]->CJ X0 W0 (G' a') X Shun V->D9 P Post (crowd gs V sl) t):D9 P Post (crowd gs V sl) t:=by
 refine ends_run hI.hX hh (Aex S hl hb hd hI.base (Q:=λa u=>∃τ d,G' a u/\Below W0.heap.size (F7 X V τ d) u) (λτ d=>La hI.base (λτ d b k cs=>?_) τ d) k bw) λgs' g' w' sl' t' hh' hst=>?_
 .obtain⟨e,a',w',hq,a0⟩:=Acd (h _ (hI.hold τ d) (by (try unfold Up);rw[Ct];exact hI.size)) b k cs;exact⟨e,a',w',⟨hq.1,τ,d,hq.2.1,hq.2.2⟩,a0⟩
 obtain⟨a',rfl,a1,a2,hQ⟩:=hst;have h1:=λτ d=>Jm (hG a') (hQ τ d);exact kk gs' w' sl' t' a' hh' a1 ⟨hI.hX,a2,λτ d=>(h1 τ d).1,λτ d=>(hI.low τ d).trans (h1 τ d).2,hI.far⟩
end
section
variable {X0 X:Nat->Prop} {W0 V:World} {F:World->Prop} {Shun:Loc->Prop} {P:Program} {s:FZs} {Post:Value->World->Prop} {b:Frame} {a:Act} {k:List Item} {bw:List Frame} {gs:Array Goroutine} {sl:Option (Nat×Nat)} {t:Trace}
theorem Ace[NL s][UX s X](S:I6 P s)(hr:M7 P s [] r=true)(hb:FrB P b)(hd:a.defers=[])(hI:CJ X0 W0 F X Shun V)(hG:∀a,X9 (G' a))(h:∀τ d,r.wp P (λe a' u'=>e=.normal/\G' a' u'/\Below W0.heap.size (F7 X V τ d) u') a (F7 X V τ d))
  (hh:F0 P Shun gs (G (b.at a (.code r::k)) bw) t) (kk:∀gs V sl t a',F0 P Shun gs (G (b.at a' k) bw) t->a'.defers=[]->CJ X0 W0 (G' a') X Shun V->D9 P Post (crowd gs V sl) t):D9 P Post (crowd gs V sl) t:=by
 refine ends_run hI.hX hh (Kk S hr hb hd hI.base (Q:=λa u=>∃τ d,G' a u/\Below W0.heap.size (F7 X V τ d) u) (λτ d=>La hI.base (λτ d=>wp_mono (h τ d) ?_) τ d) k bw) λgs' g' w' sl' t' hh' hst=>?_
 .grind
 obtain⟨a',rfl,a0,a1,hQ⟩:=hst;have h1:=λτ d=>Jm (hG a') (hQ τ d);exact kk gs' w' sl' t' a' hh' a0 ⟨hI.hX,a1,λτ d=>(h1 τ d).1,λτ d=>(hI.low τ d).trans (h1 τ d).2,hI.far⟩
theorem Cz{w:World}{i:Nat}(hb:¬X i)(τ:Nat->Question->Nat)(d:Nat):(F7 X w τ d).heap[i]?=w.heap[i]?:=by
 show (pz X w).heap[i]?=_
 rw[Iq];cases w.heap[i]? with
 | none=>rfl
 | some o=>rw[Option.map_some];unfold Ay;rw[if_neg hb]
theorem BG(w:World)(τ:Nat->Question->Nat)(d:Nat):F7 (λ_=>False) w τ d={w with tape:=τ,drawn:=d}:=by
 have e:w.heap.mapIdx (Ay λ_=>False)=w.heap:=by
  apply Array.ext_getElem?
  intro i;rw[Array.getElem?_mapIdx];cases w.heap[i]? with
  | none=>rfl
  | some o=>rw[Option.map_some];unfold Ay;rw[if_neg id]
 unfold F7 pz;rw[e]
end
end
section
open Go.Conc
def fsD:List Nat:=[22,50,91,146,192,193,194,195,180,219,220,221,222,229,230]
theorem Afz:I6 prog (Ci fsD):=LV sI
end
end Go.Proofs.YtaffjphkobhagaaGreatDoor
