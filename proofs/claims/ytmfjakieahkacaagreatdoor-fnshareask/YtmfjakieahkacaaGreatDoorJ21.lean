/- The program's chapter 13: what is done where somebody goes. -/
import Derived.Test.YtmfjakieahkacaaGreatDoorJ17
import Derived.Test.YtmfjakieahkacaaGreatDoorJ11
import Derived.Test.YtmfjakieahkacaaGreatDoorLf7
namespace Go.Proofs.YtmfjakieahkacaaGreatDoor
open Go.RowKit
theorem Zz{W w0:World}{q:Nat}{x0 x1:Value}(h:Below W.heap.size W w0/\w0.cell? ⟨q,0,none⟩=some x0/\w0.cell? ⟨q,1,none⟩=some x1):Below W.heap.size W w0.drew/\w0.drew.cell? ⟨q,0,none⟩=some x0/\w0.drew.cell? ⟨q,1,none⟩=some x1:=⟨h.1.drew,h.2⟩
theorem Ac6{W w0 w1:World}{q:Nat}{x0 x1:Value}(hq:q<W.heap.size)(h:Below W.heap.size W w0/\w0.cell? ⟨q,0,none⟩=some x0/\w0.cell? ⟨q,1,none⟩=some x1)(hB:Below w0.heap.size w0 w1):Below W.heap.size W w1/\w1.cell? ⟨q,0,none⟩=some x0/\w1.cell? ⟨q,1,none⟩=some x1:=by
 have lq:q<w0.heap.size:=A1 hq h.1.size;exact⟨D1 h.1 hB,(hB.cell (p:=⟨q,0,none⟩) lq).trans h.2.1,(hB.cell (p:=⟨q,1,none⟩) lq).trans h.2.2⟩
theorem M1.sub{w:World}{B:Nat}{q:Option Nat}{fs gs:List (Value×List ByteArray)}(h:M1 w B q fs)(hs:gs.Sublist fs):M1 w B q gs:=⟨λf hf=>h.own f (hs.subset hf),h.ap.sublist hs,λf hf=>h.av f (hs.subset hf)⟩
def U0(w:World)(base:Nat)(v:Value)(b:Bk):Prop:=∃a1 c1 a2 c2 ps,v=.agg #[.slice a1 b.tg.length c1,.slice a2 b.bs.length c2]/\Bp w base (.slice a2 b.bs.length c2) ps/\ps.map (·.1)=b.bs/\M1 w base none ((.slice a1 b.tg.length c1,b.tg)::N4 ps)
end Go.Proofs.YtmfjakieahkacaaGreatDoor
namespace Go.Proofs.YtmfjakieahkacaaGreatDoor
open Go.Conc
section
variable {P:Program} {X:Nat->Prop} {α β:Type}
theorem Me(t:TypeId)(x:Place):D0 P X (x.get t):=by
 unfold Place.get;repeat' first|(with_reducible first|exact D0.pure' _|exact D0.pure _|exact D0.halt _|assumption|exact D4 _|exact F8 _|exact H0 _|exact F5 _|exact F9 _|exact I2 _|exact E7 _ _|exact D9 _ _ _|exact D8 _ _|exact D5 _ _ _|exact I4 _ _|exact H7 _ _|exact G0 _|exact G7 _ _ _|exact E4 _|exact E2 _ _ _ _|exact E9 _|exact I5 _|exact G1 _|exact I6 _|exact F2 _|exact G5 _|exact G2 _|exact G8 _|exact E1 _|exact G6 _ _|exact F1 _ _ _|exact F3 _|exact I0 _ _ _|exact F4 _|exact N1 _|exact M6 _|exact K6 _ _|exact J7 _ _|refine D6 ?_|refine D0.bind ?_ (λ_=>?_))|((with_reducible refine E8 _ ?_)<;>rfl)|((with_reducible refine H6 _ _ ?_)<;>rfl)|(dsimp only)|split
theorem Pu:∀(l:List FieldStep)(t:TypeId)(x:Place),D0 P X (follow l t x)
 | [],_,_=>D0.pure' _
 | s::l,t,x=>by
  have ih:=λt x=>Pu l t x;unfold follow;repeat' first|(with_reducible first|exact D0.pure' _|exact D0.pure _|exact D0.halt _|assumption|exact D4 _|exact F8 _|exact H0 _|exact F5 _|exact F9 _|exact I2 _|exact E7 _ _|exact D9 _ _ _|exact D8 _ _|exact D5 _ _ _|exact I4 _ _|exact H7 _ _|exact G0 _|exact G7 _ _ _|exact E4 _|exact E2 _ _ _ _|exact E9 _|exact I5 _|exact G1 _|exact I6 _|exact F2 _|exact G5 _|exact G2 _|exact G8 _|exact E1 _|exact G6 _ _|exact F1 _ _ _|exact F3 _|exact I0 _ _ _|exact F4 _|exact N1 _|exact M6 _|exact K6 _ _|exact J7 _ _|exact ih _ _|exact Me _ _|refine D6 ?_|refine D0.bind ?_ (λ_=>?_))|((with_reducible refine E8 _ ?_)<;>rfl)|((with_reducible refine H6 _ _ ?_)<;>rfl)|(dsimp only)|split
theorem Vd(a:Array TypeId)(t:TypeId)(v:Value)(m n:ByteArray):D0 P X (Builtin.ssaWrapNilChk_ a t #[v,.string m,.string n]):=by
 cases v<;>first|exact D4 _|skip
 rename_i o;cases o with
 | some x=>exact D0.pure' _
 | none =>
  refine D0.bind (E1 (.extern "ssa:wrapnilchk.dereferenced" 2)) (λr=>?_);repeat' first|(with_reducible first|exact D0.pure' _|exact D0.pure _|exact D0.halt _|assumption|exact D4 _|exact F8 _|exact H0 _|exact F5 _|exact F9 _|exact I2 _|exact E7 _ _|exact D9 _ _ _|exact D8 _ _|exact D5 _ _ _|exact I4 _ _|exact H7 _ _|exact G0 _|exact G7 _ _ _|exact E4 _|exact E2 _ _ _ _|exact E9 _|exact I5 _|exact G1 _|exact I6 _|exact F2 _|exact G5 _|exact G2 _|exact G8 _|exact E1 _|exact G6 _ _|exact F1 _ _ _|exact F3 _|exact I0 _ _ _|exact F4 _|exact N1 _|exact M6 _|exact K6 _ _|exact J7 _ _|refine D6 ?_|refine D0.bind ?_ (λ_=>?_))|((with_reducible refine E8 _ ?_)<;>rfl)|((with_reducible refine H6 _ _ ?_)<;>rfl)|(dsimp only)|split
theorem Pv(t:TypeId)(x:Place)(b:Bool)(o:Option String):D0 P X (receiverAt t x b o):=by
 unfold receiverAt strVal;repeat' first|(with_reducible first|exact D0.pure' _|exact D0.pure _|exact D0.halt _|assumption|exact D4 _|exact F8 _|exact H0 _|exact F5 _|exact F9 _|exact I2 _|exact E7 _ _|exact D9 _ _ _|exact D8 _ _|exact D5 _ _ _|exact I4 _ _|exact H7 _ _|exact G0 _|exact G7 _ _ _|exact E4 _|exact E2 _ _ _ _|exact E9 _|exact I5 _|exact G1 _|exact I6 _|exact F2 _|exact G5 _|exact G2 _|exact G8 _|exact E1 _|exact G6 _ _|exact F1 _ _ _|exact F3 _|exact I0 _ _ _|exact F4 _|exact N1 _|exact M6 _|exact K6 _ _|exact J7 _ _|exact Me _ _|exact Vd _ _ _ _ _|refine D6 ?_|refine D0.bind ?_ (λ_=>?_))|((with_reducible refine E8 _ ?_)<;>rfl)|((with_reducible refine H6 _ _ ?_)<;>rfl)|(dsimp only)|split
theorem Pw:∀(n:Nat)(t:TypeId)(v:Value)(s:String),D0 P X (method n t v s)
 | 0,_,_,_=>E8 _ rfl
 | n+1,t,v,s=>by
  have ih:=λt v=>Pw n t v s;unfold method;repeat' first|(with_reducible first|exact D0.pure' _|exact D0.pure _|exact D0.halt _|assumption|exact D4 _|exact F8 _|exact H0 _|exact F5 _|exact F9 _|exact I2 _|exact E7 _ _|exact D9 _ _ _|exact D8 _ _|exact D5 _ _ _|exact I4 _ _|exact H7 _ _|exact G0 _|exact G7 _ _ _|exact E4 _|exact E2 _ _ _ _|exact E9 _|exact I5 _|exact G1 _|exact I6 _|exact F2 _|exact G5 _|exact G2 _|exact G8 _|exact E1 _|exact G6 _ _|exact F1 _ _ _|exact F3 _|exact I0 _ _ _|exact F4 _|exact N1 _|exact M6 _|exact K6 _ _|exact J7 _ _|exact ih _ _|exact Pu _ _ _|exact Pv _ _ _ _|exact Me _ _|refine D6 ?_|refine D0.bind ?_ (λ_=>?_))|((with_reducible refine E8 _ ?_)<;>rfl)|((with_reducible refine H6 _ _ ?_)<;>rfl)|(dsimp only)|split
theorem ZA(a:Array TypeId)(t:TypeId)(v:Array Value):D0 P X (Builtin.clear_ a t v):=by
 unfold Builtin.clear_;repeat' first|(with_reducible first|exact D0.pure' _|exact D0.pure _|exact D0.halt _|assumption|exact D4 _|exact F8 _|exact H0 _|exact F5 _|exact F9 _|exact I2 _|exact E7 _ _|exact D9 _ _ _|exact D8 _ _|exact D5 _ _ _|exact I4 _ _|exact H7 _ _|exact G0 _|exact G7 _ _ _|exact E4 _|exact E2 _ _ _ _|exact E9 _|exact I5 _|exact G1 _|exact I6 _|exact F2 _|exact G5 _|exact G2 _|exact G8 _|exact E1 _|exact G6 _ _|exact F1 _ _ _|exact F3 _|exact I0 _ _ _|exact F4 _|exact N1 _|exact M6 _|exact K6 _ _|exact J7 _ _|refine D6 ?_|refine D0.bind ?_ (λ_=>?_))|exact KM _ (by simp)|((with_reducible refine E8 _ ?_)<;>rfl)|((with_reducible refine H6 _ _ ?_)<;>rfl)|(dsimp only)|split
theorem Te(a b:Array TypeId)(v:Array Value):D0 P X (Extern.SlicesOverlaps.overlaps a b v):=by
 obtain⟨l⟩:=v;rcases l with _|⟨x,_|⟨y,_|⟨z,l⟩⟩⟩
 ·exact D4 _
 ·cases x<;>exact D4 _
 ·cases x<;>first|exact D4 _|skip
  cases y<;>first|exact D4 _|skip
  unfold Extern.SlicesOverlaps.overlaps;generalize a[0]?=o;cases o with
  | none=>exact D4 _
  | some t =>
  refine D0.bind (H0 t) λd=>?_;dsimp only
  repeat' first|(with_reducible first|exact D0.pure' _|exact D0.pure _|exact D0.halt _|assumption|exact D4 _|exact F8 _|exact H0 _|exact F5 _|exact F9 _|exact I2 _|exact E7 _ _|exact D9 _ _ _|exact D8 _ _|exact D5 _ _ _|exact I4 _ _|exact H7 _ _|exact G0 _|exact G7 _ _ _|exact E4 _|exact E2 _ _ _ _|exact E9 _|exact I5 _|exact G1 _|exact I6 _|exact F2 _|exact G5 _|exact G2 _|exact G8 _|exact E1 _|exact G6 _ _|exact F1 _ _ _|exact F3 _|exact I0 _ _ _|exact F4 _|exact N1 _|exact M6 _|exact K6 _ _|exact J7 _ _|refine D6 ?_|refine D0.bind ?_ (λ_=>?_))|((with_reducible refine E8 _ ?_)<;>rfl)|((with_reducible refine H6 _ _ ?_)<;>rfl)|(dsimp only)|split
 ·cases x<;>exact D4 _
def IY(P:Program)(s:Nat->Bool)(name:String):Bool:=P.types.all λti=>ti.methods.all λm=>m.name != name || (match m.func with|none=>true|some (f,_)=>s f)
def Al(P:Program){α:Type}(Q:α->Prop)(s:Sem α):Prop:=∀w es a w' es',s.runT P w es=(.ok a w',es')->Q a
theorem Al.bind{Q:α->Prop}{Q':β->Prop}{x:Sem α}{f:α->Sem β}(hx:Al P Q x)(hf:∀a,Q a->Al P Q' (f a)):Al P Q' (x >>= f):=λw es a w' es' h=>by
 have h:(x.bind f).runT P w es=_:=h;rw[Sem.runT_bind'] at h;cases hr:x.runT P w es with
 | mk r es1 =>
  rw[hr] at h;cases r with
  | ok b w1=>exact hf b (hx _ _ _ _ _ hr) _ _ _ _ _ h
  | halt k w1=>cases h
theorem Al.any{x:Sem α}:Al P (λ_=>True) x:=λ_ _ _ _ _ _=>trivial
theorem Al.pure{Q:α->Prop}{a:α}(h:Q a):Al P Q (Pure.pure a:Sem α):=λ_ _ _ _ _ e=>by cases e;exact h
theorem Al.halt{Q:α->Prop}(k:Halt):Al P Q (Sem.halt k:Sem α):=λ_ _ _ _ _ e=>by cases e
theorem QW{info:TypeId->Option TypeInfo}{d:TypeDesc}{i:TypeInfo}(h:Made.reckon info d=some i):i.methods=#[]:=by
 unfold Made.reckon at h;split at h
 ·simp only[Option.bind_eq_bind,Option.bind_eq_some_iff] at h;obtain⟨j,-,h⟩:=h;split at h
  ·cases h
  ·split at h
   ·cases h
   ·simp only[Option.bind_eq_some_iff] at h;obtain⟨s,-,h⟩:=h;cases h;rfl
  ·simp only[Option.bind_eq_some_iff] at h;obtain⟨s,-,h⟩:=h;cases h;rfl
 all_goals first|(cases h;done)|skip
 ·simp only[Option.bind_eq_bind,Option.bind_eq_some_iff] at h;obtain⟨j,-,s,-,h⟩:=h;cases h;rfl
 ·simp only[Option.bind_eq_bind,Option.bind_eq_some_iff] at h;obtain⟨j,-,s,-,j',-,s',-,h⟩:=h;cases h;rfl
 ·simp only[Option.bind_eq_bind,Option.bind_eq_some_iff] at h;obtain⟨j,-,s,-,h⟩:=h;cases h;rfl
 ·simp only[Option.bind_eq_bind,Option.bind_eq_some_iff] at h;obtain⟨s,-,h⟩:=h;cases h;rfl
 ·simp only[Option.bind_eq_bind,Option.bind_eq_some_iff] at h;obtain⟨j,-,s,-,h⟩:=h;cases h;rfl
 ·unfold Made.reckonStruct at h;simp only[Option.bind_eq_bind,Option.bind_eq_some_iff] at h;obtain⟨j,-,h⟩:=h;split at h<;>(cases h;rfl)
theorem ZB{s:Nat->Bool}{name:String}(h:IY P s name=true){t:TypeId}{ti:TypeInfo}(hi:P.info? t=some ti){m:Method}(hm:ti.methods.find? (·.name==name)=some m){f:FuncId}{b:Bool}(hf:m.func=some (f,b)):s f=true:=by
 have hne:ti.methods≠#[]:=λe=>by rw[e] at hm;simp at hm
 have hin:ti∈P.types:=by
  unfold Tables.info? at hi;split at hi
  ·exact Array.mem_of_getElem? hi
  ·exfalso
   rename_i hlt;rw[show Made.depth=99+1 from rfl,Made.infoAt] at hi;rw[if_neg hlt,Option.bind_eq_some_iff] at hi;obtain⟨d,-,hi⟩:=hi;exact hne (QW hi)
 have h1:=Array.all_eq_true'.1 h ti hin;have h2:=Array.all_eq_true'.1 h1 m (Array.mem_of_find?_eq_some hm);have h3:(m.name==name)=true:=by simpa using Array.find?_some hm
 rw[hf] at h2;simp only[beq_iff_eq] at h3;simpa [h3] using h2
theorem Tf(t:TypeId):Al P (λti=>P.info? t=some ti) (typeInfo t):=λw es a w' es' h=>by
 unfold typeInfo at h;change Sem.runT P (match P.info? t with|some i=>Pure.pure i|none=>stuck "no such type") w es=_ at h
 cases hi:P.info? t with
 | none=>rw[hi] at h;cases h
 | some i=>rw[hi] at h;cases h;rfl
theorem FI{s:Nat->Bool}{name:String}(h:IY P s name=true):∀(n:Nat)(t:TypeId)(v:Value),Al P (λr=>s r.1=true) (method n t v name)
 | 0,_,_=>Al.halt _
 | n+1,t,v=>by
  have ih:=λt v=>FI h n t v;unfold method;refine Al.bind (Tf t) λti hi=>?_;split
  ·rename_i m hm;refine Al.bind Al.any λr _=>?_;obtain⟨xt,x⟩:=r;dsimp only
   split
   ·refine Al.bind Al.any λv _=>?_;split
    ·exact ih _ _
    ·exact λw es a w' es' hh=>by cases hh
    ·exact Al.halt _
   ·rename_i f b hf;exact Al.bind Al.any λ_ _=>Al.pure (ZB h hi hm hf)
  ·exact Al.halt _
end
section
variable {P:Program} {X:Nat->Prop} {α β:Type}
theorem Ac7(a:Array TypeId)(t:TypeId)(v:Array Value):D0 P X (Builtin.cap_ a t v):=by
 unfold Builtin.cap_;repeat' first|(with_reducible first|exact D0.pure' _|exact D4 _|exact H0 _|exact F3 _|refine D0.bind ?_ (λ_=>?_))|(dsimp only)|split
def Tg:Builtin->Bool
 | .append | .len | .cap | .copy | .clear=>true
 | _=>false
theorem Th(ρ:Operand->Value)(o:Oper){b:Builtin}{aas:Array Operand}{ats:Array TypeId}(hop:o.op=.call {callee:=.builtin b,args:=aas,argTypes:=ats})(hb:Tg b=true):
  D0 P X (execOp ρ o)/\AW P Bu (execOp ρ o):=by
 have e:execOp ρ o=builtin b ats o.type (aas.map fun | .const _=>true|_=>false) (aas.map ρ):=by
  unfold execOp;rw[hop];rfl
 rw[e];cases b<;>first|(cases hb;done)|skip
 ·exact sv (WR _ _ _)
 ·exact sv (Ac7 _ _ _)
 ·exact sv (ZA _ _ _)
 ·exact sv (AaG _ _ _)
 ·exact sv (Ac0 _ _ _)
theorem Xp{f:FuncId}{fn:Func}(hf:P.funcs[f]?=some fn)(hb:fn.body.isNone=false)(hn:(fn.name == "runtime.NumGoroutine")=false)(args:Array Value):
  D0 P X (callFunc f args)/\AW P (λn=>∃args,n=.enter f args) (callFunc f args):=by
 have e2:∀w es,(callFunc f args).runT P w es=(.ok (.enter f args) w,es):=λw es=>by
  unfold callFunc;show Sem.runT P (match P.funcs[f]? with|none=>_|some fn=>_) w es=_
  rw[hf];simp only[hn,hb];rfl
 constructor
 ·intro n w u es h;rw[e2,e2];exact λ_=>⟨λ_ he=>.inl he,w,rfl,On.refl h⟩
 ·intro w es n w' es' h;rw[e2] at h;cases h
  exact⟨args,rfl⟩
theorem ZC(ρ:Operand->Value)(o:Oper){f:FuncId}{as_:Array Operand}{ats:Array TypeId}(hop:o.op=.call {callee:=.value (.func f),args:=as_,argTypes:=ats})(hρ:ρ (.func f)=.func (.func f) #[] #[]):∃args,execOp ρ o=callFunc f args:=by
 refine⟨(#[]++as_.map ρ) ++ #[],?_⟩;unfold execOp;rw[hop];show (do let d ← resolve ρ _ o.type;invoke d.target d.args)=_
 simp only[resolve,hρ];rfl
theorem Ve(ρ:Operand->Value)(o:Oper){r:Operand}{name:String}{as_:Array Operand}{ats:Array TypeId}(hop:o.op=.call {callee:=.invoke r name,args:=as_,argTypes:=ats}):∃args,execOp ρ o=callMethod (ρ r) name args:=by
 refine⟨(#[ρ r]++as_.map ρ).extract 1 (#[ρ r]++as_.map ρ).size,?_⟩;unfold execOp;rw[hop];show (do let d ← resolve ρ _ o.type;invoke d.target d.args)=_
 have e:(#[ρ r]++as_.map ρ)[0]?=some (ρ r):=by rw[Array.getElem?_append_left (show 0 < #[ρ r].size from Nat.one_pos)];rfl
 show invoke (.fn (.method name) #[]) (#[ρ r]++as_.map ρ)=_
 unfold invoke;simp only[e]
def Ob(P:Program)(t:TypeId):Bool:=match P.underlying t with|some (.int _)=>true|_=>false
theorem Px{t:TypeId}(h:Ob P t=true):∃k,P.underlying t=some (.int k):=by
 unfold Ob at h;split at h
 ·rename_i k hk;exact⟨k,hk⟩
 ·cases h
theorem Lb(x:Value):D0 P X (Conv.bytesToString x):=by
 unfold Conv.bytesToString;repeat' first|(with_reducible first|exact D0.pure' _|exact D4 _|exact E7 _ _|refine GT (λ_ _=>?_) _ _|refine D0.bind ?_ (λ_=>?_))|(dsimp only)|split
theorem Mf{src dst e:TypeId}{x:Value}(h1:P.underlying src=some (.slice e))(h2:P.underlying dst=some .string)(h3:P.underlying e=some (.int .u8)):D0 P X (convert src dst x):=by
 unfold convert;refine IJ h1 (IJ h2 ?_);cases x<;>first|exact D0.pure' _|exact IJ h3 (Lb _)
def Lc(P:Program)(a b:TypeId):Bool:=(Ob P a&&Ob P b) || (match P.underlying a,P.underlying b with
 | some (.slice e),some .string=>(match P.underlying e with|some (.int .u8)=>true|_=>false)
 | _,_=>false)
theorem Ti(ρ:Operand->Value)(o:Oper){a b:TypeId}{x:Operand}(hop:o.op=.convert a b x)(h:Lc P a b=true):D0 P X (execOp ρ o)/\AW P Bu (execOp ρ o):=by
 have e:execOp ρ o=(do pure (.value (← convert a b (ρ x)))):=by unfold execOp;rw[hop]
 rw[e];unfold Lc at h;rw[Bool.or_eq_true,Bool.and_eq_true] at h;rcases h with⟨h1,h2⟩|h
 ·obtain⟨j,hj⟩:=Px h1;obtain⟨k,hk⟩:=Px h2;exact sv (Pa hj hk)
 ·split at h
  ·rename_i e h1 h2;split at h
   ·rename_i h3;exact sv (Mf h1 h2 h3)
   ·cases h
  ·cases h
def ER(P:Program)(s:Nat->Bool):Op->Bool
 | .call {callee:=.value (.func f),..}=>s f
 | .call {callee:=.builtin b,..}=>Tg b
 | .call {callee:=.invoke _ name,..}=>IY P s name
 | .convert a b _=>Lc P a b
 | o=>LX o
def N7(P:Program)(s:Nat->Bool):Code->Bool
 | .skip | .exit _ | .label _ | .ret=>true
 | .region _ ops _=>ops.all λo=>ER P s o.op
 | .seq a b=>N7 P s a&&N7 P s b
 | .cond _ a b=>N7 P s a&&N7 P s b
 | .block _ b=>N7 P s b
 | .loop b=>N7 P s b
 | .scope b=>N7 P s b
 | _=>false
def U2(P:Program)(s:Nat->Bool):Item->Prop
 | .code c=>N7 P s c=true
 | .inBlock _=>True
 | .inLoop c=>N7 P s c=true
 | .inScope c=>N7 P s c=true
 | .inRegion ops l=>∀i∈l,∀o,ops[i]?=some o->ER P s o.op=true
 | _=>False
structure N8 (P:Program) (s:Nat->Bool) (fr:Frame):Prop where
 todo:∀i∈fr.todo,U2 P s i
 defers:fr.defers=[]
 kind:fr.kind=.normal
 round:fr.roundOf=none
 fn:∃fn,P.funcs[fr.fn]?=some fn
def Db(P:Program)(s:Nat->Bool)(f:Nat):Prop:=∃fn body,P.funcs[f]?=some fn/\fn.body=some body/\N7 P s body=true/\(fn.name == "runtime.NumGoroutine")=false
def BP(P:Program)(f:Nat):Prop:=∀(X:Nat->Prop)(args:Array Value),D0 P X (callFunc f args)/\AW P Bu (callFunc f args)
structure N0 (P:Program) (s:Nat->Bool):Prop where
 out:∀f,s f=true->Db P s f∨BP P f
 step:∀g,gN<=g->P.stepOf g=none
variable {s:Nat->Bool}
theorem Tj{o:Op}(h:ER P s o=true):(∃f aas ats,o=.call {callee:=.value (.func f),args:=aas,argTypes:=ats}/\s f=true)∨(∃b aas ats,o=.call {callee:=.builtin b,args:=aas,argTypes:=ats}/\Tg b=true)∨
  (∃r name aas ats,o=.call {callee:=.invoke r name,args:=aas,argTypes:=ats}/\IY P s name=true)∨(∃a b x,o=.convert a b x/\Lc P a b=true)∨LX o=true:=by
 unfold ER at h;split at h
 ·exact .inl ⟨_,_,_,rfl,h⟩
 ·exact .inr (.inl ⟨_,_,_,rfl,h⟩)
 ·exact .inr (.inr (.inl ⟨_,_,_,_,rfl,h⟩))
 ·exact .inr (.inr (.inr (.inl ⟨_,_,_,rfl,h⟩)))
 ·exact .inr (.inr (.inr (.inr h)))
theorem Mg(S:N0 P s){f:Nat}(hf:s f=true)(args:Array Value):D0 P X (callFunc f args)/\AW P (λn=>Bu n∨∃f args,Db P s f/\n=.enter f args) (callFunc f args):=by
 rcases S.out f hf with⟨fn,body,h1,h2,h3,h4⟩|h
 ·obtain⟨a,b⟩:=Xp (P:=P) (X:=X) h1 (by rw[h2];rfl) h4 args;exact⟨a,λw es n w' es' hh=>by obtain⟨q,e⟩:=b w es n w' es' hh;exact .inr ⟨f,q,⟨fn,body,h1,h2,h3,h4⟩,e⟩⟩
 ·exact⟨(h X args).1,λw es n w' es' hh=>.inl ((h X args).2 w es n w' es' hh)⟩
theorem ZD(S:N0 P s){name:String}(hm:IY P s name=true)(v:Value)(args:Array Value):D0 P X (callMethod v name args)/\AW P (λn=>Bu n∨∃f args,Db P s f/\n=.enter f args) (callMethod v name args):=by
 unfold callMethod;split
 ·rename_i t v;constructor
  ·refine D6 (λn w u es h hd=>?_)
   have key:D0 P X (method (P.types.size+Made.depth) t v name >>= λr=>if s r.1=true then callFunc r.1 (#[r.2]++args) else stuck ""):=D0.bind (Pw _ _ _ _) λr=>by
    split
    ·rename_i hr;exact (Mg S hr _).1
    ·exact D4 _
   have same:∀w es,(method (P.types.size+Made.depth) t v name >>= λr=>if s r.1=true then callFunc r.1 (#[r.2]++args) else stuck "").runT P w es=(method (P.types.size+Made.depth) t v name >>= λr=>callFunc r.1 (#[r.2]++args)).runT P w es:=λw es=>by
    show (Sem.bind _ _).runT P w es=(Sem.bind _ _).runT P w es
    rw[Sem.runT_bind',Sem.runT_bind'];cases hr:(method (P.types.size+Made.depth) t v name).runT P w es with
    | mk r es1 =>
     cases r with
     | ok a w1=>simp only[FI hm _ _ _ _ _ _ _ _ hr,if_true]
     | halt k w1=>rfl
   have:=key n w u es h;rw[same,same] at this;exact this hd
  ·intro w es n w' es' h;have h:(Sem.bind (method (P.types.size+Made.depth) t v name) λr=>callFunc r.1 (#[r.2]++args)).runT P w es=_:=h;rw[Sem.runT_bind'] at h;cases hr:(method (P.types.size+Made.depth) t v name).runT P w es with
   | mk r es1 =>
    rw[hr] at h;cases r with
    | ok a w1=>exact (Mg (X:=X) S (FI hm _ _ _ _ _ _ _ _ hr) _).2 _ _ _ _ _ h
    | halt k w1=>cases h
 ·exact⟨E4 _,λw es n w' es' h=>by cases h⟩
 ·exact⟨D4 _,λw es n w' es' h=>by cases h⟩
theorem Oc(S:N0 P s)(fr:Frame)(o:Oper)(h:ER P s o.op=true):D0 P X (execOp fr.eval o)/\AW P (λn=>Bu n∨∃f args,Db P s f/\n=.enter f args) (execOp fr.eval o):=by
 have pl:D0 P X (execOp fr.eval o)/\AW P Bu (execOp fr.eval o)->D0 P X (execOp fr.eval o)/\AW P (λn=>Bu n∨∃f args,Db P s f/\n=.enter f args) (execOp fr.eval o) :=
  λ⟨a,b⟩=>⟨a,λw es n w' es' h=>.inl (b w es n w' es' h)⟩
 rcases Tj h with⟨f,as_,ats,hop,hf⟩|⟨b,as_,ats,hop,hb⟩|⟨r,name,as_,ats,hop,hm⟩|⟨a,b,x,hop,h1⟩|hp
 ·obtain⟨args,e⟩:=ZC fr.eval o hop rfl;rw[e];exact Mg S hf args
 ·exact pl (Th _ o hop hb)
 ·obtain⟨args,e⟩:=Ve fr.eval o hop;rw[e];exact ZD S hm _ args
 ·exact pl (Ti _ o hop h1)
 ·exact pl (WV _ o hp)
theorem ZE(S:N0 P s){f:FuncId}(h:s f=true)(hb:((P.funcs[f]?).bind (·.body)).isSome=true)(w:World):Db P s f:=by
 rcases S.out f h with h|h
 ·exact h
 exfalso
 cases hf:P.funcs[f]? with
 | none=>rw[hf] at hb;cases hb
 | some fn =>
  rw[hf] at hb
  have hb:fn.body.isNone=false:=by
   cases hx:fn.body with
   | none=>rw[Option.bind_some,hx] at hb;cases hb
   | some b=>rfl
  have e2:(callFunc f #[]).runT P w #[]=(.ok (if fn.name == "runtime.NumGoroutine" then .numGoroutine else .enter f #[]) w,#[]):=by
   unfold callFunc;show Sem.runT P (match P.funcs[f]? with|none=>_|some fn=>_) w #[]=_
   rw[hf];simp only[hb];cases fn.name == "runtime.NumGoroutine"<;>rfl
  have h1:=(h (λ_=>False) #[]).2 _ _ _ _ _ e2;rcases h1 with⟨v,e⟩|e<;>(split at e<;>cases e)
theorem Py{f:FuncId}(h:Db P s f)(args:Array Value):N8 P s (Frame.enter P f args .normal):=by
 obtain⟨fn,body,h1,h2,h3,_⟩:=h;refine⟨λi hi=>?_,rfl,rfl,rfl,fn,h1⟩;simp only[Frame.enter,h1,Option.bind_some,h2,Option.getD_some,C7] at hi;subst hi;exact h3
theorem Gc{fr:Frame}(h:N8 P s fr)(v:Value):N8 P s (fr.finish v):=by
 unfold Frame.finish;split
 ·rename_i ops i rest k ht;refine⟨λx hx=>?_,h.defers,h.kind,h.round,h.fn⟩;have hk:=h.todo;rw[ht] at hk;rcases List.mem_cons.1 hx with rfl|hx
  ·exact λj hj=>hk (.inRegion ops (i::rest)) (by simp) j (by simp[hj])
  ·exact hk x (by simp[hx])
 all_goals first|exact h|(rename_i ht;exfalso;have hk:=h.todo;rw[ht] at hk;exact hk _ (List.mem_cons_self ..))
theorem Kr{fr:Frame}(h:N8 P s fr)(c:List PanicEntry):N8 P s (fr.raise c):=by
 unfold Frame.raise;split<;>exact⟨h.todo,h.defers,h.kind,h.round,h.fn⟩
theorem Jx{fr:Frame}(h:N8 P s fr)(m:FrameMode):N8 P s {fr with mode:=m}:=⟨h.todo,h.defers,h.kind,h.round,h.fn⟩
theorem RF{fr:Frame}(h:N8 P s fr){l:List Item}(hl:∀i∈l,U2 P s i):N8 P s {fr with todo:=l}:=⟨hl,h.defers,h.kind,h.round,h.fn⟩
def R4(X:Nat->Prop)(w u:World):Prop:=∀n,U7 X n w u
theorem R4.on{n:Nat}{w u w' u':World}(h:R4 X w u)(ho:On X n w u w' u'):R4 X w' u':=λm=>by
 obtain⟨k,_,dw,du,hs⟩:=ho.drew
 exact⟨hs.size,hs.old,hs.same,hs.cov,hs.pend,hs.os,hs.output,λi q _=>by
  rw[ho.tw,ho.tu,dw,du,Nat.add_assoc,Nat.add_assoc];exact (h (k+i+1)).tape (k+i) q (by omega)⟩
theorem R4.self{n:Nat}{w u:World}(h:U7 X n w u):R4 (λ_=>False) w w:=λ_=>⟨rfl,λ_ h=>h.elim,λ_ _=>rfl,λ_ h=>h.elim,h.pend,rfl,rfl,λ_ _ _=>rfl⟩
theorem D0.sane{q:Sem α}(hq:D0 P (λ_=>False) q){n:Nat}{w u:World}(h:U7 X n w u){k:Halt}{w1:World}{es:Array Event}(e:q.runT P w #[]=(.halt k w1,es)):Du k=false:=by
 have ha:=hq (JR (q.runT P w #[]).1) w w #[] (R4.self h _) (.inl (Nat.le_add_left _ _));rw[e] at ha;exact ha.1
def Dj(P:Program)(X:Nat->Prop)(s:Nat->Bool)(n:Nat)(cu cw:List Frame)(w u:World)(su sw:GStep):Prop :=
 (R4 X w u->(∃o x es,su=.ended o x es)∨∃fr' new u' w' es,su=.go (G fr' (new++cu)) u' es/\sw=.go (G fr' (new++cw)) w' es/\N8 P s fr'/\(∀c∈new,N8 P s c)/\(∃m,On X m w u w' u')/\∀e∈es,Aj X e)/\
 (∀g1 w1 e1,sw=.go g1 w1 e1->w1.drawn<=w.drawn+n->(∃o x es,su=.ended o x es)∨∃fr' new u' w' es,su=.go (G fr' (new++cu)) u' es/\sw=.go (G fr' (new++cw)) w' es/\N8 P s fr'/\(∀c∈new,N8 P s c)/\On X n w u w' u'/\∀e∈es,Aj X e)
theorem EB(S:N0 P s){fr:Frame}{g:Nat}(hg:gN<=g)(cs:List Frame)(u:World):
  (∃o x es,early P fr cs none g u=.ended o x es)∨∃c e,u.heap[g]?=some (.pending c e)/\P.follows .staticDataAhead=false/\early P fr cs none g u=.go (G fr cs) {u with heap:=u.heap.setIfInBounds g (.cells c e)} #[]:=by
 unfold early;cases hf:P.follows .staticDataAhead with
 | true =>
  simp only[Bool.not_true,Bool.false_eq_true,if_false,S.step g hg];exact .inl ⟨_,_,_,rfl⟩
 | false =>
  simp only[Bool.not_false,if_true];cases ho:u.heap[g]? with
  | none=>exact .inl ⟨_,_,_,rfl⟩
  | some o =>
   cases o with
   | pending c e=>exact .inr ⟨c,e,rfl,trivial,rfl⟩
   | _=>exact .inl ⟨_,_,_,rfl⟩
theorem Ka(S:N0 P s){fr:Frame}(h:N8 P s fr){ops:Array Oper}{l:List Nat}{k:List Item}(ht:fr.todo=.inRegion ops l::k){q:Sem Next}(he:AW P (λn=>Bu n∨∃f args,Db P s f/\n=.enter f args) q)
  {cu cw:List Frame} {w u:World} {n:Nat} (ha:ON X n w u #[] (q.runT P w #[]) (q.runT P u #[])) :
  (∃o x es,stepG.apply P true fr cu none q u=.ended o x es)∨∃fr' new u' w' es,stepG.apply P true fr cu none q u=.go (G fr' (new++cu)) u' es/\stepG.apply P true fr cw none q w=.go (G fr' (new++cw)) w' es/\N8 P s fr'/\(∀c∈new,N8 P s c)/\On X n w u w' u'/\∀e∈es,Aj X e:=by
 have hk:(fr.kind==CallKind.early)=false:=by rw[h.kind];rfl
 generalize hu:q.runT P u #[]=ru at ha;unfold stepG.apply;simp only[hu,hk,ht,if_true,Bool.false_eq_true,if_false];match ru,hu,ha with
 | (.ok n u1,eu),hu,⟨hev,w1,hw,hon⟩ =>
  have hfine:∀e∈seen P fr.fn eu ++ #[],Aj X e:=λe hx=>by
   rw[Array.append_empty] at hx;exact (hev e (mem_seen hx)).elim (λhx=>by simp at hx) id
  rcases he _ _ _ _ _ hu with (⟨v,rfl⟩|rfl)|⟨f,args,hf,rfl⟩
  ·refine .inr ⟨fr.finish v,[],u1,w1,_,rfl,?_,Gc h v,by simp,hon,hfine⟩;simp only[hw,GStep.after];rfl
  ·refine .inr ⟨fr.finish undef,[],u1,w1,_,rfl,?_,Gc h undef,by simp,hon,hfine⟩;simp only[hw,GStep.after];rfl
  ·refine .inr ⟨Frame.enter P f args .normal,[fr],u1,w1,_,rfl,?_,Py hf args,by simpa using h,hon,hfine⟩;simp only[hw,GStep.after];rfl
 | (.halt k u1,eu),hu,⟨h0,hh⟩ =>
  cases k with
  | panic v =>
   obtain⟨hev,w1,hw,hon⟩:=hh rfl
   have hfine:∀e∈seen P fr.fn eu ++ #[],Aj X e:=λe hx=>by
    rw[Array.append_empty] at hx;exact (hev e (mem_seen hx)).elim (λhx=>by simp at hx) id
   refine .inr ⟨fr.raise [{v,recovered:=false}],[],u1,w1,_,rfl,?_,Kr h _,by simp,hon,hfine⟩;simp only[hw,GStep.after];rfl
  | stuck x=>exact .inl ⟨_,_,_,rfl⟩
  | unsupported x =>
   cases x with
   | initOrder g =>
    obtain⟨hev,w1,hw,hon⟩:=hh rfl;have hg:gN<=g:=by simpa [Du] using h0
    rcases EB (fr:=fr) S hg cu u1 with⟨o,x,es,e⟩|⟨c,t,hp,hfo,e⟩
    ·exact .inl ⟨o,x,seen P fr.fn #[]++es,by simp only[e,GStep.after]⟩
    ·obtain⟨k,hk',dw,du,hs⟩:=hon.drew;have hx:¬X g:=λhx=>by obtain⟨c',e',-,hu'⟩:=hs.cov _ hx;rw[hu'] at hp;cases hp
     have hp':w1.heap[g]?=some (.pending c t):=by rw[← hs.same g hx];exact hp
     have ew:early P fr cw none g w1=.go (G fr cw) {w1 with heap:=w1.heap.setIfInBounds g (.cells c t)} #[]:=by
      unfold early;simp only[hfo,Bool.not_false,if_true,hp'];rfl
     have hon2:=hs.setCells g c t (0,0) hx;refine .inr ⟨fr,[],{u1 with heap:=u1.heap.setIfInBounds g (.cells c t)},{w1 with heap:=w1.heap.setIfInBounds g (.cells c t)},seen P fr.fn #[] ++ #[],by simp only[e,GStep.after];rfl,by simp only[hw,ew,GStep.after];rfl,h,by simp,⟨hon.tw,hon.tu,k,hk',dw,du,hon2.sim⟩,λe he=>?_⟩;rw[seen_none] at he;simp at he
   | _=>first|(cases h0;done)|exact .inl ⟨_,_,_,rfl⟩
  | _=>cases h0
theorem QX(S:N0 P s){fr:Frame}(h:N8 P s fr){ops:Array Oper}{l:List Nat}{k:List Item}(ht:fr.todo=.inRegion ops l::k){q:Sem Next}(hq:D0 P (λ_=>False) q)(he:AW P (λn=>Bu n∨∃f args,Db P s f/\n=.enter f args) q)
  {cw:List Frame} {w u:World} {n:Nat} (hs:U7 X n w u) {g1:Goroutine} {w1:World} {e1:Array Event} (hst:stepG.apply P true fr cw none q w=.go g1 w1 e1):JR (q.runT P w #[]).1=w1.drawn:=by
 have hk:(fr.kind==CallKind.early)=false:=by rw[h.kind];rfl
 have sane:=λk w1 es=>D0.sane hq hs (k:=k) (w1:=w1) (es:=es);unfold stepG.apply at hst;generalize hu:q.runT P w #[]=ru at hst;simp only[hk,ht,if_true,Bool.false_eq_true,if_false] at hst;match ru,hu,hst with
 | (.ok n u1,eu),hu,hst =>
  rcases he _ _ _ _ _ hu with (⟨v,rfl⟩|rfl)|⟨f,args,hf,rfl⟩<;>(simp only[GStep.after] at hst;cases hst;rfl)
 | (.halt k u1,eu),hu,hst =>
  have h0:=sane k u1 eu hu;cases k with
  | panic v=>simp only[GStep.after] at hst;cases hst;rfl
  | stuck x=>simp only[GStep.after] at hst;cases hst
  | unsupported x =>
   cases x with
   | initOrder g =>
    have hg:gN<=g:=by simpa [Du] using h0
    rcases EB (fr:=fr) S hg cw u1 with⟨o,x,es,e⟩|⟨c,t,hp,hfo,e⟩
    ·simp only[e,GStep.after] at hst;cases hst
    ·simp only[e,GStep.after] at hst;cases hst;rfl
   | _=>first|(cases h0;done)|(simp only[GStep.after] at hst;cases hst)
  | _=>cases h0
theorem NU(S:N0 P s){fr:Frame}(h:N8 P s fr){ops:Array Oper}{l:List Nat}{k:List Item}(ht:fr.todo=.inRegion ops l::k){q:Sem Next}(hq:D0 P X q)(hq0:D0 P (λ_=>False) q)(he:AW P (λn=>Bu n∨∃f args,Db P s f/\n=.enter f args) q)
  {cu cw:List Frame} {w u:World} {n:Nat} (hs:U7 X n w u):Dj P X s n cu cw w u (stepG.apply P true fr cu none q u) (stepG.apply P true fr cw none q w):=by
 constructor
 ·intro hf;rcases Ka S h ht he (cu:=cu) (cw:=cw) (hq (JR (q.runT P u #[]).1) w u #[] (hf _) (.inr (Nat.le_add_left _ _))) with h1|⟨fr',new,u',w',es,a1,a2,a3,a4,a5,a6⟩
  ·exact .inl h1
  ·exact .inr ⟨fr',new,u',w',es,a1,a2,a3,a4,⟨_,a5⟩,a6⟩
 ·intro g1 w1 e1 hst hd;exact Ka S h ht he (hq n w u #[] hs (.inl (by rw[QX S h ht hq0 he hs hst];exact hd)))
end
end Go.Proofs.YtmfjakieahkacaaGreatDoor
namespace Go.Proofs.YtmfjakieahkacaaGreatDoor
open Go.RowKit
set_option maxRecDepth 20000 in
set_option maxHeartbeats 4000000 in
theorem NW(b:Bk)(v:Value)(nm:ByteArray)(w:World)(h:K0 w v b):
  Calls Tryz.prog 114 #[v,.string nm] w λe w'=>(∃v',e=.returned (.tuple #[v',.int .i64 (Dw b nm)])/\O5 w' w.heap.size v' (Bq b nm))/\Below w.heap.size w w':=by
 obtain⟨a1,c1,a2,c2,rfl,-,-⟩:=h.parts;obtain⟨ii,hi,iz0,iz1,iz2⟩:=info_parts Cq;obtain⟨W1,hW1,kA,kR,hB1,hs1⟩:=cbE2 w [.slice a1 (b).tg.length c1,.slice a2 (b).bs.length c2] 26 [.slice none 0 0,.slice none 0 0] 26;go_enter Tryz.func114,Tryz.ntmps114;go_upto_region 1 with fail;try rw[hW1]
 clear hW1;have hk:=h.up hB1;clear h;obtain⟨e0,e1⟩:=kA.c2';go_wp2_with fail;refine (CY b _ _ hk).mono ?_;rintro e w2 ⟨rfl,hb2⟩;have hz2:=hb2.size;have kA:=kA.up hb2 (by omega);have kR:=kR.up hb2 (by omega);have hk:=hk.up hb2;have hB:=D1 hB1 hb2;clear e0 e1 hB1 hb2;cases hok:I1 b
 ·obtain⟨⟨y0,y1⟩,f0,f1⟩:=kR.c2;have HC:Hid (Dw b nm=1/\Bq b nm=S7):=Pc hok;go_wp2_with fail;refine S3 Tryz.results114 Tryz.underlying26 rfl L9 kR rfl rfl ?_;exact⟨⟨_,BZ HC.out.1.symm,by rw[HC.out.2];exact FF _ _⟩,I7 hB (Nat.le_succ _) _ _⟩
 obtain⟨e0,e1⟩:=kA.c2';go_wp2_with fail;refine (Ga b _ _ hk (Bj hok)).mono ?_;rintro e w3 ⟨⟨xv,rfl,hX⟩,hb3⟩;obtain⟨a3,c3,a4,c4,ps,rfl,x1,x2,x3⟩:=hX.parts;have hz3:=hb3.size;have kA:=kA.up hb3 (by omega);have kR:=kR.up hb3 (by omega);have hk:=hk.up hb3;have hB:=D1 hB hb3;clear e0 e1 hb3 hX;go_upto_region 4 with fail;obtain⟨W4,hW4,kX,hb4,hs4⟩:=cbE1 w3 [.slice a3 b.tg.length c3,.slice a4 b.bs.length c4] 26;rw[hW4];clear hW4;have kA:=kA.up hb4 (by omega);have kR:=kR.up hb4 (by omega);have hk:=hk.up hb4;have hB:=D1 hB hb4;have X1:=x1;have X2:=x2;have hL:=hb4;have x1:=x1.up hb4;have x2:=x2.up hb4;clear hb4;obtain⟨e0,e1⟩:=kA.c2';go_wp2_with fail;refine (FG b _ nm _ hk).mono ?_;rintro e w5 ⟨rfl,hb5⟩;have hz5:=hb5.size;have kR:=kR.up hb5 (by omega);have kX:=kX.up hb5 (by omega);have hB:=D1 hB hb5;have x1:=x1.up hb5;have x2:=x2.up hb5;have hL:=D1 hL hb5;clear e0 e1 hb5 kA hk;cases hm:D2 (I9 b.bs) nm
 ·have HC:Hid (Dw b nm=3/\Bq b nm=b):=KU hok hm;rw[BH hm];obtain⟨⟨y0,y1⟩,f0,f1⟩:=kR.c2;obtain⟨⟨z0,z1⟩,-⟩:=kX.c2;go_wp2_with fail;refine S3 Tryz.results114 Tryz.underlying26 rfl L9 kR rfl rfl ?_;refine⟨⟨_,BZ HC.out.1.symm,?_⟩,I7 hB (Nat.le_succ _) _ _⟩;rw[HC.out.2];exact ((O5.set (O5.set ⟨_,_,ps,rfl,x1,x2,x3⟩ (by omega)) (by omega)).low (by omega))
 have HC:Hid (Dw b nm=0/\Bq b nm=⟨b.tg,b.bs.take (I3 b nm)++b.bs.drop (I3 b nm+1)⟩):=MT hok hm;obtain⟨hidx,hlt⟩:=Dv hm;rw[hidx];generalize I3 b nm=p at *;have hn5:=(Bj hok).2.1;have hps:ps.length=b.bs.length:=by rw[← x3,B5]
 have hrow:=x2.1;rw[hps] at hrow;obtain⟨g,cp,hgp⟩:=T7 hrow (by omega);obtain⟨rfl,-,rfl⟩:=Value.slice.inj hgp;clear hgp hidx hm;obtain⟨hc4,hc9⟩:=Pi hrow;have hgl:=hrow.lt g rfl;obtain⟨⟨z0,z1⟩,-⟩:=kX.c2;have hS1:World.cell? w5.drew ⟨w3.heap.size,1,none⟩=some (.slice (some ⟨g,0,none⟩) b.bs.length c4):=z1;clear z0 z1;unfold maxLen at hc9;have hpc:p<=c4:=by omega
 have hp1:p+1<=b.bs.length:=hlt;have hw1:IntKind.i64.wrap ((p:Int)+1)=(p:Int)+1:=by rw[IntKind.wrap_i64];omega
 have hw2:(p:Int)+1<=(b.bs.length:Int):=by omega
 have hw3:0<=(p:Int)+1:=by omega
 have hw4:¬(b.bs.length:Int)<(p:Int)+1:=by omega
 obtain⟨o2,ho2,hq2⟩:∃o2:Nat,(if c4=p+1 then some (⟨g,0,none⟩:Addr) else some ⟨g,(p+1)*3,none⟩)=some ⟨g,o2,none⟩/\(b.bs.length-(p+1)≠0->o2=(p+1)*3):=by
  by_cases h7:c4=p+1
  ·exact⟨0,by rw[if_pos h7],λh=>by omega⟩
  ·exact⟨(p+1)*3,by rw[if_neg h7],λ_=>rfl⟩
 go_wp2_with fail;refine M4 13 (λw'=>World.cell? w' ⟨w3.heap.size,1,none⟩=some (.slice (some ⟨g,0,none⟩) b.bs.length c4)) (by kernel_rfl) ?_;refine E6 1 rfl hS1 ?_;refine E6 2 rfl hS1 ?_;refine E6 3 rfl hS1 ?_;refine E6 4 rfl hS1 ?_;refine E6 6 rfl hS1 ?_;refine E6 7 rfl hS1 ?_;refine E6 8 rfl hS1 ?_;refine E6 9 rfl hS1 ?_;refine E6 10 rfl hS1 ?_;have hrowL:=(Ot hrow).alloc (.cells #[] 49);have hown0:(w5.drew.alloc (.cells #[] 49)).ownsRow w5.heap.size 49 3 (.slice (some ⟨w5.heap.size,0,none⟩) 0 0) 0 []:=C0 w5.drew #[] 0 (A3 _) (by unfold maxLen;omega) rfl;have hb0:Below w5.heap.size w5 (w5.drew.alloc (.cells #[] 49)):=((A4 w5.heap.size w5).drew).alloc (A3 _) _;have hSl:World.cell? (w5.drew.alloc (.cells #[] 49)) ⟨w3.heap.size,1,none⟩=some (.slice (some ⟨g,0,none⟩) b.bs.length c4):=(hb0.cell (p:=⟨w3.heap.size,1,none⟩) (by show w3.heap.size<_;omega)).trans hS1;refine K4 0 rfl (λK hK=>?_);go_simp;refine K9 hK hSl ?_;clear hK K;have hsrc1:=Fe hrowL 0 (ps.take p) (Rx ps p);have hone1:=x2.one (ps.take p) (λq hq=>List.mem_of_mem_take hq);have hone2:=x2.one (ps.drop (p+1)) (λq hq=>List.mem_of_mem_drop hq);have hlen1:(I8 (ps.take p)).length=p*3:=by rw[Ci,B8];omega
 have hlen2:(I8 (ps.drop (p+1))).length=(b.bs.length-(p+1))*3:=by rw[Ci,List.length_drop];omega
 refine K4 5 rfl (λK hK=>?_);refine O0 rfl _ _ 24 rfl w5.heap.size 49 ii _ 3 64 Tryz.underlying24 hi iz0 iz1 iz2 rfl (by decide) _ 0 [] rfl hown0 ⟨g,0,none⟩ p c4 (I8 (ps.take p)) rfl hlen1 hsrc1 hone1 (by unfold maxLen;omega) (by omega) hb0.size ?_;intro v1 w6 hown6 hgr6;have hb6:=N5 hb0 hown0 hgr6 (A3 _);have hrow6:=S9 hrowL hgr6 (Xd (R3 hown0 hgl.2));have hS6:World.cell? w6 ⟨w3.heap.size,1,none⟩=some (.slice (some ⟨g,0,none⟩) b.bs.length c4):=(hb6.cell (p:=⟨w3.heap.size,1,none⟩) (by show w3.heap.size<_;omega)).trans hS1
 have hsrc2:∀(j:Nat)(u:Value),(I8 (ps.drop (p+1)))[j]?=some u->w6.cell? ((⟨g,o2,none⟩:Addr).add j)=some u:=λj u hu=>by
  have hj:=(A2.1 hu).1;rw[hq2 (by omega)];exact Fe hrow6 (p+1) (ps.drop (p+1)) (Ry ps (p+1)) j u hu
 clear hrowL hsrc1 hgr6 hrow6 hSl;refine K9 hK hS6 ?_;clear hK K;refine K4 11 rfl (λK hK=>?_);refine O0 rfl _ _ 24 rfl w5.heap.size 49 ii _ 3 64 Tryz.underlying24 hi iz0 iz1 iz2 rfl (by decide) v1 _ _ rfl hown6 ⟨g,o2,none⟩ (b.bs.length-(p+1)) _ (I8 (ps.drop (p+1))) rfl hlen2 hsrc2 hone2 (by unfold maxLen;omega) (by omega) hb6.size ?_;intro v2 w7 hown7 hgr7;have hb7:=N5 hb6 hown6 hgr7 (A3 _);have hS7:World.cell? w7 ⟨w3.heap.size,1,none⟩=some (.slice (some ⟨g,0,none⟩) b.bs.length c4):=(hb7.cell (p:=⟨w3.heap.size,1,none⟩) (by show w3.heap.size<_;omega)).trans hS1;have kX7:=kX.up hb7 (by omega);have kR7:=kR.up hb7 (by omega);have hBB:=D1 hB hb7;obtain⟨a7,c7,rfl⟩:=K3 hown7;obtain⟨⟨j0,j1⟩,m0,m1⟩:=kX7.c2;clear hsrc2 hgr7 hown6 hown0 hS6 hb6 hb0;refine K9 hK hS7 ?_;clear hK K;refine E6 12 rfl hS7 ?_;refine K4 13 rfl (λK hK=>?_);go_simp;refine Cj hK ?_;clear hK K;refine N2 (by kernel_rfl) ?_ _;have hV:(.slice a7 (0+p+(b.bs.length-(p+1))) c7:Value)=.slice a7 (p+(b.bs.length-(p+1))) c7:=by rw[Nat.zero_add]
 rw[hV] at hown7;have hx3:w3.heap.size<w5.heap.size:=by omega
 generalize hU:(Value.slice a7 (p+(b.bs.length-(p+1))) c7)=u7 at *;have kX8:CB (w7.setCell ⟨w3.heap.size,1,none⟩ u7) w3.heap.size [.slice a3 b.tg.length c3,u7]:=kX7.set (j:=1) (by simp);have kR8:CB (w7.setCell ⟨w3.heap.size,1,none⟩ u7) (w.heap.size+1) [.slice none 0 0,.slice none 0 0]:=kR7.other (by omega);have hL8:Below w3.heap.size w3 (w7.setCell ⟨w3.heap.size,1,none⟩ u7):=((hL.trans (hb7.mono (by omega))).setCell (p:=⟨w3.heap.size,1,none⟩) (A3 _) _);have hB8:Below w.heap.size w (w7.setCell ⟨w3.heap.size,1,none⟩ u7):=hBB.setCell (p:=⟨w3.heap.size,1,none⟩) (by show _<=w3.heap.size;omega) _;have hrow8:(w7.setCell ⟨w3.heap.size,1,none⟩ u7).ownsRow w5.heap.size 49 3 u7 _ _:=G9 hown7 (E3 (F7 _ _) _) hx3;have x18:=X1.up hL8
 have hW8:Bp (w7.setCell ⟨w3.heap.size,1,none⟩ u7) w2.heap.size u7 (ps.take p++ps.drop (p+1)):=IU (N3 hrow8 (by omega)) (by rw[IR];rfl) (by rw[A8,B8,List.length_drop];omega) (λq hq=>by
  have hq':q∈ps:=by
   rcases C6.1 hq with h|h
   ·exact List.mem_of_mem_take h
   ·exact List.mem_of_mem_drop h
  obtain⟨q1,q2,q3⟩:=X2.2 q hq';exact⟨q1.up hL8,q2.up hL8,q3⟩)
 have HM:Hid ((ps.take p++ps.drop (p+1)).map (·.1)=b.bs.take p++b.bs.drop (p+1)):=by
  show _=_
  rw[← x3,List.map_append,List.map_take,List.map_drop]
 subst hU;clear hS1 hS7 hown7 kX7 kR7 j0 j1 m0 m1 hb7 hBB hrow8 X1 X2 x1 x2 kX kR hB hL hL8;generalize w7.setCell ⟨w3.heap.size,1,none⟩ (.slice a7 (p+(b.bs.length-(p+1))) c7)=W8 at *;obtain⟨⟨y0,y1⟩,f0,f1⟩:=kR8.c2;obtain⟨⟨z0,z1⟩,-⟩:=kX8.c2;go_wp2_with fail;refine S3 Tryz.results114 Tryz.underlying26 rfl L9 kR8 rfl rfl ?_;refine⟨⟨_,BZ HC.out.1.symm,?_⟩,I7 hB8 (Nat.le_succ _) _ _⟩;rw[HC.out.2];exact ((O5.set (O5.set (b:=⟨b.tg,b.bs.take p++b.bs.drop (p+1)⟩) ⟨_,_,_,rfl,x18,hW8,HM.out⟩ (by omega)) (by omega)).low (by omega))
end Go.Proofs.YtmfjakieahkacaaGreatDoor
