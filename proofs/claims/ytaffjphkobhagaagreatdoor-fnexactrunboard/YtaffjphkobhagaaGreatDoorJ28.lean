/- A lone run among others who make blocks too, 10: append, conversions, strings out of bytes. -/
import Derived.Test.YtaffjphkobhagaaGreatDoorJr9
import Derived.Test.YtaffjphkobhagaaGreatDoorJ26
namespace Go.Proofs.YtaffjphkobhagaaGreatDoor
variable{es es':Array Event}{ops:Array Oper}{xs:Array Operand}{ats:Array TypeId}{args args':Array Value}{ok:Bool}{nm:BA}{e:Code}{fr fr':Frame}{fn:Func}{g1:Goroutine}{kd:IntKind}{l ss:List BA}{bu bw cs l' seg seg':List Frame}{rest:List Nat}{i id n:Nat}{o:Oper}{ty:TypeId}{u' u1 w':World}
namespace Bd
open Go.Conc
section
variable {P:Program} {r:Rn} {v v' x x' y y':Value} {a a' b b':Addr} {c c':Array Value}
theorem F1.zeros(h:F1 r c c')(n:Nat):F1 r (Builtin.zeroCells c n) (Builtin.zeroCells c' n):=by
 unfold Builtin.zeroCells;rw[h.size];have:=h.rows (n*c'.size);rw[h.size] at this;exact this
def aOk(P:Program)(t:Array TypeId):Bool:=match t[0]?,t[1]? with
 | some s,some x=>(match P.underlying x with|some (.int _)=>false|_=>true)&&(match P.underlying s with|some (.slice e)=>JQ P e|_=>true)
 | _,_=>false
theorem RS.append{t:Array TypeId}(ty:TypeId)(ho:aOk P t=true)(h:VR r x x')(hy:VR r y y'):RS P r Qv (Builtin.append_ t ty #[x,y]) (Builtin.append_ t ty #[x',y']):=by
 unfold aOk at ho;cases h0:t[0]? with
 | none=>rw[h0] at ho;cases ho
 | some t0 =>
  cases h1:t[1]? with
  | none=>rw[h0,h1] at ho;cases ho
  | some t1 =>
   rw[h0,h1] at ho;simp only[Bool.and_eq_true] at ho;unfold Builtin.append_;rw[h0,h1];show RS P r Qv (underlying t0 >>= _) (underlying t0 >>= _)
   refine RS.bind (RS.undK t0) λr1 d d' k1 hd=>?_;obtain⟨rfl,hd⟩:=hd;rw[hd] at ho;cases d' with
   | slice elem =>
    have hz:JQ P elem=true:=ho.2;have hx:=h.mono k1;have hy:=hy.mono k1
    have a1:∀d,P.underlying t1=some d->(match d with | .int _=>true|_=>false)=false:=λd hd=>by
     grind
    cases hx with
    | sl n cp ha =>
     refine RS.bind (RS.size elem) λr2 sz sz' k2 hs=>?_;cases hs
     refine RS.bind (RS.undK t1) λr3 d d' k3 a0=>?_;obtain⟨rfl,a0⟩:=a0;refine RS.bind (A:=λ_ z z'=>z=false/\z'=false) (.pure ⟨a1 _ a0,a1 _ a0⟩) λr4 z z' k4 hzz=>?_;obtain⟨rfl,rfl⟩:=hzz;simp only[Bool.not_false,if_true,Bool.false_eq_true,if_false,false_or];refine RS.bind (RS.lenOf (hy.mono (k2.trans (k3.trans k4)))) λr5 m m' k5 hm=>?_;cases hm
     by_cases e:n+m<=cp
     .rw[if_pos e,if_pos e];refine RS.bind (RS.first sz m (hy.mono (k2.trans (k3.trans (k4.trans k5))))) λr6 q q' k6 hq=>?_;exact RS.bind (RS.storeCells ((ha.mono (k2.trans (k3.trans (k4.trans (k5.trans k6))))).add _) hq) λr7 _ _ k7 _=>.pure (.sl _ _ (ha.mono (k2.trans (k3.trans (k4.trans (k5.trans (k6.trans k7)))))))
     .rw[if_neg e,if_neg e];refine RS.bind (RS.info elem) λr6 i i' k6 hi=>?_;obtain⟨rfl,_⟩:=hi;by_cases e2:((n+m:Nat):Int) > IntKind.i64.max/\i'.bytes=0
      .rw[if_pos e2];exact RS.never (E7.seq (J7 _))
      .rw[if_neg e2,if_neg e2];refine RS.bind (RS.info elem) λr7 i i' k7 hi=>?_;obtain⟨rfl,_⟩:=hi;by_cases e3:Builtin.nextslicecap (n+m) cp*i'.bytes > 2 ^ 48
       .rw[if_pos e3];refine RS.never (E7.seq (E7.bind λs=>?_));split
        .exact E7.bind λ_=>E7.halt _
        .exact E7.halt _
       .rw[if_neg e3,if_neg e3];refine RS.bind (RS.choose _) λr8 nc nc' k8 hn=>?_;cases hn
        refine RS.bind (RS.info elem) λr9 i i' k9 hi=>?_;obtain⟨rfl,_⟩:=hi;refine RS.bind (RS.room _) λr10 _ _ k10 _=>?_;refine RS.bind (RS.first sz n (VR.sl n cp (ha.mono (k2.trans (k3.trans (k4.trans (k5.trans (k6.trans (k7.trans (k8.trans (k9.trans k10))))))))))) λr11 old old' k11 ho=>?_;refine RS.bind (RS.first sz m (hy.mono (k2.trans (k3.trans (k4.trans (k5.trans (k6.trans (k7.trans (k8.trans (k9.trans (k10.trans k11))))))))))) λr12 nw nw' k12 hw=>?_;refine RS.bind (RS.zero hz) λr13 z z' k13 hzz=>?_;exact RS.bind (RS.newRow ((((ho.mono k12).mono k13).append (hw.mono k13)).append (hzz.cells.zeros _))) λr14 q q' k14 hq=>.pure (.sl _ _ hq)
    | sl0 n cp =>
     refine RS.bind (RS.size elem) λr2 sz sz' k2 hs=>?_;cases hs
     refine RS.bind (RS.undK t1) λr3 d d' k3 a0=>?_;obtain⟨rfl,a0⟩:=a0;refine RS.bind (A:=λ_ z z'=>z=false/\z'=false) (.pure ⟨a1 _ a0,a1 _ a0⟩) λr4 z z' k4 hzz=>?_;obtain⟨rfl,rfl⟩:=hzz;simp only[Bool.not_false,if_true,Bool.false_eq_true,if_false,false_or];refine RS.bind (RS.lenOf (hy.mono (k2.trans (k3.trans k4)))) λr5 m m' k5 hm=>?_;cases hm
     by_cases e:n+m<=cp
     .rw[if_pos e,if_pos e];refine RS.bind (RS.first sz m (hy.mono (k2.trans (k3.trans (k4.trans k5))))) λr6 q q' k6 hq=>?_;exact .pure (.sl0 _ _)
     .rw[if_neg e,if_neg e];refine RS.bind (RS.info elem) λr6 i i' k6 hi=>?_;obtain⟨rfl,_⟩:=hi;by_cases e2:((n+m:Nat):Int) > IntKind.i64.max/\i'.bytes=0
      .rw[if_pos e2];exact RS.never (E7.seq (J7 _))
      .rw[if_neg e2,if_neg e2];refine RS.bind (RS.info elem) λr7 i i' k7 hi=>?_;obtain⟨rfl,_⟩:=hi;by_cases e3:Builtin.nextslicecap (n+m) cp*i'.bytes > 2 ^ 48
       .rw[if_pos e3];refine RS.never (E7.seq (E7.bind λs=>?_));split
        .exact E7.bind λ_=>E7.halt _
        .exact E7.halt _
       .rw[if_neg e3,if_neg e3];refine RS.bind (RS.choose _) λr8 nc nc' k8 hn=>?_;cases hn
        refine RS.bind (RS.info elem) λr9 i i' k9 hi=>?_;obtain⟨rfl,_⟩:=hi;refine RS.bind (RS.room _) λr10 _ _ k10 _=>?_;refine RS.bind (RS.first sz n (VR.sl0 n cp)) λr11 old old' k11 ho=>?_;refine RS.bind (RS.first sz m (hy.mono (k2.trans (k3.trans (k4.trans (k5.trans (k6.trans (k7.trans (k8.trans (k9.trans (k10.trans k11))))))))))) λr12 nw nw' k12 hw=>?_;refine RS.bind (RS.zero hz) λr13 z z' k13 hzz=>?_;exact RS.bind (RS.newRow ((((ho.mono k12).mono k13).append (hw.mono k13)).append (hzz.cells.zeros _))) λr14 q q' k14 hq=>.pure (.sl _ _ hq)
    | _=>exact .halt
   | _=>exact .halt
end
section
variable {P:Program} {r:Rn} {v v' x x' y y':Value} {a a' b b':Addr} {c c':Array Value}
theorem RS.bytes(h:VR r x x'):RS P r Qv (Conv.bytesToString x) (Conv.bytesToString x'):=by
 unfold Conv.bytesToString;cases h with
 | sl0 n c=>exact .pure (.string _)
 | sl n c ha =>
  dsimp only
  refine RS.bind (RS.loadCells ha n) λr1 q q' k1 hq=>?_
  have a0:∀(l l':List Value)(s:BA) {r:Rn},l.length=l'.length->(∀(i:Nat)(v v':Value),l[i]?=some v->l'[i]?=some v'->VR r v v')->RS P r Qe (forIn l s λc s=>(match c with | .int .u8 n=>Pure.pure (ForInStep.yield (s.push (UInt8.ofNat n.toNat)))|_=>stuck "bytesToString: byte expected":Sem (ForInStep BA))) (forIn l' s λc s=>(match c with | .int .u8 n=>Pure.pure (ForInStep.yield (s.push (UInt8.ofNat n.toNat)))|_=>stuck "bytesToString: byte expected":Sem (ForInStep BA))):=by
   intro l;induction l with
   | nil=>intro l' s r hl h;cases l' with
    | nil=>exact .pure rfl
    | cons _ _=>simp at hl
   | cons v l ih =>
    intro l' s r hl h;cases l' with
    | nil=>simp at hl
    | cons v' l' =>
     rw[List.forIn_cons,List.forIn_cons];have hv:=h 0 v v' rfl rfl;refine RS.bind (A:=λ_ s s'=>s'=s/\∃b,s=ForInStep.yield b) ?_ λr1 s s' k1 hs=>?_
     .cases hv with
      | int k n=>cases k<;>first|exact .pure ⟨rfl,_,rfl⟩|exact .halt
      | _=>exact .halt
     .obtain⟨rfl,b,rfl⟩:=hs;exact ih l' b (by simpa using hl) λi x x' h1 h2=>(h (i+1) x x' (by simpa using h1) (by simpa using h2)).mono k1
  have e:∀(q:Array Value)(s:BA),(forIn q s λc s=>(match c with | .int .u8 n=>Pure.pure (ForInStep.yield (s.push (UInt8.ofNat n.toNat)))|_=>stuck "bytesToString: byte expected":Sem (ForInStep BA)))=(forIn q.toList s λc s=>(match c with | .int .u8 n=>Pure.pure (ForInStep.yield (s.push (UInt8.ofNat n.toNat)))|_=>stuck "bytesToString: byte expected":Sem (ForInStep BA))):=λq s=>by rw[Array.forIn_toList]
  have h1:=a0 q.toList q'.toList ByteArray.empty (r:=r1) (by simpa using hq.size) λi x x' h1 h2=>hq.get i x x' (by simpa using h1) (by simpa using h2);rw[← e,← e] at h1;exact RS.bind h1 λ_ _ _ _ h=>by cases h;exact .pure (.string _)
 | _=>exact .halt
theorem RS.cellsIn{b b':Nat}(h:r.B b b'):RS P r Qe (cellsIn b) (cellsIn b'):=by
 unfold Go.cellsIn;refine RS.bind (RS.shape h) λr1 s s' k1 hs=>?_;cases hs
 have rest:RS P r1 Qe (Go.getObj b >>= λo=>(match o with | .pending c _=>Pure.pure (some c.size)|_=>Pure.pure none:Sem (Option Nat))) (Go.getObj b' >>= λo=>(match o with | .pending c _=>Pure.pure (some c.size)|_=>Pure.pure none)):=RS.bind (RS.getObj (h.mono k1)) λr2 o o' k2 ho=>by cases ho<;>exact .pure rfl
 cases s with
 | none=>exact rest
 | some q=>exact .pure rfl
theorem RS.seenAt(h:r.A a a'):RS P r Qa (Conv.seenAt a) (Conv.seenAt a'):=by
 unfold Conv.seenAt;refine RS.bind (RS.viewAt h.b) λr1 o o' k1 ho=>?_;rcases ho with⟨rfl,rfl⟩|⟨z,z',t,rfl,rfl,hz⟩
 .exact .pure (h.mono k1)
 .dsimp only
  rw[h.off,h.s,h.s'];by_cases e:(decide (a.off=0)&&(none:Option Nat).isNone)=true
  .rw[if_pos e,if_pos e];exact .pure hz
  .rw[if_neg e,if_neg e];rw[hz.s,hz.s'];refine RS.program ?_;cases hb:byteOfCell P P.depth t a.off with
   | none=>exact .halt
   | some β =>
    refine RS.bind (RS.shape hz.b) λr2 s s' k2 hs=>?_;cases hs
    cases s with
    | none=>exact .halt
    | some q =>
     obtain⟨e,a0⟩:=q;dsimp only
     by_cases e0:P.cellsOf e=0
     .rw[if_pos e0];exact RS.never (E7.seq (E7.halt _))
     .rw[if_neg e0,if_neg e0,hz.off];cases hc:cellAtBytes P P.depth e _ z.off β with
      | none=>exact .halt
      | some c=>exact .pure ⟨(hz.mono k2).b,rfl,rfl,rfl⟩
theorem RS.variablesAt(h:r.A a a')(t:TypeId)(n:Nat):RS P r Qe (variablesAt a t n) (variablesAt a' t n):=by
 unfold Go.variablesAt;refine RS.program ?_;refine RS.bind (RS.shape h.b) λr1 s s' k1 hs=>?_;cases hs
 rw[h.off];cases s with
 | none=>exact .pure rfl
 | some q=>exact .pure rfl
inductive Af9 (P:Program) (s t:TypeId):Prop
 | int (j k:IntKind) (h1:P.underlying s=some (.int j)) (h2:P.underlying t=some (.int k))
 | bytes (e:TypeId) (h1:P.underlying s=some (.slice e)) (h2:P.underlying t=some .string) (h3:P.underlying e=some (.int .u8))
 | out (e:TypeId) (h1:P.underlying s=some (.pointer e)) (h2:P.underlying t=some .unsafePointer) (h3:EW P e)
 | back (e:TypeId) (h1:P.underlying s=some .unsafePointer) (h2:P.underlying t=some (.pointer e)) (h3:EW P e)
theorem RS.undIs{t:TypeId}{d:TypeDesc}(h:P.underlying t=some d):RS P r (λ_ x x'=>x=d/\x'=d) (underlying t) (underlying t):=by
 refine (RS.undK t).mono λr a a' hh=>?_;grind
theorem RS.unsafePtr{s t:TypeId}(ho:(∃e,P.underlying s=some (.pointer e)/\P.underlying t=some .unsafePointer/\EW P e)\/∃e,P.underlying s=some .unsafePointer/\P.underlying t=some (.pointer e)/\EW P e)(h:VR r x x'):RS P r Qv (Conv.unsafePointer s t x) (Conv.unsafePointer s t x'):=by
 unfold Conv.unsafePointer;rcases ho with⟨e,h1,h2,h3⟩|⟨e,h1,h2,h3⟩
 .refine RS.bind (RS.undIs h1) λr1 d d' k1 hd=>?_;obtain⟨rfl,rfl⟩:=hd;refine RS.bind (RS.undIs h2) λr2 d d' k2 hd=>?_;obtain⟨rfl,rfl⟩:=hd;cases h with
  | ptr0=>exact .pure .ptr0
  | ptr ha =>
   dsimp only
   refine RS.bind (RS.seenAt (ha.mono (k1.trans k2))) λr3 q q' k3 hq=>?_;refine RS.bind (RS.cellsIn hq.b) λr4 o o' k4 hoo=>?_;cases hoo
   have a1:∀{r5:Rn} (k:r4.le r5) (nothing:Bool),RS P r5 Qv (sizeOf e >>= λn=>if (decide (n=0) || nothing)=true then (do Pure.pure (.pointer (some ⟨← newObj (.view q e),0,none⟩))) else Pure.pure (.pointer (some q))) (sizeOf e >>= λn=>if (decide (n=0) || nothing)=true then (do Pure.pure (.pointer (some ⟨← newObj (.view q' e),0,none⟩))) else Pure.pure (.pointer (some q'))):=λ{r5} k nothing=>by
    refine RS.bind (RS.size e) λr6 n n' k6 hn=>?_;cases hn
    have a2:=(hq.mono (k4.trans k)).mono k6;split
    .exact RS.bind (RS.newV a2 h3) λ_ _ _ _ hb=>.pure (.ptr ⟨hb,rfl,rfl,rfl⟩)
    .exact .pure (.ptr a2)
   rw[hq.off,hq.s,hq.s'];cases o with
   | none=>exact a1 (.refl _) false
   | some cells=>exact a1 (.refl _) _
  | _=>exact .halt
 .refine RS.bind (RS.undIs h1) λr1 d d' k1 hd=>?_;obtain⟨rfl,rfl⟩:=hd;refine RS.bind (RS.undIs h2) λr2 d d' k2 hd=>?_;obtain⟨rfl,rfl⟩:=hd;cases h with
  | ptr0=>exact .pure .ptr0
  | ptr ha =>
   dsimp only
   refine RS.bind (RS.seenAt (ha.mono (k1.trans k2))) λr3 q q' k3 hq=>?_;refine RS.bind (RS.size e) λr4 n n' k4 hn=>?_;cases hn
   refine RS.bind (RS.variablesAt (hq.mono k4) e 1) λr5 z z' k5 hz=>?_;cases hz
   have a0:=(hq.mono k4).mono k5;by_cases e1:(decide (n=0) || z)=true
   .rw[if_pos e1,if_pos e1];exact .pure (.ptr a0)
   .rw[if_neg e1,if_neg e1];refine RS.bind (RS.shape a0.b) λr6 o o' k6 ho=>?_;cases ho
    cases o with
    | none=>exact RS.never (E7.seq (E7.halt _))
    | some q2 =>
     obtain⟨e2,m⟩:=q2;refine RS.program (RS.program ?_);by_cases e3:P.holdsStoodIn P.depth e2=true
     .rw[if_pos e3];exact RS.never (E7.seq (E7.halt _))
     .rw[if_neg e3,if_neg e3];exact RS.bind (RS.newV (a0.mono k6) h3) λ_ _ _ _ hb=>.pure (.ptr ⟨hb,rfl,rfl,rfl⟩)
  | _=>exact .halt
theorem RS.convert{s t:TypeId}(ho:Af9 P s t)(h:VR r x x'):RS P r Qv (convert s t x) (convert s t x'):=by
 unfold Go.convert;cases ho with
 | int j k h1 h2 =>
  refine RS.bind (RS.undIs h1) λr1 d d' k1 hd=>?_;obtain⟨rfl,rfl⟩:=hd;refine RS.bind (RS.undIs h2) λr2 d d' k2 hd=>?_;obtain⟨rfl,rfl⟩:=hd;cases h with
  | int k n=>exact .pure (.int _ _)
  | _=>exact .halt
 | bytes e h1 h2 h3 =>
  refine RS.bind (RS.undIs h1) λr1 d d' k1 hd=>?_;obtain⟨rfl,rfl⟩:=hd;refine RS.bind (RS.undIs h2) λr2 d d' k2 hd=>?_;obtain⟨rfl,rfl⟩:=hd;have hx:=h.mono (k1.trans k2)
  have a1:∀{x x':Value},VR r2 x x'->RS P r2 Qv (underlying e >>= λd=>(match d with | .int .u8=>Conv.bytesToString x | .int .i32=>Conv.runesToString x|_=>stuck "Convert: a slice of what to string?":Sem Value)) (underlying e >>= λd=>(match d with | .int .u8=>Conv.bytesToString x' | .int .i32=>Conv.runesToString x'|_=>stuck "Convert: a slice of what to string?":Sem Value)):=λhx=>by
   refine RS.bind (RS.undIs h3) λr3 d d' k3 hd=>?_;obtain⟨rfl,rfl⟩:=hd;exact RS.bytes (hx.mono k3)
  cases hx with
  | int k n=>exact RS.same (.inl ⟨_,rfl,rfl⟩)
  | string s=>exact .pure (.string _)
  | ptr hz=>exact a1 (.ptr hz)
  | sl n c hz=>exact a1 (.sl n c hz)
  | iface t hz=>exact a1 (.iface t hz)
  | agg hs hz=>exact a1 (.agg hs hz)
  | tuple hs hz=>exact a1 (.tuple hs hz)
  | _=>exact a1 (by constructor)
 | out e h1 h2 h3 =>
  have a0:=RS.unsafePtr (P:=P) (r:=r) (.inl ⟨e,h1,h2,h3⟩) h;refine RS.bind (RS.undIs h1) λr1 d d' k1 hd=>?_;obtain⟨rfl,rfl⟩:=hd;refine RS.bind (RS.undIs h2) λr2 d d' k2 hd=>?_;obtain⟨rfl,rfl⟩:=hd;have a0:=RS.unsafePtr (P:=P) (r:=r2) (.inl ⟨e,h1,h2,h3⟩) (h.mono (k1.trans k2));cases h<;>exact a0
 | back e h1 h2 h3 =>
  refine RS.bind (RS.undIs h1) λr1 d d' k1 hd=>?_;obtain⟨rfl,rfl⟩:=hd;refine RS.bind (RS.undIs h2) λr2 d d' k2 hd=>?_;obtain⟨rfl,rfl⟩:=hd;have a0:=RS.unsafePtr (P:=P) (r:=r2) (.inr ⟨e,h1,h2,h3⟩) (h.mono (k1.trans k2));cases h<;>exact a0
theorem RS.sliceData{t:Array TypeId}(hf:∀e,P.underlying ty=some (.pointer e)->EW P e)(h:VR r x x'):RS P r Qv (Builtin.unsafeSliceData_ t ty #[x]) (Builtin.unsafeSliceData_ t ty #[x']):=by
 unfold Builtin.unsafeSliceData_;cases h with
 | sl0 n c=>exact .pure .ptr0
 | sl n c ha =>
  rename_i a a'
  have a0:RS P r Qv (if c≠0 then Pure.pure (Value.pointer (some a)) else (Go.viewAt a.block >>= λo=>if o.isSome=true then Pure.pure (Value.pointer (some a)) else (elemOf ty >>= λe=>newObj (.view a e) >>= λb=>Pure.pure (Value.pointer (some ⟨b,0,none⟩)))))
    (if c≠0 then Pure.pure (Value.pointer (some a')) else (Go.viewAt a'.block >>= λo=>if o.isSome=true then Pure.pure (Value.pointer (some a')) else (elemOf ty >>= λe=>newObj (.view a' e) >>= λb=>Pure.pure (Value.pointer (some ⟨b,0,none⟩))))):=by
   by_cases e:c≠0
   .rw[if_pos e,if_pos e];exact .pure (.ptr ha)
   .rw[if_neg e,if_neg e];refine RS.bind (RS.viewAt ha.b) λr1 o o' k1 ho=>?_;rcases ho with⟨rfl,rfl⟩|⟨z,z',t,rfl,rfl,hz⟩
    .simp only[Option.isSome_none,Bool.false_eq_true,if_false];refine RS.bind (A:=λ_ a a'=>a'=a/\EW P a) (RS.bind (RS.undK ty) λr2 d d' k2 hd=>?_) λr2 e e' k2 he=>?_
     .obtain⟨rfl,hd⟩:=hd;cases d' with
      | pointer e=>exact .pure ⟨rfl,hf e hd⟩
      | _=>exact .halt
     .obtain⟨rfl,he⟩:=he;exact RS.bind (RS.newV ((ha.mono k1).mono k2) he) λ_ _ _ _ hb=>.pure (.ptr ⟨hb,rfl,rfl,rfl⟩)
    .exact .pure (.ptr (ha.mono k1))
  exact a0
 | _=>exact .halt
theorem RS.loadBytes:∀(n:Nat) {r:Rn} {a a':Addr} (s:BA),r.A a a'->RS P r Qe (loadBytes a s n) (loadBytes a' s n)
 | 0,_,_,_,_,_=>.pure rfl
 | n+1,_,_,_,s,ha=>RS.bind (RS.load ha) λ_ _ _ k hv=>by
  cases hv with
  | int kk m=>cases kk<;>first|exact RS.loadBytes n _ ((ha.mono k).add 1)|exact .halt
  | _=>exact .halt
theorem Xo{u w:World}(hr:WR P r u w)(h:r.A a a')(n:Nat)(hO:r.O a.block){c:Array Value}{e:TypeId}{f:Nat×Nat}(hu:u.heap[a.block]?=some (.cells c e f))(hn:a.off+n<=c.size):WR P r (u.freeze a n) (w.freeze a' n)/\EI r r w (w.freeze a' n):=by
 cases hr.at h.b with
 | low c1 e1 f1 hv hb hl hu1 hw hc=>exact absurd hl (by have:=hO.1;omega)
 | view y y' t' ho hb hu1 hw hy hfl=>rw[hu] at hu1;cases hu1
 | num y y' l ho hb hu1 hw hy=>rw[hu] at hu1;cases hu1
 | cells c1 c' e1 f1 ho hb hu1 hw hf hc =>
  rw[hu] at hu1;cases hu1
  by_cases e0:n=0
  .subst e0;simp only[World.freeze,if_true];exact⟨hr,.refl r w⟩
  .have e1:u.freeze a n={u with heap:=u.heap.setIfInBounds a.block (.cells c e (if f.1==f.2 then (a.off,a.off+n) else (min f.1 a.off,max f.2 (a.off+n))))}:=by
    unfold World.freeze;rw[if_neg e0,modify_eq_set u.heap a.block _ _ hu]
   have e2:w.freeze a' n={w with heap:=w.heap.setIfInBounds (r.ρ a.block) (.cells c' e (if f.1==f.2 then (a.off,a.off+n) else (min f.1 a.off,max f.2 (a.off+n))))}:=by
    unfold World.freeze;rw[if_neg e0,modify_eq_set w.heap a'.block _ _ hw,hb,h.off]
   rw[e1,e2];exact hr.set ho (o:=.cells c e (if f.1==f.2 then (a.off,a.off+n) else (min f.1 a.off,max f.2 (a.off+n)))) (o':=.cells c' e (if f.1==f.2 then (a.off,a.off+n) else (min f.1 a.off,max f.2 (a.off+n)))) (.cells hc (by split<;>simp<;>omega)) dC
theorem Sw{u:World}{c:Array Value}{e:TypeId}{f:Nat×Nat}:∀(n:Nat) {a:Addr} {s s':BA} {es es':Array Event} {u':World},a.spot=none->u.heap[a.block]?=some (.cells c e f)->0<n->(loadBytes a s n).runT P u es=(.ok s' u',es')->u'=u/\a.off+n<=c.size/\∃m,c[a.off]?=some (.int .u8 m)
 | 0,_,_,_,_,_,_,_,_,h,_=>by omega
 | n+1,a,s,s',es,es',u',hs,hu,_,he=>by
  unfold loadBytes at he;have he:((load a).bind _).runT P u es=_:=he;rw[Sem.runT_bind'] at he;have cu:u.cell? a=c[a.off]?:=by simp[World.cell?,hu,hs]
  cases hc:c[a.off]? with
  | none =>
   simp only[load,Sem.runT,cu,hc,World.farLoad,hu] at he;cases he
  | some v =>
   simp only[load,Sem.runT,cu,hc] at he;have hlt:=(D1.1 hc).1;split at he
   .rename_i m;cases n with
    | zero=>cases he;exact⟨rfl,oM,_,rfl⟩
    | succ n =>
     obtain⟨h1,h2,_⟩:=Sw (n+1) (by simp[Addr.add]) (by simpa [Addr.add] using hu) oM he;exact⟨h1,by simp[Addr.add] at h2;omega,_,rfl⟩
   .cases he
theorem VI:∀(n:Nat) {a:Addr} {s s':BA} {es es':Array Event} {u u':World},(Go.loadBytes a s n).runT P u es=(.ok s' u',es')->u'=u
 | 0,_,_,_,_,_,_,_,he=>by cases he;rfl
 | n+1,a,s,s',es,es',u,u',he=>by
  unfold Go.loadBytes at he;have he:((load a).bind _).runT P u es=_:=he;rw[Sem.runT_bind'] at he;match hl:(load a).runT P u es,he with
  | (.halt k u1,e1),he=>cases he
  | (.ok v u1,e1),he =>
   have e1:=Jh a .plain _ _ _ _ _ hl;subst e1;cases v with
   | int k m=>cases k<;>first|exact VI n he|cases he
   | _=>cases he
theorem Kr{w:World}{a:Addr}{o:Obj}(h:w.heap[a.block]?=some o)(ho:∀c e f,o≠.cells c e f):w.freeze a n=w:=by
 unfold World.freeze;split
 .rfl
 .rw[modify_eq_set w.heap a.block _ _ h]
  have e:w.heap.setIfInBounds a.block o=w.heap:=by
   grind
  cases o<;>first|exact absurd rfl (ho _ _ _)|(dsimp only;rw[e])
theorem RS.strAt(ha:r.A a a')(hn:0<n):RS P r Qv (Go.loadBytes a .empty n >>= λs=>freeze a n >>= λ_=>Pure.pure (Value.string s)) (Go.loadBytes a' .empty n >>= λs=>freeze a' n >>= λ_=>Pure.pure (Value.string s)):=λu w es es' hr x u' eu he=>by
 have he:((Go.loadBytes a .empty n).bind _).runT P u es=_:=he;rw[Sem.runT_bind'] at he;match hl:(Go.loadBytes a .empty n).runT P u es,he with
 | (.halt k u1,e1),he=>cases he
 | (.ok s u1,e1),he =>
  obtain⟨r1,s',w1,ew,g1,g2,g3,g4,g5,g6⟩:=RS.loadBytes (P:=P) n .empty ha u w es es' hr s u1 e1 hl;cases g4
  have fin:WR P r1 (u1.freeze a n) (w1.freeze a' n)->EI r1 r1 w1 (w1.freeze a' n)->∃r' a'' w' ew',(Go.loadBytes a' .empty n >>= λs=>freeze a' n >>= λ_=>Pure.pure (Value.string s)).runT P w es'=(.ok a'' w',ew')/\r.le r'/\WR P r' u' w'/\VR r' x a''/\EI r r' w w'/\∀e∈ew',e∈es'\/DZ r' e:=λhw hc=>by
   cases he
   refine⟨r1,.string s,w1.freeze a' n,ew,?_,g2,hw,.string s,g5.trans hc,g6⟩;show ((Go.loadBytes a' .empty n).bind _).runT P w es'=_
   rw[Sem.runT_bind',g1];rfl
  cases hr.at ha.b with
  | low c e f hv hb hl' hu hw hc nb =>
   obtain⟨_,_,m,hm⟩:=Sw n ha.s hu hn hl;exact absurd hm (nb _ _)
  | cells c c' e f ho hb hu hw hf hc =>
   obtain⟨rfl,hle,_⟩:=Sw n ha.s hu hn hl;obtain⟨h1,h2⟩:=Xo g3 (ha.mono g2) n ⟨by rw[g2.Low];exact ho.1,A1 ho.2 g2.N⟩ hu hle;exact fin h1 h2
  | view y y' t ho hb hu hw hy hfl =>
   have hO1:r1.O a.block:=⟨by rw[g2.Low];exact ho.1,A1 ho.2 g2.N⟩;have ku:u1=u:=VI n hl;subst ku;cases g3.at (ha.mono g2).b with
   | low c e f hv hb hl' hu1 hw hc nb=>have:=hO1.1;omega
   | cells c c' e f ho hb hu1 hw hf hc=>rw[hu] at hu1;cases hu1
   | num y y' l ho hb hu1 hw hy=>rw[hu] at hu1;cases hu1
   | view z z' t2 ho2 hb2 hu2 hw2 hz _ =>
    rw[Kr hu (by simp),Kr hw2 (by simp)] at fin;exact fin g3 (.refl _ _)
  | num y y' l ho hb hu hw hy =>
   exfalso
   cases n with
   | zero=>omega
   | succ n =>
    unfold Go.loadBytes at hl;have hl:((Go.load a).bind _).runT P u es=_:=hl;rw[Sem.runT_bind'] at hl;have cu:u.cell? a=none:=by simp[World.cell?,hu]
    simp only[Go.load,Sem.runT,cu,World.farLoad,hu] at hl;cases hl
theorem RS.unsafeString{t:Array TypeId}(h:VR r x x')(hy:VR r y y'):RS P r Qv (Builtin.unsafeString_ t ty #[x,y]) (Builtin.unsafeString_ t ty #[x',y']):=by
 unfold Builtin.unsafeString_;cases h with
 | ptr0 =>
  refine RS.bind (RS.asInt hy) λr1 n n' k1 hn=>?_;cases hn
  cases ht:t[0]? with
  | none=>exact .halt
  | some pt =>
   try dsimp only
   split
   .exact RS.never (E7.seq (J7 _))
   .split
    .exact RS.never (E7.seq (E7.halt _))
    .split
     .exact .pure (.string _)
     .exact RS.never (J7 _)
 | ptr ha =>
  refine RS.bind (RS.asInt hy) λr1 n n' k1 hn=>?_;cases hn
  cases ht:t[0]? with
  | none=>exact .halt
  | some pt =>
   try dsimp only
   by_cases e1:n<0
   .rw[if_pos e1];exact RS.never (E7.seq (J7 _))
   .rw[if_neg e1,if_neg e1];by_cases e2:n > IntKind.i64.max
    .rw[if_pos e2];exact RS.never (E7.seq (E7.halt _))
    .rw[if_neg e2,if_neg e2];by_cases e3:n=0
     .rw[if_pos e3,if_pos e3];exact .pure (.string _)
     .rw[if_neg e3,if_neg e3];unfold elemOf;refine RS.bind (A:=Qe) (RS.bind (RS.und pt) λr2 d d' k2 hd=>?_) λr2 e e' k2 he=>?_
      .cases hd
       cases d<;>first|exact .pure rfl|exact .halt
      .cases he
       refine RS.bind (RS.variablesAt ((ha.mono k1).mono k2) e n.toNat) λr3 z z' k3 hz=>?_;cases hz
       cases z with
       | true=>exact RS.strAt (((ha.mono k1).mono k2).mono k3) (by omega)
       | false=>exact .halt
 | _=>exact .halt
end
def BL(g:Nat->Bool):Operand->Bool
 | .tmp _=>true
 | .const v=>EE 2 v
 | .global n=>g n
 | .func _=>true
def Xp(g:Nat->Bool):Option Operand->Bool
 | some x=>BL g x
 | none=>true
def Da(P:Program)(t:TypeId):Bool:=match P.underlying t with|some (.pointer _)=>true|_=>false
def cvB(P:Program)(nf:TypeId->Bool)(s t:TypeId):Bool:=match P.underlying s,P.underlying t with
 | some (.int _),some (.int _)=>true
 | some (.slice e),some .string=>(match P.underlying e with|some (.int .u8)=>true|_=>false)
 | some (.pointer e),some .unsafePointer=>nf e
 | some .unsafePointer,some (.pointer e)=>nf e
 | _,_=>false
def elB(P:Program)(t:TypeId):Bool:=match P.underlying t with|some (.slice e)=>JQ P e|_=>true
def dtB(P:Program)(nf:TypeId->Bool)(t:TypeId):Bool:=match P.underlying t with|some (.pointer e)=>nf e|_=>true
def Ade:Operand->Bool
 | .const (.pointer none)=>true
 | _=>false
def btB(P:Program)(nf:TypeId->Bool)(n:Nat)(ats:Array TypeId)(ty:TypeId):Builtin->Bool
 | .len | .cap=>n==1
 | .copy | .unsafeString=>n==2
 | .append=>n==2&&aOk P ats
 | .unsafeSliceData=>n==1&&dtB P nf ty
 | _=>false
def ZG(P:Program)(s:FZs)(g:Nat->Bool)(nf:TypeId->Bool)(o:Oper):Bool:=match o.op with
 | .move x | .assign x | .box _ x | .load _ x | .nilCheck x | .unOp _ _ x | .makeInterface _ x | .extract x _=>BL g x
 | .pick c x y=>BL g c&&BL g x&&BL g y
 | .alloc t=>JQ P t
 | .build t parts=>JQ P t&&parts.all λq=>BL g q.2
 | .buildSlice t _ parts=>elB P t&&parts.all λq=>BL g q.2
 | .store _ x y | .indexAddr _ x y | .index _ x y=>BL g x&&BL g y
 | .binOp op t x y _=>BL g x&&BL g y&&(Sn P t || (op == .eql&&Ade y&&Da P t))
 | .convert a b x=>BL g x&&cvB P nf a b
 | .slice _ x lo hi mx=>BL g x&&Xp g lo&&Xp g hi&&Xp g mx
 | .fieldAddr a x f=>BL g x&&fOk P a f
 | .typeAssert x _ t _=>BL g x&&JQ P t
 | .panic _=>true
 | .call {callee:=.value (.func f),args,..}=>s f&&args.all (BL g)
 | .call {callee:=.builtin b,args,argTypes}=>args.all (BL g)&&btB P nf args.size argTypes o.type b
 | _=>false
inductive QN (r:Rn):Next->Next->Prop
 | value {v v':Value} (h:VR r v v'):QN r (.value v) (.value v')
 | skip:QN r .skip .skip
 | enter (f:FuncId) {c c':Array Value} (h:F1 r c c'):QN r (.enter f c) (.enter f c')
section
variable {P:Program} {r:Rn} {s:FZs} {g:Nat->Bool} {nf:TypeId->Bool} {T T':Array Value}
structure Gb (P:Program) (g:Nat->Bool) (nf:TypeId->Bool) (r:Rn):Prop where
 gl:P.globals.size<=r.Low
 vis:∀n,g n=true->r.V n
 nf:∀t,nf t=true->EW P t
 only:∀n,n<P.globals.size->g n=false->¬r.V n
theorem Gb.mono{r r':Rn}(k:r.le r')(h:Gb P g nf r):Gb P g nf r':=⟨by rw[k.Low];exact h.gl,λn hn=>by rw[k.V];exact h.vis n hn,h.nf,λn h1 h2=>by rw[k.V];exact h.only n h1 h2⟩
def ev(T:Array Value):Operand->Value
 | .tmp t=>T.getD t undef
 | .const v=>v
 | .global g=>.pointer (some ⟨g,0,none⟩)
 | .func f=>.func (.func f) #[] #[]
theorem Db(fr:Frame):fr.eval=ev fr.tmps:=by funext x;cases x<;>rfl
theorem Gc:VR r undef undef:=Eg 1 _ rfl
theorem Jz(R:Gb P g nf r)(hT:F1 r T T'){x:Operand}(hx:BL g x=true):VR r (ev T x) (ev T' x):=by
 cases x with
 | tmp t =>
  show VR r (T.getD t undef) (T'.getD t undef)
  by_cases e:t<T.size
  .have e':t<T'.size:=by rw[← hT.size];exact e
   simp only[Array.getD,e,e',dite_true];exact hT.get t _ _ (Array.getElem?_eq_getElem e) (Array.getElem?_eq_getElem e')
  .have e':¬t<T'.size:=by rwa[← hT.size]
   simp[e,e'];exact Gc
 | const v=>exact Eg 2 v hx
 | global n=>exact .ptr ⟨.inl ⟨R.vis n hx,rfl⟩,rfl,rfl,rfl⟩
 | func f=>exact .fn f
theorem AfB(R:Gb P g nf r)(hT:F1 r T T')(hx:xs.all (BL g)=true):F1 r (xs.map (ev T)) (xs.map (ev T')):=by
 refine⟨dC,λi v v' h1 h2=>?_⟩;simp only[Array.getElem?_map,B6] at h1 h2;obtain⟨x,a0,rfl⟩:=h1;obtain⟨x',a1,rfl⟩:=h2;rw[a0] at a1;cases a1
 exact Jz R hT (Array.all_eq_true'.1 hx x (Array.mem_of_getElem? a0))
theorem Xq(R:Gb P g nf r)(hT:F1 r T T'){x:Option Operand}(hx:Xp g x=true):OV r (x.map (ev T)) (x.map (ev T')):=by
 cases x with
 | none=>exact .none
 | some x=>exact .some (Jz R hT hx)
theorem Xr(R:Gb P g nf r)(hT:F1 r T T'):∀(l:List (Nat×Operand)),(∀q∈l,BL g q.2=true)->PR r (l.map λq=>(q.1,ev T q.2)) (l.map λq=>(q.1,ev T' q.2))
 | [],_=>.nil
 | q::l,h=>.cons q.1 (Jz R hT (h q dC)) (Xr R hT l λx hx=>h x (by grind))
theorem RS.v{q q':Sem Value}(h:RS P r Qv q q'):RS P r QN (do Pure.pure (.value (← q))) (do Pure.pure (.value (← q'))):=RS.bind h λ_ _ _ _ hv=>.pure (.value hv)
theorem RS.u{q q':Sem Unit}(h:RS P r Qt q q'):RS P r QN (do q;Pure.pure .skip) (do q';Pure.pure .skip):=RS.bind h λ_ _ _ _ _=>.pure .skip
def SA(P:Program)(f:Nat):Prop:=∀(r:Rn)(c c':Array Value),F1 r c c'->RS P r QN (callFunc f c) (callFunc f c')
theorem RS.body{f:FuncId}(hf:P.funcs[f]?=some fn)(hb:fn.body.isNone=false)(hn:(fn.name == "runtime.NumGoroutine")=false){c c':Array Value}(h:F1 r c c'):RS P r QN (callFunc f c) (callFunc f c'):=by
 have e:∀c w es,(callFunc f c).runT P w es=(.ok (.enter f c) w,es):=λc w es=>by
  unfold callFunc;show Sem.runT P (match P.funcs[f]? with|none=>_|some fn=>_) w es=_
  rw[hf];simp only[hn,hb];rfl
 intro u w es es' hr x u' eu he;rw[e] at he;cases he
 exact⟨r,_,w,es',e c' w es',.refl r,hr,.enter f h,.refl r w,λe he=>.inl he⟩
theorem FB(o:Oper){f:FuncId}(hop:o.op=.call {callee:=.value (.func f),args:=xs,argTypes:=ats}):execOp (ev T) o=callFunc f (xs.map (ev T)):=by
 unfold execOp;rw[hop];show (do let d ← resolve (ev T) _ o.type;invoke d.target d.args)=_
 have e:ev T (.func f)=.func (.func f) #[] #[]:=rfl;show callFunc f _=_
 simp
theorem SB(o:Oper){b:Builtin}(hop:o.op=.call {callee:=.builtin b,args:=xs,argTypes:=ats}):execOp (ev T) o=builtin b ats o.type (xs.map fun | .const _=>true|_=>false) (xs.map (ev T)):=by
 unfold execOp;rw[hop];rfl
end
section
variable {P:Program} {r:Rn} {s:FZs} {g:Nat->Bool} {nf:TypeId->Bool} {T T':Array Value}
theorem SC{α:Type}{a:Array α}(h:(a.size==2)=true):∃x y,a=#[x,y]:=by
 obtain⟨l⟩:=a;rcases l with _|⟨x,_|⟨y,_|⟨z,l⟩⟩⟩<;>simp at h
 exact⟨x,y,rfl⟩
theorem SD{α:Type}{a:Array α}(h:(a.size==1)=true):∃x,a=#[x]:=by
 obtain⟨l⟩:=a;rcases l with _|⟨x,_|⟨y,l⟩⟩<;>simp at h
 exact⟨x,rfl⟩
theorem AfC(R:Gb P g nf r){a b:TypeId}(h:cvB P nf a b=true):Af9 P a b:=by
 unfold cvB at h;split at h
 .rename_i h1 h2;exact .int _ _ h1 h2
 .rename_i e h1 h2;split at h
  .rename_i h3;exact .bytes e h1 h2 h3
  .cases h
 .rename_i e h1 h2;exact .out e h1 h2 (R.nf _ h)
 .rename_i e h1 h2;exact .back e h1 h2 (R.nf _ h)
 .cases h
theorem RS.builtinOp(R:Gb P g nf r)(hT:F1 r T T')(o:Oper){b:Builtin}(hop:o.op=.call {callee:=.builtin b,args:=xs,argTypes:=ats})(hx:xs.all (BL g)=true)
  (hb:btB P nf xs.size ats o.type b=true):RS P r QN (execOp (ev T) o) (execOp (ev T') o):=by
 rw[SB o hop,SB o hop];have ex:∀x,x∈xs->VR r (ev T x) (ev T' x):=λ_ hm=>Jz R hT (Array.all_eq_true'.1 hx _ hm);cases b with
 | len=>obtain⟨x,rfl⟩:=SD hb;simp only[List.map_toArray,List.map_cons,List.map_nil];exact RS.v (RS.len _ _ (ex x dC))
 | cap=>obtain⟨x,rfl⟩:=SD hb;simp only[List.map_toArray,List.map_cons,List.map_nil];exact RS.v (RS.cap _ _ (ex x dC))
 | copy=>obtain⟨x,y,rfl⟩:=SC hb;simp only[List.map_toArray,List.map_cons,List.map_nil];exact RS.v (RS.copy _ _ (ex x dC) (ex y dC))
 | unsafeString=>obtain⟨x,y,rfl⟩:=SC hb;simp only[List.map_toArray,List.map_cons,List.map_nil];exact RS.v (RS.unsafeString (ex x dC) (ex y dC))
 | append =>
  simp only[btB,Bool.and_eq_true] at hb;obtain⟨x,y,rfl⟩:=SC hb.1;simp only[List.map_toArray,List.map_cons,List.map_nil];exact RS.v (RS.append _ hb.2 (ex x dC) (ex y dC))
 | unsafeSliceData =>
  simp only[btB,Bool.and_eq_true] at hb;obtain⟨x,rfl⟩:=SD hb.1;simp only[List.map_toArray,List.map_cons,List.map_nil];refine RS.v (RS.sliceData (λe he=>R.nf _ ?_) (ex x dC));have h2:=hb.2;unfold dtB at h2;rw[he] at h2;exact h2
 | _=>cases hb
theorem AfD{t:TypeId}{x x':Value}(ht:Da P t=true)(h:VR r x x')(o o':Operand):RS P r Qv (do Go.eqGuard .eql t o o' x (Value.pointer none);Go.binOp .eql t x (Value.pointer none)) (do Go.eqGuard .eql t o o' x' (Value.pointer none);Go.binOp .eql t x' (Value.pointer none)):=by
 have hg:RS P r Qt (Go.eqGuard .eql t o o' x (Value.pointer none)) (Go.eqGuard .eql t o o' x' (Value.pointer none)):=by
  unfold Go.eqGuard;cases h<;>exact RS.pure (A:=Qt) trivial
 refine RS.bind hg λr1 _ _ k1 _=>?_
 have hq:RS P r1 Qe (Op.equal t x (Value.pointer none)) (Op.equal t x' (Value.pointer none)):=by
  unfold Op.equal Op.maxDepth Op.equalIn;refine RS.bind (RS.undK t) λr2 d d' k2 hd=>?_;obtain⟨rfl,hd⟩:=hd;unfold Da at ht;rw[hd] at ht;cases d' with
  | pointer e=>cases h<;>first|exact RS.pure rfl|exact RS.halt
  | _=>cases ht
 have hB:RS P r1 Qv (do Pure.pure (Value.bool (← Op.equal t x _))) _:=RS.bind hq λ_ _ _ _ h=>by cases h;exact RS.pure (.bool _)
 cases h<;>first|exact hB|exact RS.halt
theorem RS.op(R:Gb P g nf r)(hC:∀f,s f=true->∀c c',F1 r c c'->RS P r QN (callFunc f c) (callFunc f c'))(hT:F1 r T T')(o:Oper)(h:ZG P s g nf o=true):RS P r QN (execOp (ev T) o) (execOp (ev T') o):=by
 have ex:∀{x:Operand},BL g x=true->VR r (ev T x) (ev T' x):=λhx=>Jz R hT hx;unfold ZG at h;cases ho:o.op with
 | move x=>rw[ho] at h;unfold execOp;rw[ho];exact .pure (.value (ex h))
 | assign x=>rw[ho] at h;unfold execOp;rw[ho];exact .pure (.value (ex h))
 | box t x=>rw[ho] at h;unfold execOp;rw[ho];exact RS.v (RS.box t (ex h))
 | load t x=>rw[ho] at h;unfold execOp;rw[ho];exact RS.v (RS.loadAt t (ex h))
 | unOp u t x=>rw[ho] at h;unfold execOp;rw[ho];exact RS.v (RS.unary u (ex h))
 | makeInterface t x=>rw[ho] at h;unfold execOp;rw[ho];exact RS.v (RS.makeInterface t (ex h))
 | extract x i=>rw[ho] at h;unfold execOp;rw[ho];exact RS.v (RS.extract (ex h) i)
 | nilCheck x =>
  rw[ho] at h;unfold execOp;rw[ho]
  have hx:=ex h;dsimp only
  generalize ev T x=v at hx ⊢
  generalize ev T' x=v' at hx ⊢
  cases hx with
  | ptr0=>exact RS.never (J7 _)
  | nilIface=>exact RS.never (J7 _)
  | nilFunc=>exact RS.never (J7 _)
  | ptr hz=>exact .pure (.value (.ptr hz))
  | sl n c hz=>exact .pure (.value (.sl n c hz))
  | iface t hz=>exact .pure (.value (.iface t hz))
  | agg hs hz=>exact .pure (.value (.agg hs hz))
  | tuple hs hz=>exact .pure (.value (.tuple hs hz))
  | _=>exact .pure (.value (by constructor))
 | pick c x y =>
  rw[ho] at h;unfold execOp;rw[ho]
  simp only[Bool.and_eq_true] at h;refine RS.bind (RS.asBool (ex h.1.1)) λr1 b b' k1 hb=>?_;cases hb
  cases b
  .exact .pure (.value ((ex h.2).mono k1))
  .exact .pure (.value ((ex h.1.2).mono k1))
 | alloc t=>rw[ho] at h;unfold execOp;rw[ho];exact RS.v (RS.alloc h)
 | build t parts =>
  rw[ho] at h;unfold execOp;rw[ho]
  simp only[Bool.and_eq_true] at h;refine RS.v (RS.build h.1 ?_);have:=Xr R hT parts.toList λq hq=>Array.all_eq_true'.1 h.2 q (by simpa using hq);simpa using this
 | buildSlice t n parts =>
  rw[ho] at h;unfold execOp;rw[ho]
  simp only[Bool.and_eq_true] at h;refine RS.v (RS.buildSlice n (λe he=>?_) ?_)
  .have h1:=h.1;unfold elB at h1;rw[he] at h1;exact h1
  .have:=Xr R hT parts.toList λq hq=>Array.all_eq_true'.1 h.2 q (by simpa using hq);simpa using this
 | store t x y=>rw[ho] at h;unfold execOp;rw[ho];simp only[Bool.and_eq_true] at h;exact RS.u (RS.storeAt t (ex h.1) (ex h.2))
 | indexAddr t x y=>rw[ho] at h;unfold execOp;rw[ho];simp only[Bool.and_eq_true] at h;exact RS.v (RS.indexAt t (ex h.1) (ex h.2))
 | index t x y=>rw[ho] at h;unfold execOp;rw[ho];simp only[Bool.and_eq_true] at h;exact RS.v (RS.index t (ex h.1) (ex h.2))
 | binOp op t x y z =>
  rw[ho] at h;unfold execOp;rw[ho]
  simp only[Bool.and_eq_true,Bool.or_eq_true] at h;rcases h.2 with h2|⟨⟨h2,h3⟩,h4⟩
  .exact RS.v (RS.bind (RS.eqGuard op h2 x y (ex h.1.1) (ex h.1.2)) λr1 _ _ k1 _=>RS.binOp (R.mono k1).gl op h2 ((ex h.1.1).mono k1) ((ex h.1.2).mono k1))
  .have e:op=.eql:=by simpa using h2
   subst e
   have e2:y=.const (.pointer none):=by
    unfold Ade at h3;split at h3
    .rfl
    .cases h3
   subst e2;exact RS.v (AfD h4 (ex h.1.1) _ _)
 | convert a b x=>rw[ho] at h;unfold execOp;rw[ho];simp only[Bool.and_eq_true] at h;exact RS.v (RS.convert (AfC R h.2) (ex h.1))
 | slice t x lo hi mx=>rw[ho] at h;unfold execOp;rw[ho];simp only[Bool.and_eq_true] at h;exact RS.v (RS.sliceAt t (ex h.1.1.1) (Xq R hT h.1.1.2) (Xq R hT h.1.2) (Xq R hT h.2))
 | fieldAddr a x f=>rw[ho] at h;unfold execOp;rw[ho];simp only[Bool.and_eq_true] at h;exact RS.v (RS.fieldAt h.2 (ex h.1))
 | typeAssert x a t ok=>rw[ho] at h;unfold execOp;rw[ho];simp only[Bool.and_eq_true] at h;exact RS.v (RS.typeAssert h.2 (ex h.1) ok)
 | panic x =>
  unfold execOp;rw[ho];refine RS.never (E7.seq ?_);unfold Instr.panic;split
  .exact E7.halt _
  .refine E7.bind λb=>?_;split
   .exact E7.halt _
   .exact J7 _
  .exact E7.halt _
 | call c =>
  obtain⟨a0,xs,a1⟩:=c;rw[ho] at h;cases a0 with
  | builtin b=>simp only[Bool.and_eq_true] at h;exact RS.builtinOp R hT o ho h.1 h.2
  | invoke a b=>cases h
  | value f =>
   cases f with
   | func f =>
    simp only[Bool.and_eq_true] at h;rw[FB o ho,FB o ho];exact hC f h.1 _ _ (AfB R hT h.2)
   | _=>cases h
 | _=>rw[ho] at h;cases h
end
section
variable (P:Program) (s:FZs) (g:Nat->Bool) (nf:TypeId->Bool)
def LD(o:Oper):Bool:=ZG P s g nf o&&Cf P s [] o
def Xs(d:Nat)(o:Oper):Bool:=o.dst==some d&&o.guard.isNone&&(match o.op with | .binOp .neq t x y _=>BL g x&&BL g y&&Da P t|_=>false)&&Cf P s [] o
def SE(ops:Array Oper)(d:Nat):Bool:=ops.toList.dropLast.all (LD P s g nf)&&(match ops.toList.getLast? with|some o=>Xs P s g d o|none=>false)
def AfE:Code->Code->Bool
 | .region _ ops false,.cond (.tmp d) (.refuse _) _=>SE P s g nf ops d
 | _,_=>false
def Xt(o o':Oper):Bool:=o.guard.isNone&&o'.guard.isNone&&Cf P s [] o&&(match o.op,o.dst,o'.op with
 | .indexAddr _ (.global n) _,some d,.load t (.tmp d')=>d==d' && !(g n)&&decide (n<P.globals.size)&&(match P.underlying t with|some (.int _)=>true|_=>false)
 | _,_,_=>false)
def Qr(ops:Array Oper)(i:Nat):Bool:=(ops.toList.take i).all (LD P s g nf)&&(match ops[i]?,ops[i+1]? with|some o,some o'=>Xt P s g o o'|_,_=>false)
def AV:Code->Bool
 | .skip | .exit _ | .label _ | .ret | .refuse _=>true
 | .region _ ops d=>ops.all (LD P s g nf) || (!d&&(List.range ops.size).any (Qr P s g nf ops))
 | .seq a b=>(AV a || AfE P s g nf a b)&&AV b
 | .cond c a b=>BL g c&&AV a&&AV b
 | .block _ b=>AV b
 | .loop b=>AV b
 | .scope b=>AV b
 | _=>false
inductive Aj:List Item->Prop
 | nil:Aj []
 | code {c:Code} {k:List Item} (h:AV P s g nf c=true) (t:Aj k):Aj (.code c::k)
 | inBlock {i:Nat} {k:List Item} (t:Aj k):Aj (.inBlock i::k)
 | inLoop {c:Code} {k:List Item} (h:AV P s g nf c=true) (t:Aj k):Aj (.inLoop c::k)
 | inScope {c:Code} {k:List Item} (h:AV P s g nf c=true) (t:Aj k):Aj (.inScope c::k)
 | reg {ops:Array Oper} {l:List Nat} {k:List Item} (h:∀i∈l,∀o,ops[i]?=some o->LD P s g nf o=true) (t:Aj k):Aj (.inRegion ops l::k)
 | nreg {id:Nat} {ops:Array Oper} {d:Nat} {m:String} {e:Code} {k:List Item} (h:SE P s g nf ops d=true) (t:Aj (.code (.cond (.tmp d) (.refuse m) e)::k)):Aj (.code (.region id ops false)::.code (.cond (.tmp d) (.refuse m) e)::k)
 | nin {ops:Array Oper} {j d:Nat} {m:String} {e:Code} {k:List Item} (h:SE P s g nf ops d=true) (t:Aj (.code (.cond (.tmp d) (.refuse m) e)::k)):Aj (.inRegion ops ((List.range ops.size).drop j)::.code (.cond (.tmp d) (.refuse m) e)::k)
 | din {ops:Array Oper} {i j:Nat} {k:List Item} (hj:j<=i) (h:Qr P s g nf ops i=true) (t:Aj k):Aj (.inRegion ops ((List.range ops.size).drop j)::k)
structure FrB (fr:Frame):Prop where
 todo:Aj P s g nf fr.todo
 defers:fr.defers=[]
 kind:fr.kind=.normal
 round:fr.roundOf=none
 fn:∃fn,P.funcs[fr.fn]?=some fn
def DP(f:Nat):Prop:=∃fn body,P.funcs[f]?=some fn/\fn.body=some body/\AV P s g nf body=true/\(fn.name == "runtime.NumGoroutine")=false
structure De:Prop where
 lo:I6 P s
 nl:∀f,s.l f=[]
 out:∀f,s f=true->DP P s g nf f\/(SA P f/\∃fn,P.funcs[f]?=some fn/\fn.body=none)
 ahead:P.follows .staticDataAhead=true
end
theorem De.op{P:Program}{s:FZs}{g:Nat->Bool}{nf:TypeId->Bool}(S:De P s g nf)(fr:Frame)(h:Cf P s [] o=true):Sound P X0 (execOp fr.eval o):=(Qk S.lo fr (λx hx=>by rw[S.nl] at hx;cases hx) o (by rwa[S.nl])).1
structure FR (r:Rn) (fr fr':Frame):Prop where
 eq:fr'={fr with tmps:=fr'.tmps}
 all:F1 r fr.tmps fr'.tmps
theorem FR.mono{r r'}(k:r.le r')(h:FR r fr fr'):FR r' fr fr':=⟨h.eq,h.all.mono k⟩
section
variable {P:Program} {s:FZs} {g:Nat->Bool} {nf:TypeId->Bool}
theorem Aj.exit:∀{k l:List Item},Aj P s g nf k->exitTo id k=some l->Aj P s g nf l:=by
 intro k l h;induction h with
 | nil=>intro e;cases e
 | code _ _ ih=>intro e;exact ih e
 | inBlock t ih =>
  intro e;simp only[exitTo] at e;split at e
  .cases e;exact t
  .exact ih e
 | inLoop _ _ ih=>intro e;exact ih e
 | inScope _ _ ih=>intro e;exact ih e
 | reg _ _ ih=>intro e;exact ih e
 | nreg _ _ ih=>intro e;exact ih e
 | nin _ _ ih=>intro e;exact ih e
 | din _ _ _ ih=>intro e;exact ih e
theorem FrB.enter{f:FuncId}(h:DP P s g nf f)(args):FrB P s g nf (Frame.enter P f args .normal):=by
 obtain⟨fn,a0,h1,h2,h3,_⟩:=h;refine⟨?_,rfl,rfl,rfl,fn,h1⟩;simp[Frame.enter,h1,h2];exact .code h3 .nil
theorem FR.enter{r:Rn}(f:FuncId){c c':Array Value}(h:F1 r c c'):FR r (Frame.enter P f c .normal) (Frame.enter P f c' .normal):=by
 refine⟨rfl,?_⟩;simp only[Frame.enter];rw[h.size];refine h.append ⟨rfl,λi v v' h1 h2=>?_⟩;rw[h1] at h2;cases h2
 have:=Array.mem_of_getElem? h1;simp only[Array.mem_replicate] at this;rw[this.2];exact Gc
theorem FR.finish{r:Rn}(h:FR r fr fr'){v v':Value}(hv:VR r v v'){k:List Item}(ht:fr.todo=.inRegion ops (i::rest)::k):FR r (fr.finish v) (fr'.finish v'):=by
 obtain⟨fn,T,a1,a0,a2,a3,round⟩:=fr;simp only at ht;subst ht;obtain⟨e,ha⟩:=h;rw[e];simp only[Frame.finish];refine⟨rfl,?_⟩;simp only;split
 .exact ha.set _ hv
 .omega
theorem FR.todo{r:Rn}(h:FR r fr fr')(l):FR r {fr with todo:=l} {fr' with todo:=l}:=⟨by rw[h.eq],h.all⟩
theorem FR.mode{r:Rn}(h:FR r fr fr')(m):FR r {fr with mode:=m} {fr' with mode:=m}:=⟨by rw[h.eq],h.all⟩
theorem FR.t{r}(h:FR r fr fr'):fr'.todo=fr.todo:=by rw[h.eq]
theorem FR.m{r}(h:FR r fr fr'):fr'.mode=fr.mode:=by rw[h.eq]
theorem FR.k{r}(h:FR r fr fr'):fr'.kind=fr.kind:=by rw[h.eq]
theorem FR.d{r:Rn}(h:FR r fr fr'):fr'.defers=fr.defers:=by rw[h.eq]
theorem FR.ro{r:Rn}(h:FR r fr fr'):fr'.roundOf=fr.roundOf:=by rw[h.eq]
theorem FR.f{r:Rn}(h:FR r fr fr'):fr'.fn=fr.fn:=by rw[h.eq]
theorem FrB.fin(h:FrB P s g nf fr)(v:Value){k:List Item}(ht:fr.todo=.inRegion ops (i::rest)::k)(hk:Aj P s g nf (.inRegion ops rest::k)):FrB P s g nf (fr.finish v):=by
 obtain⟨fn,T,a1,a0,a2,a3,round⟩:=fr;simp only at ht;subst ht;exact⟨hk,h.defers,h.kind,h.round,h.fn⟩
theorem SF(h:LD P s g nf o=true):ZG P s g nf o=true/\Cf P s [] o=true:=by
 unfold LD at h;simpa using h
theorem Aea{d:Nat}(h:SE P s g nf ops d=true)(ho:ops[i]?=some o):(i+1<ops.size/\LD P s g nf o=true)\/(i+1=ops.size/\Xs P s g d o=true):=by
 unfold SE at h;rw[Bool.and_eq_true] at h;have a0:=(D1.1 ho).1;rcases Nat.lt_or_ge (i+1) ops.size with h1|h1
 .refine .inl ⟨h1,List.all_eq_true.1 h.1 o ?_⟩;rw[C5];refine⟨i,?_⟩;rw[List.getElem?_dropLast,if_pos gG];simpa using ho
 .grind
end
inductive SR (P:Program) (s:FZs) (g:Nat->Bool) (nf:TypeId->Bool) (r:Rn):List Frame->List Frame->Prop
 | nil:SR P s g nf r [] []
 | cons {c c':Frame} {l l':List Frame} (h:FR r c c') (b:FrB P s g nf c) (m:c.mode=.run) (w:∃ops i rest k,c.todo=.inRegion ops (i::rest)::k/\Aj P s g nf (.inRegion ops rest::k)) (t:SR P s g nf r l l'):SR P s g nf r (c::l) (c'::l')
structure JU (P:Program) (s:FZs) (g:Nat->Bool) (nf:TypeId->Bool) (r:Rn) (fr:Frame) (seg:List Frame) (u:World) (fr':Frame) (seg':List Frame) (w:World):Prop where
 ok:Gb P g nf r
 wr:WR P r u w
 pend:∀(b:Nat)(c:Array Value)(t:TypeId),u.heap[b]?=some (Obj.pending c t)->gN<=b
 top:FrB P s g nf fr
 fr:FR r fr fr'
 rest:SR P s g nf r seg seg'
section
variable {P:Program} {s:FZs} {g:Nat->Bool} {nf:TypeId->Bool}
theorem SR.mono{r r':Rn}(k:r.le r'){l:List Frame}(h:SR P s g nf r l l'):SR P s g nf r' l l':=by
 induction h with
 | nil=>exact .nil
 | cons h b m w _ ih=>exact .cons (h.mono k) b m w ih
def Good(P:Program)(s:FZs)(g:Nat->Bool)(nf:TypeId->Bool)(r:Rn)(bu bw:List Frame)(w:World)(g1:Goroutine)(u1:World)(st:GStep):Prop :=
 ∃r1 fr1 seg1 fr1' seg1' w1 es',g1=G fr1 (seg1++bu)/\st=.go (G fr1' (seg1'++bw)) w1 es'/\r.le r1/\JU P s g nf r1 fr1 seg1 u1 fr1' seg1' w1/\(fr1.mode=.run\/fr1.mode=.returning)/\EI r r1 w w1/\∀e∈es',DZ r1 e
inductive Ej (P:Program) (s:FZs) (g:Nat->Bool) (nf:TypeId->Bool) (bu:List Frame) (u:World):Goroutine->Prop
 | pan (fr:Frame) (seg:List Frame) (ch:List PanicEntry) (hm:fr.mode=.panicking ch) (hf:FrB P s g nf fr) (hs:∀c∈seg,FrB P s g nf c/\c.mode=.run):Ej P s g nf bu u (G fr (seg++bu))
 | neq (fr:Frame) (cs:List Frame) (ops:Array Oper) (d:Nat) (m:String) (e:Code) (k:List Item) (hm:fr.mode=.run) (hr:fr.roundOf=none) (ht:fr.todo=.inRegion ops []::.code (.cond (.tmp d) (.refuse m) e)::k) (hv:∀b,fr.eval (.tmp d)=.bool b->b=true):Ej P s g nf bu u (G fr cs)
 | dead (fr:Frame) (cs:List Frame) (ops:Array Oper) (i:Nat) (rest:List Nat) (k:List Item) (o:Oper) (t:TypeId) (kd:IntKind) (d:Nat) (hm:fr.mode=.run) (hr:fr.roundOf=none) (hkd:fr.kind=.normal) (ht:fr.todo=.inRegion ops (i::rest)::k) (ho:ops[i]?=some o) (hg:o.guard=none) (hop:o.op=.load t (.tmp d)) (hty:P.underlying t=some (.int kd)) (hv:(∃a e,fr.eval (.tmp d)=.pointer (some a)/\u.heap[a.block]?=some (.cells #[] e (0,0))/\a.spot=none)\/fr.eval (.tmp d)=undef):Ej P s g nf bu u (G fr cs)
theorem Mc{u:World}(hp:∀(b:Nat)(c:Array Value)(t:TypeId),u.heap[b]?=some (Obj.pending c t)->gN<=b)(n:Nat):J0 X0 n u u:=⟨rfl,λ_ h=>h.elim,λ_ _=>rfl,λ_ h=>h.elim,hp,rfl,rfl,λ_ _ _=>rfl⟩
theorem SR.all{r:Rn}{l:List Frame}(h:SR P s g nf r l l'):∀c∈l,FrB P s g nf c/\c.mode=.run:=by
 induction h with
 | nil=>intro c hc;simp at hc
 | cons h b m w _ ih =>
  grind
theorem Oi(h:FrB P s g nf fr)(c:List PanicEntry):FrB P s g nf (fr.raise c)/\∃ch,(fr.raise c).mode=.panicking ch:=by
 unfold Frame.raise;split<;>exact⟨⟨h.todo,h.defers,h.kind,h.round,h.fn⟩,_,rfl⟩
theorem Pp(S:De P s g nf){r:Rn}{u w:World}(h:JU P s g nf r fr seg u fr' seg' w)(hm:fr.mode=.run){k:List Item}(ht:fr.todo=.inRegion ops (i::rest)::k)(hk:Aj P s g nf (.inRegion ops rest::k))
  {q q':Sem Next} (hq:RS P r QN q q') (hs:Sound P X0 q) (hE:∀f args w es w' es',q.runT P w es=(.ok (.enter f args) w',es')->DP P s g nf f)
  {g1:Goroutine} {u1:World} {es:Array Event} (he:stepG.apply P true fr (seg++bu) none q u=.go g1 u1 es) :
  Good P s g nf r bu bw w g1 u1 (stepG.apply P true fr' (seg'++bw) none q' w)\/Ej P s g nf bu u1 g1:=by
 have a5:(fr.kind==CallKind.early)=false:=by rw[h.top.kind];rfl
 have a1:(fr'.kind==CallKind.early)=false:=by rw[h.fr.k,h.top.kind];rfl
 have a6:fr'.todo=.inRegion ops (i::rest)::k:=by rw[h.fr.t,ht]
 have ha:=hs (Ik (q.runT P u #[]).1) u u #[] (Mc h.pend _) (.inl (Nat.le_add_left _ _));unfold stepG.apply at he ⊢
 generalize hu:q.runT P u #[]=ru at he ha;simp only[a5,ht,if_true,Bool.false_eq_true,if_false] at he;match ru,hu,he,ha with
 | (.ok n u1',eu),hu,he,ha =>
  obtain⟨r1,n',w1,ew,e1,e2,e3,e4,e5,e6⟩:=hq u w #[] #[] h.wr n u1' eu hu;obtain⟨_,w2,a7,a4⟩:=ha
  have a2:∀(b:Nat)(c:Array Value)(t:TypeId),u1'.heap[b]?=some (Obj.pending c t)->gN<=b:=by
   obtain⟨_,_,_,_,a0⟩:=a4.drew;exact a0.pendU
  have a3:∀e∈seen P fr'.fn ew ++ #[],DZ r1 e:=λe hx=>by
   rw[Array.append_empty] at hx;exact (e6 e (mem_seen hx)).elim (λhx=>by simp at hx) id
  simp only[e1,a1,a6,if_true,Bool.false_eq_true,if_false];cases e4 with
  | value hv =>
   simp only[GStep.after] at he;cases he
   exact .inl ⟨r1,fr.finish _,seg,fr'.finish _,seg',w1,_,rfl,by simp only[GStep.after];rfl,e2,⟨h.ok.mono e2,e3,a2,h.top.fin _ ht hk,(h.fr.mono e2).finish hv ht,h.rest.mono e2⟩,.inl (by rw[← hm];unfold Frame.finish;rw[ht]),e5,a3⟩
  | skip =>
   simp only[GStep.after] at he;cases he
   exact .inl ⟨r1,fr.finish undef,seg,fr'.finish undef,seg',w1,_,rfl,by simp only[GStep.after];rfl,e2,⟨h.ok.mono e2,e3,a2,h.top.fin _ ht hk,(h.fr.mono e2).finish Gc ht,h.rest.mono e2⟩,.inl (by rw[← hm];unfold Frame.finish;rw[ht]),e5,a3⟩
  | enter f hc =>
   simp only[GStep.after] at he;cases he
   have hb:=hE _ _ _ _ _ _ hu;exact .inl ⟨r1,Frame.enter P f _ .normal,fr::seg,Frame.enter P f _ .normal,fr'::seg',w1,_,rfl,by simp only[GStep.after];rfl,e2,⟨h.ok.mono e2,e3,a2,.enter hb _,.enter f hc,.cons (h.fr.mono e2) h.top hm ⟨ops,i,rest,k,ht,hk⟩ (h.rest.mono e2)⟩,.inl rfl,e5,a3⟩
 | (.halt kk u1',eu),hu,he,⟨h0,_⟩ =>
  cases kk with
  | panic v =>
   simp only[GStep.after] at he;cases he
   obtain⟨a,ch,b⟩:=Oi h.top [{v,recovered:=false}];exact .inr (.pan _ seg ch b a h.rest.all)
  | stuck x=>simp only[GStep.after] at he;cases he
  | unsupported x =>
   cases x with
   | initOrder gg =>
    have hg:gN<=gg:=by simpa [Ca] using h0
    rcases CM (fr:=fr) S.lo hg (seg++bu) u1' with⟨o,x,es,e⟩|⟨c,t,_,hfo,_⟩
    .simp only[e,GStep.after] at he;cases he
    .rw[S.ahead] at hfo;cases hfo
   | _=>first|(cases h0;done)|(simp only[GStep.after] at he;cases he)
  | _=>cases h0
end
section
variable {P:Program} {main:Bool} {s:FZs} {g:Nat->Bool} {nf:TypeId->Bool} {r:Rn} {T T':Array Value}
theorem VR.boolIff{v v':Value}(h:VR r v v')(b:Bool):v'=.bool b↔v=.bool b:=by cases h<;>simp
theorem AbG(S:De P s g nf)(f:Nat)(hf:s f=true)(c c':Array Value)(h:F1 r c c'):RS P r QN (callFunc f c) (callFunc f c'):=by
 rcases S.out f hf with⟨fn,body,h1,h2,_,h4⟩|⟨h1,_⟩
 .exact RS.body h1 (by grind) h4 h
 .exact h1 r c c' h
theorem AbH(S:De P s g nf)(h:LD P s g nf o=true){f:FuncId}{w:World}(he:(execOp (ev T) o).runT P w es=(.ok (.enter f args) w',es')):DP P s g nf f:=by
 obtain⟨hB,hO⟩:=SF h
 have no:∀{q:Sem Next},Go.Proofs.YtaffjphkobhagaaGreatDoor.Ends P Plain q->q.runT P w es=(.ok (.enter f args) w',es')->False:=λhq he=>by
  rcases hq _ _ _ _ _ he with⟨v,e⟩|e<;>cases e
 rcases WA hO with⟨f',xs,ats,hop,hf⟩|⟨b,xs,ats,hop,hb⟩|⟨rr,name,xs,ats,hop,_⟩|⟨a,b,x,hop,hc⟩|hp
 .rw[FB o hop] at he;rcases S.lo.out f' hf with⟨fn,body,h1,h2,_,h4⟩|hx
  .have e2:(callFunc f' (xs.map (ev T))).runT P w es=(.ok (.enter f' (xs.map (ev T))) w,es):=by
    unfold callFunc;show Sem.runT P (match P.funcs[f']? with|none=>_|some fn=>_) w es=_
    rw[h1];have hb:fn.body.isNone=false:=by rw[h2];rfl
    simp only[h4,hb];rfl
   rw[e2] at he;cases he
   rcases S.out _ hf with h|⟨_,fn',h5,h6⟩
   .exact h
   .simp_all
  .exact (no (hx X0 _).2 he).elim
 .exact (no (ME (λ_ _ h=>h) _ o hop hb).2 he).elim
 .exfalso
  unfold ZG at hB;rw[hop] at hB;cases hB
 .exact (no (MG (λ_ _ h=>h) _ o hop hc).2 he).elim
 .exact (no (Ra _ o hp (X:=X0)).2 he).elim
theorem Nh(hT:F1 r T T')(ops:Array Oper)(o:Oper):Region.wanted o (yielded ops T')=Region.wanted o (yielded ops T):=by
 have e:yielded ops T'=yielded ops T:=by
  funext j
  unfold yielded;cases hd:(ops[j]?).bind (·.dst) with
  | none=>rfl
  | some d =>
   simp only[Option.bind_some];cases hc:T[d]? with
   | none=>rw[hT.none hc]
   | some v =>
    obtain⟨v',a0,hv⟩:=hT.some hc;rw[a0];cases hv<;>rfl
 rw[e]
inductive Ly (u:World) (b:Nat):Prop
 | cells (c:Array Value) (e:TypeId) (f:Nat×Nat) (h:u.heap[b]?=some (.cells c e f)) (hf:f.2<=c.size):Ly u b
 | view (x:Addr) (t:TypeId) (h:u.heap[b]?=some (.view x t)):Ly u b
 | num (x:Addr) (l:Bool) (h:u.heap[b]?=some (.number x l)):Ly u b
theorem WR.ly{u w:World}(hr:WR P r u w){b b':Nat}(h:r.B b b'):Ly u b:=by
 cases hr.at h with
 | low c e f hv hb hl hu hw hc nb=>exact .cells c e _ hu (A3 _)
 | cells c c' e f ho hb hu hw hf hc=>exact .cells c e f hu hf
 | view x x' t ho hb hu hw hx _=>exact .view x t hu
 | num x x' l ho hb hu hw hx=>exact .num x l hu
theorem DQ(u:World)(a)(es:Array Event):(frozen a).runT P u es=(.ok (u.frozen? a) u,es):=rfl
theorem EL(u:World)(b)(es:Array Event):(shape b).runT P u es=(.ok (u.shape? b) u,es):=rfl
theorem VJ{u:World}{a:Addr}(h:Ly u a.block)(es:Array Event):∃x,(stringish a).runT P u es=(.ok x u,es)/\(x=true->u.frozen? a=true/\∃e n,u.shape? a.block=some (e,n)/\n≠0):=by
 have a0:∀(sh:Option (TypeId×Nat)),u.shape? a.block=sh->u.frozen? a=false->(∀t n,sh=some (t,n)->u.frozen? {block:=a.block,off:=n}=false)->(stringish a).runT P u es=(.ok false u,es):=λsh h1 h2 h3=>by
  unfold stringish;show ((frozen a).bind _).runT P u es=_
  rw[Sem.runT_bind',DQ,h2];show ((shape a.block).bind _).runT P u es=_
  rw[Sem.runT_bind',EL,h1];cases sh with
  | none=>rfl
  | some q =>
   show (frozen {block:=a.block,off:=q.2}).runT P u es=_
   rw[DQ,h3 q.1 q.2 rfl]
 cases h with
 | cells c e f h hf =>
  have hs:u.shape? a.block=some (e,c.size):=by simp[World.shape?,h]
  by_cases hz:u.frozen? a=true
  .refine⟨true,?_,λ_=>⟨hz,e,c.size,hs,?_⟩⟩
   .unfold stringish;show ((frozen a).bind _).runT P u es=_
    rw[Sem.runT_bind',DQ,hz];rfl
   .simp[World.frozen?,h] at hz;omega
  .refine⟨false,a0 _ hs (by simpa using hz) (λt n e=>?_),λhx=>by cases hx⟩;cases e
   simp[World.frozen?,h];omega
 | view x t h=>exact⟨false,a0 none (by simp[World.shape?,h]) (by simp[World.frozen?,h]) (λt n e=>by cases e),λhx=>by cases hx⟩
 | num x l h=>exact⟨false,a0 none (by simp[World.shape?,h]) (by simp[World.frozen?,h]) (λt n e=>by cases e),λhx=>by cases hx⟩
theorem VL{u:World}{y:Addr}(hL:Ly u y.block){α:Type}{f:Unit->Sem α}{q:α}(he:(noView y >>= f).runT P u es=(.ok q u',es')):∃es2,(f ()).runT P u es2=(.ok q u',es'):=by
 have he:((noView y).bind f).runT P u es=_:=he;rw[Sem.runT_bind'] at he
 have vw:∀(v:Option (Addr×TypeId)) (a0:Array Event),(viewAt y.block).runT P u es=(.ok v u,a0)->(noView y).runT P u es=if v.isSome then (.halt _ u,a0) else (.ok () u,a0):=λv a0 e=>by
  unfold noView;show ((viewAt y.block).bind _).runT P u es=_
  rw[Sem.runT_bind',e];cases v<;>rfl
 have sh:∀o,u.heap[y.block]?=some o->u.shape? y.block=none->∃a0:Array Event,(viewAt y.block).runT P u es=((match o with | .view a t=>(pure (some (a,t)):Sem _)|_=>pure none).runT P u a0):=λo h1 h2=>by
  have e:∃a0,(getObj y.block).runT P u es=(.ok o u,a0):=by
   simp only[getObj,Sem.runT,h1];unfold World.shape? at h2;rw[h1] at h2;cases o<;>first|exact⟨_,rfl⟩|(cases h2;done)
  obtain⟨a0,e⟩:=e;refine⟨a0,?_⟩;show ((shape y.block).bind _).runT P u es=_
  rw[Sem.runT_bind',EL,h2];show ((getObj y.block).bind _).runT P u es=_
  rw[Sem.runT_bind',e];rfl
 cases hL with
 | cells c e f1 h hf =>
  have e2:(viewAt y.block).runT P u es=(.ok none u,es):=by
   unfold viewAt;show ((shape y.block).bind _).runT P u es=_
   rw[Sem.runT_bind',EL,show u.shape? y.block=some (e,c.size) by simp[World.shape?,h]];rfl
  rw[vw _ _ e2] at he;exact⟨es,he⟩
 | view x t h =>
  obtain⟨a0,e3⟩:=sh _ h (by simp[World.shape?,h]);rw[vw _ _ e3] at he;cases he
 | num x l h =>
  obtain⟨a0,e3⟩:=sh _ h (by simp[World.shape?,h]);rw[vw _ _ e3] at he;exact⟨a0,he⟩
theorem Aeb{u:World}{a b:Addr}(hLa:Ly u a.block)(hLb:Ly u b.block)(hff:¬(u.frozen? a&&u.frozen? b)=true)(es:Array Event):(mayBeOne a b).runT P u es=(.ok false u,es):=by
 obtain⟨sa,s1,s2⟩:=VJ (P:=P) hLa es;obtain⟨sb,s3,s4⟩:=VJ (P:=P) hLb es;unfold mayBeOne;dsimp only
 show ((stringish a).bind _).runT P u es=_
 rw[Sem.runT_bind',s1];show ((stringish b).bind _).runT P u es=_
 rw[Sem.runT_bind',s3]
 have hn:∀(x:Addr) e n,u.shape? x.block=some (e,n)->n≠0->((shape x.block).bind λq=>(pure _:Sem Bool)).runT P u es=(.ok false u,es):=λx e n h1 h2=>by
  rw[Sem.runT_bind',EL,h1];cases n with
  | zero=>exact absurd rfl h2
  | succ n=>rfl
 have a0:∀(x:Addr),∃z,((shape x.block).bind λq=>(pure (q matches some (_,0)))).runT P u es=(.ok z u,es):=λx=>⟨_,by rfl⟩;show (((shape a.block).bind λq=>(pure _:Sem Bool)).bind λx=>((shape b.block).bind λq=>_).bind λy=>pure _).runT P u es=_
 obtain⟨z1,a1⟩:=a0 a;obtain⟨z2,a2⟩:=a0 b;show (((shape b.block).bind λq=>(pure (q matches some (_,0)))).bind λy=>pure _).runT P u es=_
 rw[Sem.runT_bind',a2];show (Result.ok _ u,es)=_
 cases sa<;>cases sb
 .rfl
 .grind
 .grind
 .simp_all
theorem Xu{u w:World}(hr:WR P r u w){a a' b b':Addr}(ha:r.A a a')(hb:r.A b b')(hne:a.block≠b.block){x:Bool}(he:(sameAddr a b).runT P u es=(.ok x u',es')):x=false:=by
 have a0:=hr.ly ha.b;have a1:=hr.ly hb.b;have a3:(a.block==b.block)=false:=by simpa using hne
 unfold sameAddr at he;simp only[a3,Bool.false_eq_true,if_false] at he;have he:((frozen a).bind _).runT P u es=_:=he;have he:((frozen b).bind _).runT P u es=_:=he;rw[Sem.runT_bind',DQ] at he;by_cases hff:(u.frozen? a&&u.frozen? b)=true
 .simp_all
 .have he:Sem.runT P _ u es=_:=he;rw[if_neg hff] at he;obtain⟨a4,he⟩:=VL a0 he;obtain⟨a2,he⟩:=VL a1 he;have he:((mayBeOne a b).bind _).runT P u a2=_:=he;rw[Sem.runT_bind',Aeb a0 a1 hff] at he;cases he
  rfl
theorem ZH{t:TypeId}(ht:Da P t=true)(o o':Operand){x x' y y':Value}(hx:VR r x x')(hy:VR r y y'):RS P r Qt (eqGuard .neq t o o' x y) (eqGuard .neq t o o' x' y'):=by
 unfold Go.eqGuard;have tr:∀{r:Rn},RS P r Qt (Pure.pure ():Sem Unit) (Pure.pure ():Sem Unit):=λ{r}=>RS.pure (A:=Qt) trivial;cases hx with
 | nilIface =>
  cases hy with
  | nilIface =>
   have a0:∀(m:Unsupported),RS P r Qt (Op.eqGuardIn Op.maxDepth t .nilIface .nilIface >>= λb=>if b=true then unsupported m else Pure.pure ()) (Op.eqGuardIn Op.maxDepth t .nilIface .nilIface >>= λb=>if b=true then unsupported m else Pure.pure ()):=λm=>by
    refine RS.bind (A:=λ_ a a'=>a=false/\a'=false) ?_ (λr1 b b' _ h=>?_)
    .unfold Op.maxDepth Op.eqGuardIn;refine RS.bind (RS.undK t) λr1 d d' k1 hd=>?_;obtain⟨rfl,hd⟩:=hd;unfold Da at ht;rw[hd] at ht;cases d'<;>first|exact .pure ⟨rfl,rfl⟩|cases ht
    .simp_all
   cases o<;>cases o'<;>first|exact tr|exact a0 _
  | _=>exact tr
 | agg hs hh =>
  cases hy with
  | agg hs' hh' =>
   dsimp only
   simp only[Bool.not_true,Bool.false_eq_true,if_false];refine RS.program (RS.program ?_)
   have e:P.eqGuardType P.depth t=false:=by
    unfold Program.depth;unfold Program.eqGuardType;unfold Da at ht;cases hu:P.underlying t with
    | none=>simp[hu] at ht
    | some d=>rw[hu] at ht;cases d<;>first|rfl|cases ht
   rw[e];exact tr
  | _=>exact tr
 | _=>cases hy<;>exact tr
theorem ZI{t:TypeId}(ht:Da P t=true){x x' y y':Value}(hx:VR r x x')(hy:VR r y y')(hb:∀a b,x=.pointer (some a)->y=.pointer (some b)->a.block=b.block\/∃e i,P.underlying t=some (.pointer e)/\P.info? e=some i/\i.size=0):RS P r Qe (Op.equal t x y) (Op.equal t x' y'):=by
 unfold Op.equal Op.maxDepth Op.equalIn;refine RS.bind (RS.undK t) λr1 d d' k1 hd=>?_;obtain⟨rfl,hd⟩:=hd;unfold Da at ht;rw[hd] at ht;have hx:=hx.mono k1;have hy:=hy.mono k1;cases d' with
 | pointer e =>
  cases hx with
  | ptr0=>cases hy<;>first|exact RS.pure rfl|exact RS.halt
  | ptr h =>
   cases hy with
   | ptr h2 =>
    rename_i a a' b b';refine RS.bind (A:=λ_ n n'=>n'=n/\∃i,P.info? e=some i/\n=i.size) ?_ λr2 n n' k2 hn=>?_
    .unfold sizeOf;exact RS.bind (RS.info e) λ_ _ _ _ h=>by obtain⟨rfl,h⟩:=h;exact .pure ⟨rfl,_,h,rfl⟩
    obtain⟨rfl,i,hi,rfl⟩:=hn;have h:=h.mono k2;have h2:=h2.mono k2;refine RS.look λu w hr=>?_;have e1:=Af6 hr h h2;have e2:=Xa hr h.b h2.b;by_cases hz:i.size≠0
    .simp only[if_pos hz]
     have a0:a.block=b.block:=by
      simp_all
     unfold Go.sameAddr;have e3:(a.block==b.block)=true:=by simpa using a0
     rw[e2,e3,e1];exact RS.pure rfl
    .simp only[if_neg hz,e1];split
     .exact RS.pure rfl
     .exact RS.bind (RS.choose _) λ_ _ _ _ hc=>by cases hc;exact RS.pure rfl
   | ptr0=>exact RS.pure rfl
   | _=>exact RS.halt
  | _=>cases hy<;>exact RS.halt
 | _=>cases ht
theorem AfF{t:TypeId}(ht:Da P t=true)(o o':Operand){x x' y y':Value}(hx:VR r x x')(hy:VR r y y')(hb:∀a b,x=.pointer (some a)->y=.pointer (some b)->a.block=b.block\/∃e i,P.underlying t=some (.pointer e)/\P.info? e=some i/\i.size=0):RS P r Qv (do Go.eqGuard .neq t o o' x y;Go.binOp .neq t x y) (do Go.eqGuard .neq t o o' x' y';Go.binOp .neq t x' y'):=by
 refine RS.bind (ZH ht o o' hx hy) λr1 _ _ k1 _=>?_;have hx:=hx.mono k1;have hy:=hy.mono k1;have a0:RS P r1 Qv (do Pure.pure (Value.bool (!(← Op.equal t x y)))) _:=RS.bind (ZI ht hx hy hb) λ_ _ _ _ h=>by cases h;exact RS.pure (.bool _)
 cases hx with
 | int k m =>
  cases hy with
  | int k' n =>
   show RS P r1 Qv (if k≠k' then stuck "BinOp: operands of different kinds" else Op.intCmp .neq m n) (if k≠k' then stuck "BinOp: operands of different kinds" else Op.intCmp .neq m n)
   by_cases e:k≠k'
   .rw[if_pos e];exact RS.halt
   .rw[if_neg e];exact RS.intCmp _ _ _
  | _=>exact a0
 | string q =>
  cases hy with
  | string q'=>exact RS.stringOp .neq q q'
  | _=>exact a0
 | _=>cases hy<;>exact a0
theorem Aec{u w:World}(hr:WR P r u w){t:TypeId}(ht:Da P t=true)(o o':Operand){a a' b b':Addr}(ha:r.A a a')(hb:r.A b b')(hne:a.block≠b.block)(hz:¬∃e i,P.underlying t=some (.pointer e)/\P.info? e=some i/\i.size=0){v:Value}(he:(do Go.eqGuard .neq t o o' (.pointer (some a)) (.pointer (some b));Go.binOp .neq t (.pointer (some a)) (.pointer (some b))).runT P u es=(.ok v u',es')):v=.bool true:=by
 unfold Da at ht;cases hu:P.underlying t with
 | none=>rw[hu] at ht;cases ht
 | some d =>
  rw[hu] at ht;cases d with
  | pointer e =>
   have he:((Op.equal t _ _).bind λq=>_).runT P u es=_:=he;rw[Sem.runT_bind'] at he
   have e1:(underlying t).runT P u es=(.ok (.pointer e) u,es):=by
    show Sem.runT P (match P.underlying t with|some d=>_|none=>_) u es=_
    rw[hu];rfl
   have e2:(Op.equal t (.pointer (some a)) (.pointer (some b))).runT P u es=(do if (← sizeOf e)≠0 then sameAddr a b else if a==b then pure true else pure ((← choose .zeroSizeEq)=1):Sem Bool).runT P u es:=by
    unfold Op.equal Op.maxDepth Op.equalIn;show ((underlying t).bind _).runT P u es=_
    rw[Sem.runT_bind',e1]
   have e3:(Op.equal t (.pointer (some a)) (.pointer (some b))).runT P u es=(match P.info? e with|some i=>if i.size≠0 then sameAddr a b else if a==b then pure true else (do pure ((← choose .zeroSizeEq)=1))|none=>stuck "no such type":Sem Bool).runT P u es:=by
    rw[e2];show ((sizeOf e).bind _).runT P u es=_
    rw[Sem.runT_bind'];cases hi:P.info? e with
    | none =>
     have:(sizeOf e).runT P u es=(.halt (.stuck "no such type") u,es):=by
      show Sem.runT P (Sem.bind (match P.info? e with|some i=>_|none=>_) _) u es=_
      rw[hi];rfl
     rw[this];rfl
    | some i =>
     have:(sizeOf e).runT P u es=(.ok i.size u,es):=by
      show Sem.runT P (Sem.bind (match P.info? e with|some i=>_|none=>_) _) u es=_
      rw[hi];rfl
     rw[this]
   cases hi:P.info? e with
   | none=>rw[hi] at e3;rw[e3] at he;cases he
   | some i =>
    rw[hi] at e3;have a0:i.size≠0:=λh=>hz ⟨e,i,hu,hi,h⟩;simp only[if_pos a0] at e3;cases hq:(sameAddr a b).runT P u es with
    | mk res es1 =>
     rw[hq] at e3;rw[e3] at he;cases res with
     | ok q u1 =>
      have:=Xu hr ha hb hne hq;subst this;cases he
      rfl
     | halt k u1=>cases he
  | _=>cases ht
theorem SG(S:De P s g nf){u w:World}(h:JU P s g nf r fr seg u fr' seg' w){k:List Item}(ht:fr.todo=.inRegion ops (i::rest)::k)
  {q:Sem Next} (hs:Sound P X0 q) {kk:Halt} {u1':World} {eu:Array Event} (hu:q.runT P u #[]=(.halt kk u1',eu)) {g1:Goroutine} {u1:World} {es:Array Event} (he:stepG.apply P true fr (seg++bu) none q u=.go g1 u1 es):Ej P s g nf bu u1 g1:=by
 have a0:(fr.kind==CallKind.early)=false:=by rw[h.top.kind];rfl
 have ha:=hs _ u u #[] (Mc h.pend _) (.inl (Nat.le_add_left _ _));unfold stepG.apply at he;rw[hu] at he ha;simp only[a0,ht,if_true,Bool.false_eq_true] at he;obtain⟨h0,_⟩:=ha;cases kk with
 | panic v =>
  simp only[GStep.after] at he;cases he
  obtain⟨a,ch,b⟩:=Oi h.top [{v,recovered:=false}];exact .pan _ seg ch b a h.rest.all
 | stuck x=>cases he
 | unsupported x =>
  cases x with
  | initOrder gg =>
   have hg:=by simpa [Ca] using h0
   rcases CM (fr:=fr) S.lo hg (seg++bu) u1' with⟨o,x,es,e⟩|⟨c,t,_,hfo,_⟩
   .simp only[e] at he;cases he
   .rw[S.ahead] at hfo;cases hfo
  | _=>first|(done)|(cases he)
 | _=>cases h0
theorem Aed(S:De P s g nf){u w:World}(h:JU P s g nf r fr seg u fr' seg' w)(hm:fr.mode=.run){d:Nat}{m:String}{k:List Item}(hto:fr.todo=.inRegion ops [i]::.code (.cond (.tmp d) (.refuse m) e)::k)(t:Aj P s g nf (.inRegion ops []::.code (.cond (.tmp d) (.refuse m) e)::k))(ho:ops[i]?=some o)(hc:Xs P s g d o=true)(he:stepG P true (G fr (seg++bu)) u=.go g1 u1 es):
  Good P s g nf r bu bw w g1 u1 (stepG P main (G fr' (seg'++bw)) w)\/Ej P s g nf bu u1 g1:=by
 have a2:=h.top.round;have a7:fr'.mode=.run:=by rw[h.fr.m,hm]
 have a3:fr'.roundOf=none:=by rw[h.fr.ro,a2]
 have a4:=h.fr.t;unfold Xs at hc;simp only[Bool.and_eq_true,beq_iff_eq] at hc;obtain⟨⟨⟨hd,a6⟩,hc⟩,hl⟩:=hc;cases hop:o.op with
 | binOp op ty x y z =>
  rw[hop] at hc;cases op with
  | neq =>
   simp only[Bool.and_eq_true] at hc;obtain⟨⟨hx,hy⟩,hp⟩:=hc;have hw:∀y,Region.wanted o y=true:=λy=>by unfold Region.wanted;rw[Option.isNone_iff_eq_none.1 a6]
   have e1:∀(main:Bool)(f:Frame)(cs:List Frame)(x:World),f.mode=.run->f.todo=.inRegion ops [i]::.code (.cond (.tmp d) (.refuse m) e)::k->f.roundOf=none->stepG P main (G f cs) x=stepG.apply P true f cs none (execOp (ev f.tmps) o) x:=λmain f cs x h1 h2 h3=>by
    rw[← Db f];simp[stepG,stepG.exec,G,h1,h2,ho,hw,stepG.oper,Frame.oper?,h3]
   have e2:∀T,execOp (ev T) o=(do pure (.value (← (do Go.eqGuard .neq ty x y (ev T x) (ev T y);Go.binOp .neq ty (ev T x) (ev T y)))):Sem Next):=λT=>by
    unfold execOp;rw[hop]
   rw[e1 true fr _ _ hm hto a2] at he;rw[e1 main fr' _ _ a7 (by rw[a4,hto]) a3];have vx:=Jz h.ok h.fr.all hx;have vy:=Jz h.ok h.fr.all hy;by_cases a5:∀a b,ev fr.tmps x=.pointer (some a)->ev fr.tmps y=.pointer (some b)->a.block=b.block\/∃e i,P.underlying ty=some (.pointer e)/\P.info? e=some i/\i.size=0
   .have q1:=S.op fr hl;rw[Db fr] at q1;refine Pp S h hm hto t ?_ q1 ?_ he
    .rw[e2,e2];exact RS.v (AfF hp x y vx vy a5)
    .intro f args w0 es0 w' es' hh;rw[e2] at hh;have hh:(Sem.bind _ _).runT P w0 es0=_:=hh;rw[Sem.runT_bind'] at hh;split at hh<;>cases hh
   .have a5:∃a b,ev fr.tmps x=.pointer (some a)/\ev fr.tmps y=.pointer (some b)/\¬(a.block=b.block\/∃e i,P.underlying ty=some (.pointer e)/\P.info? e=some i/\i.size=0):=by
     simp_all
    obtain⟨a,b,ha,hb,hn⟩:=a5;rw[ha] at vx;rw[hb] at vy;generalize ev fr'.tmps x=vx' at vx;generalize ev fr'.tmps y=vy' at vy;have q1:=S.op fr hl;rw[Db fr] at q1;have a8:a.block≠b.block:=λh=>hn (.inl h);have a9:=λh=>hn (.inr h);have b0:=he;rw[e2,ha,hb] at he;have b1:(fr.kind==CallKind.early)=false:=by rw[h.top.kind];rfl
    unfold stepG.apply at he;right
    generalize hq:(do Go.eqGuard .neq ty x y (.pointer (some a)) (.pointer (some b));Go.binOp .neq ty (.pointer (some a)) (.pointer (some b)):Sem Value)=q at he
    have a1:(do pure (.value (← q)):Sem Next).runT P u #[]=(match q.runT P u #[] with|(.ok v u',es')=>(.ok (.value v) u',es')|(.halt k u',es')=>(.halt k u',es')):=by
     show (Sem.bind _ _).runT P u #[]=_
     rw[Sem.runT_bind'];cases q.runT P u #[] with
     | mk res es2=>cases res<;>rfl
    rw[a1] at he;simp only[b1,hto,if_true,Bool.false_eq_true,if_false] at he;cases hres:q.runT P u #[] with
    | mk res es2 =>
     rw[hres] at he;cases res with
     | ok v u' =>
      simp only[GStep.after] at he;cases he
      cases vx with
      | ptr vx=>cases vy with
       | ptr vy =>
        have hv:=Aec h.wr hp x y vx vy a8 a9 (by rw[hq];exact hres);subst hv;refine .neq _ _ ops d m e k (by rw[← hm];unfold Frame.finish;rw[hto]) (by rw[← a2];unfold Frame.finish;rw[hto]) (by unfold Frame.finish;rw[hto]) ?_;intro b' a0;unfold Frame.finish at a0;rw[hto] at a0;simp only[ho,hd,Option.bind_some] at a0;have a0:(fr.tmps.setIfInBounds d (.bool true)).getD d undef=.bool b':=a0;by_cases hlt:d<fr.tmps.size
        .simp_all
        .simp[Array.getD,hlt,undef] at a0
     | halt kk u' =>
      exact SG S h hto q1 (kk:=kk) (u1':=u') (eu:=es2) (by rw[e2,ha,hb,hq,a1,hres]) b0
  | _=>cases hc
 | _=>rw[hop] at hc;cases hc
def Yl(P:Program){α:Type}(Q:α->Prop)(q:Sem α):Prop:=∀w es a w' es',q.runT P w es=(.ok a w',es')->w'=w/\Q a
theorem Oj{α:Type}{Q:α->Prop}{a:α}(h:Q a):Yl P Q (Pure.pure a:Sem α):=λw es a w' es' e=>by simp_all
theorem Ol{α:Type}{Q:α->Prop}(k:Halt):Yl P Q (Sem.halt k:Sem α):=λw es a w' es' e=>by cases e
theorem IA{α β:Type}{Q:α->Prop}{R:β->Prop}{q:Sem α}{f:α->Sem β}(h:Yl P Q q)(hf:∀a,Q a->Yl P R (f a)):Yl P R (q >>= f):=λw es a w' es' hr=>by
 have hr:(q.bind f).runT P w es=_:=hr;rw[Sem.runT_bind'] at hr;match hq:q.runT P w es,hr with
 | (.ok b w1,e1),hr =>
  have e:=h _ _ _ _ _ hq;have e2:=hf b e.2 _ _ _ _ _ hr;grind
 | (.halt k w1,e1),hr=>cases hr
theorem Md{α:Type}{q:Sem α}(h:Bx P q):Yl P (λ_=>True) q:=λ_w _es _a _w' _es' e=>⟨h _ _ _ _ _ e,trivial⟩
theorem AbI{α:Type}{Q}{q:Sem α}(h:E7 P q):Yl P Q q:=λ_w _es _a _w' _es' e=>(h _ _ _ _ _ e).elim
theorem AbJ(t:TypeId)(a:Addr)(v:Value):Yl P (λx=>∃n,x=Value.pointer (some (a.add n))) (Instr.indexAt t (.pointer (some a)) v):=by
 unfold Instr.indexAt;refine IA (Q:=λ_=>True) ?_ λki _=>?_
 .unfold asIntOf;split<;>first|exact Oj trivial|exact Ol _
 .refine IA (Md (Ki t)) λd _=>?_;cases d with
  | array len elem =>
   change Yl P _ (underlying t >>= _)
   refine IA (Md (Ki t)) λd2 _=>?_;dsimp only
   split
   .exact IA (Md (Q7 (MJ elem) λ_=>O5 _)) λn _=>Oj ⟨_,rfl⟩
   .generalize (decide (len<=1)&&(match d2 with | .array ..=>true|_=>false))=tiny;cases tiny
    .exact AbI (AZ _ _ _ _)
    .exact Ol _
  | _=>exact Ol _
theorem VM(n m:Nat):((⟨n,0,none⟩:Addr).add m).block=n/\((⟨n,0,none⟩:Addr).add m).spot=none:=by
 unfold Addr.add;grind
theorem AbK(S:De P s g nf){u w:World}(h:JU P s g nf r fr seg u fr' seg' w)(hm:fr.mode=.run){k:List Item}(hto:fr.todo=.inRegion ops (i::(i+1)::rest)::k){o':Oper}(ho:ops[i]?=some o)(ho':ops[i+1]?=some o')(hc:Xt P s g o o'=true)(he:stepG P true (G fr (seg++bu)) u=.go g1 u1 es):Ej P s g nf bu u1 g1:=by
 have a4:=h.top.round;unfold Xt at hc;simp only[Bool.and_eq_true] at hc;obtain⟨⟨⟨hg,a2⟩,hl⟩,hc⟩:=hc;have hg:=Option.isNone_iff_eq_none.1 hg;have a2:=Option.isNone_iff_eq_none.1 a2;split at hc
 .rename_i t n x d t' d' hop hdst hop';simp only[Bool.and_eq_true,beq_iff_eq,Bool.not_eq_true',decide_eq_true_eq] at hc;obtain⟨⟨⟨a5,a6⟩,hn⟩,a1⟩:=hc;subst a5
  have a1:∃kd,P.underlying t'=some (.int kd):=by
   grind
  obtain⟨kd,a1⟩:=a1;have hw:∀y,Region.wanted o y=true:=λy=>by unfold Region.wanted;rw[hg]
  have e1:stepG P true (G fr (seg++bu)) u=stepG.apply P true fr (seg++bu) none (execOp (ev fr.tmps) o) u:=by
   rw[← Db fr];simp[stepG,stepG.exec,G,hm,hto,ho,hw,stepG.oper,Frame.oper?,a4]
  rw[e1] at he;have q1:=S.op fr hl;rw[Db fr] at q1;have a7:=he;have a8:(fr.kind==CallKind.early)=false:=by rw[h.top.kind];rfl
  have e2:execOp (ev fr.tmps) o=(do pure (.value (← Instr.indexAt t (Pz n 0) (ev fr.tmps x))):Sem Next):=by
   unfold execOp;rw[hop];rfl
  unfold stepG.apply at he;cases hres:(execOp (ev fr.tmps) o).runT P u #[] with
  | mk res es2 =>
   cases res with
   | halt kk u'=>exact SG S h hto q1 hres a7
   | ok nx u' =>
    have hy:Yl P (λnx=>∃m,nx=Next.value (.pointer (some ((⟨n,0,none⟩:Addr).add m)))) (execOp (ev fr.tmps) o):=by
     rw[e2];refine IA (AbJ t _ _) ?_;rintro v ⟨m,rfl⟩;exact Oj ⟨m,rfl⟩
    obtain⟨hu,m,rfl⟩:=hy _ _ _ _ _ hres;subst hu;rw[hres] at he;simp only[GStep.after] at he;cases he
    have a0:=h.wr.dead n (A1 hn h.ok.gl) (h.ok.only n hn a6);obtain⟨e,a0⟩:=a0;refine .dead _ _ ops (i+1) rest k o' t' kd d (by rw[← hm];unfold Frame.finish;rw[hto]) (by rw[← a4];unfold Frame.finish;rw[hto]) (by rw[← h.top.kind];unfold Frame.finish;rw[hto]) (by unfold Frame.finish;rw[hto]) ho' a2 hop' a1 ?_
    have a3:(fr.finish (.pointer (some ((⟨n,0,none⟩:Addr).add m)))).eval (.tmp d)=(fr.tmps.setIfInBounds d (.pointer (some ((⟨n,0,none⟩:Addr).add m)))).getD d undef:=by
     unfold Frame.finish;rw[hto];simp only[ho,hdst,Option.bind_some];rfl
    rw[a3];by_cases hlt:d<fr.tmps.size
    .left
     refine⟨(⟨n,0,none⟩:Addr).add m,e,by simp[Array.getD,hlt],?_,(VM n m).2⟩;rw[(VM n m).1];exact a0
    .simp_all
 .cases hc
theorem Aee(S:De P s g nf){u w:World}(h:JU P s g nf r fr seg u fr' seg' w)(hm:fr.mode=.run)(he:stepG P true (G fr (seg++bu)) u=.go g1 u1 es):
  Good P s g nf r bu bw w g1 u1 (stepG P main (G fr' (seg'++bw)) w)\/Ej P s g nf bu u1 g1:=by
 have a5:=h.top.round;have a6:fr'.mode=.run:=by rw[h.fr.m,hm]
 have a2:fr'.roundOf=none:=by rw[h.fr.ro,a5]
 have a1:=h.fr.t
 have a0:∀l,Aj P s g nf l->(∀(main:Bool)(f:Frame)(cs:List Frame)(x:World),f.mode=.run->f.todo=fr.todo->f.roundOf=none->(∀c,f.eval c=fr.eval c\/∀b:Bool,fr.eval c=.bool b->f.eval c=.bool b)->stepG P main (G f cs) x=.go (G {f with todo:=l} cs) x #[])->Good P s g nf r bu bw w g1 u1 (stepG P main (G fr' (seg'++bw)) w)\/Ej P s g nf bu u1 g1:=λl hl e=>by
  rw[e true fr _ _ hm rfl a5 (λc=>.inl rfl)] at he;cases he
  have b2:∀c,fr'.eval c=fr.eval c\/∀b:Bool,fr.eval c=.bool b->fr'.eval c=.bool b:=λc=>by
   cases c with
   | tmp t =>
    right
    intro b hb;have hT:=h.fr.all;have:fr.tmps.getD t undef=.bool b:=hb;show fr'.tmps.getD t undef=.bool b
    by_cases e:t<fr.tmps.size
    .have e':t<fr'.tmps.size:=by rw[← hT.size];exact e
     simp only[Array.getD,e,e',dite_true] at this ⊢
     exact ((hT.get t _ _ (Array.getElem?_eq_getElem e) (Array.getElem?_eq_getElem e')).boolIff b).2 this
    .simp[Array.getD,e,undef] at this
   | const v=>exact .inl rfl
   | global n=>exact .inl rfl
   | func f=>exact .inl rfl
  exact .inl ⟨r,{fr with todo:=l},seg,{fr' with todo:=l},seg',w,#[],rfl,e main fr' _ _ a6 a1 a2 b2,.refl r,⟨h.ok,h.wr,h.pend,⟨hl,h.top.defers,h.top.kind,h.top.round,h.top.fn⟩,h.fr.todo l,h.rest⟩,.inl hm,.refl r w,dC⟩
 have a7:(∀(main:Bool)(f:Frame)(cs:List Frame)(x:World),f.mode=.run->f.todo=fr.todo->f.roundOf=none->stepG P main (G f cs) x=.go (G {f with mode:=.returning} cs) x #[])->Good P s g nf r bu bw w g1 u1 (stepG P main (G fr' (seg'++bw)) w)\/Ej P s g nf bu u1 g1:=λe=>by
  rw[e true fr _ _ hm rfl a5] at he;cases he
  exact .inl ⟨r,{fr with mode:=.returning},seg,{fr' with mode:=.returning},seg',w,#[],rfl,e main fr' _ _ a6 a1 a2,.refl r,⟨h.ok,h.wr,h.pend,⟨h.top.todo,h.top.defers,h.top.kind,h.top.round,h.top.fn⟩,h.fr.mode _,h.rest⟩,.inr rfl,.refl r w,dC⟩
 have op:∀{ops:Array Oper} {i:Nat} {rest:List Nat} {k:List Item},fr.todo=.inRegion ops (i::rest)::k->Aj P s g nf (.inRegion ops rest::k)->(∀o,ops[i]?=some o->LD P s g nf o=true)->Good P s g nf r bu bw w g1 u1 (stepG P main (G fr' (seg'++bw)) w)\/Ej P s g nf bu u1 g1:=λ{ops i rest k} hto hk hop=>by
  have b0:(∀(main:Bool)(f:Frame)(cs:List Frame)(x:World),f.mode=.run->f.todo=fr.todo->f.roundOf=none->(∀o,ops[i]?=some o->Region.wanted o (yielded ops f.tmps)=Region.wanted o (yielded ops fr.tmps))->stepG P main (G f cs) x=.go (G (f.finish undef) cs) x #[])->Good P s g nf r bu bw w g1 u1 (stepG P main (G fr' (seg'++bw)) w)\/Ej P s g nf bu u1 g1:=λe=>by
   rw[e true fr _ _ hm rfl a5 (λ_ _=>rfl)] at he;cases he
   exact .inl ⟨r,fr.finish undef,seg,fr'.finish undef,seg',w,#[],rfl,e main fr' _ _ a6 a1 a2 (λo _=>Nh h.fr.all ops o),.refl r,⟨h.ok,h.wr,h.pend,h.top.fin _ hto hk,h.fr.finish Gc hto,h.rest⟩,.inl (by rw[← hm];unfold Frame.finish;rw[hto]),.refl r w,dC⟩
  cases ho:ops[i]? with
  | none=>exact b0 λmain f cs x h1 h2 h3 h4=>by rw[hto] at h2;simp[stepG,stepG.exec,G,h1,h2,ho]
  | some o =>
   cases hw:Region.wanted o (yielded ops fr.tmps) with
   | false =>
    refine b0 λmain f cs x h1 h2 h3 h4=>?_;have h5:=(h4 o ho).trans hw;rw[hto] at h2;simp[stepG,stepG.exec,G,h1,h2,ho,h5]
   | true =>
    have hC:=hop o ho
    have e:∀(main:Bool)(f:Frame)(cs:List Frame)(x:World),f.mode=.run->f.todo=.inRegion ops (i::rest)::k->f.roundOf=none->Region.wanted o (yielded ops f.tmps)=true->stepG P main (G f cs) x=stepG.apply P true f cs none (execOp (ev f.tmps) o) x:=λmain f cs x h1 h2 h3 h4=>by
     rw[← Db f];simp[stepG,stepG.exec,G,h1,h2,ho,h4,stepG.oper,Frame.oper?,h3]
    rw[e true fr _ _ hm hto a5 hw] at he;rw[e main fr' _ _ a6 (by rw[a1,hto]) a2 (by rw[Nh h.fr.all];exact hw)];have q1:=S.op fr (SF hC).2;rw[Db fr] at q1;exact Pp S h hm hto hk (RS.op h.ok (λf hf c c' hc=>AbG S f hf c c' hc) h.fr.all o (SF hC).1) q1 (λf args w es w' es' hh=>AbH S hC hh) he
 have ht:=h.top.todo;cases hto:fr.todo with
 | nil=>exact a7 λmain f cs x h1 h2 h3=>by rw[hto] at h2;simp[stepG,stepG.exec,G,h1,h2,h3]
 | cons it k =>
  rw[hto] at ht;generalize hL:it::k=L at ht;cases ht with
  | nil=>cases hL
  | inBlock t=>cases hL;exact a0 k t λmain f cs x h1 h2 h3 _=>by rw[hto] at h2;simp[stepG,stepG.exec,G,h1,h2]
  | inScope hc t=>cases hL;exact a0 k t λmain f cs x h1 h2 h3 _=>by rw[hto] at h2;simp[stepG,stepG.exec,G,h1,h2]
  | inLoop hc t=>cases hL;rename_i c;exact a0 (.code c::.inLoop c::k) (.code hc (.inLoop hc t)) λmain f cs x h1 h2 h3 _=>by rw[hto] at h2;simp[stepG,stepG.exec,G,h1,h2]
  | reg hl t =>
   cases hL
   rename_i ops l;cases l with
   | nil=>exact a0 k t λmain f cs x h1 h2 h3 _=>by rw[hto] at h2;simp[stepG,stepG.exec,G,h1,h2]
   | cons i rest=>exact op hto (.reg (λj hj=>hl j (by simp[hj])) t) (hl i dC)
  | nin hn t =>
   cases hL
   rename_i ops j d m e k;cases hd:(List.range ops.size).drop j with
   | nil =>
    rw[hd] at hto;exact a0 (.code (.cond (.tmp d) (.refuse m) e)::k) t λmain f cs x h1 h2 h3 _=>by rw[hto] at h2;simp[stepG,stepG.exec,G,h1,h2]
   | cons i rest =>
    rw[hd] at hto
    have hj:j<ops.size:=by
     rcases Nat.lt_or_ge j ops.size with h1|h1
     .exact h1
     .rw[List.drop_eq_nil_of_le (by simpa using h1)] at hd;cases hd
    have b3:i=j/\rest=(List.range ops.size).drop (j+1):=by
     rw[D2 (by simpa using hj)] at hd;simp only[List.getElem_range,List.cons.injEq] at hd;exact⟨hd.1.symm,hd.2.symm⟩
    obtain⟨rfl,rfl⟩:=b3;cases ho:ops[i]? with
    | none=>rw[Array.getElem?_eq_none_iff] at ho;omega
    | some o =>
     rcases Aea hn ho with⟨_,hc⟩|⟨hl,hc⟩
     .exact op hto (.nin hn t) λo' ho'=>by rw[ho] at ho';cases ho';exact hc
     .have b1:(List.range ops.size).drop (i+1)=[]:=List.drop_eq_nil_of_le gG;rw[b1] at hto;exact Aed S h hm hto (by have:=Aj.nin (j:=i+1) hn t;rw[b1] at this;exact this) ho hc he
  | din hj hn t =>
   cases hL
   rename_i ops i0 j;unfold Qr at hn;simp only[Bool.and_eq_true] at hn;obtain⟨a9,a4⟩:=hn;cases ho:ops[i0]? with
   | none=>rw[ho] at a4;cases a4
   | some o =>
    cases ho':ops[i0+1]? with
    | none=>rw[ho,ho'] at a4;cases a4
    | some o' =>
     rw[ho,ho'] at a4;have b5:i0+1<ops.size:=(D1.1 ho').1
     have b4:(List.range ops.size).drop j=j::(List.range ops.size).drop (j+1):=by
      rw[D2 gG];simp
     rw[b4] at hto;rcases Nat.lt_or_ge j i0 with hlt'|hge
     .refine op hto (.din (i:=i0) oM (by unfold Qr;rw[ho,ho'];simp only[Bool.and_eq_true];exact⟨a9,a4⟩) t) λx hx=>?_;refine List.all_eq_true.1 a9 x ?_;rw[C5];exact⟨j,by rw[List.getElem?_take_of_lt hlt'];simpa using hx⟩
     .have:j=i0:=oM
      subst this
      have a8:(List.range ops.size).drop (j+1)=(j+1)::(List.range ops.size).drop (j+2):=by
       rw[D2 gG];simp
      rw[a8] at hto;exact .inr (AbK S h hm hto ho ho' a4 he)
  | nreg hn t =>
   cases hL
   rename_i id ops d m e k;exact a0 (.inRegion ops (List.range ops.size)::.code (.cond (.tmp d) (.refuse m) e)::k) (by have:=Aj.nin (j:=0) hn t;simpa using this) λmain f cs x h1 h2 h3 _=>by rw[hto] at h2;simp[stepG,stepG.exec,G,h1,h2]
  | code hc t =>
   cases hL
   rename_i c;cases c with
   | skip=>exact a0 k t λmain f cs x h1 h2 h3 _=>by rw[hto] at h2;simp[stepG,stepG.exec,G,h1,h2]
   | label l=>exact a0 k t λmain f cs x h1 h2 h3 _=>by rw[hto] at h2;simp[stepG,stepG.exec,G,h1,h2]
   | seq a b =>
    simp only[AV,Bool.and_eq_true,Bool.or_eq_true] at hc;refine a0 (.code a::.code b::k) ?_ λmain f cs x h1 h2 h3 _=>by rw[hto] at h2;simp[stepG,stepG.exec,G,h1,h2]
    rcases hc.1 with h1|h1
    .exact .code h1 (.code hc.2 t)
    .unfold AfE at h1;split at h1
     .exact .nreg h1 (.code hc.2 t)
     .cases h1
   | block id b=>exact a0 (.code b::.inBlock id::k) (.code hc (.inBlock t)) λmain f cs x h1 h2 h3 _=>by rw[hto] at h2;simp[stepG,stepG.exec,G,h1,h2]
   | loop b=>exact a0 (.code b::.inLoop b::k) (.code hc (.inLoop hc t)) λmain f cs x h1 h2 h3 _=>by rw[hto] at h2;simp[stepG,stepG.exec,G,h1,h2]
   | scope b=>exact a0 (.code b::.inScope b::k) (.code hc (.inScope hc t)) λmain f cs x h1 h2 h3 _=>by rw[hto] at h2;simp[stepG,stepG.exec,G,h1,h2]
   | cond c a b =>
    simp only[AV,Bool.and_eq_true] at hc;cases hv:fr.eval c with
    | bool t1 =>
     refine a0 (.code (if t1 then a else b)::k) (.code (by cases t1<;>simp[hc.1.2,hc.2]) t) λmain f cs x h1 h2 h3 h4=>?_;have h5:f.eval c=.bool t1:=(h4 c).elim (λe=>e.trans hv) (λe=>e t1 hv);rw[hto] at h2;simp only[stepG,stepG.exec,G,h1,h2,h5]
    | _=>exfalso;simp only[stepG,stepG.exec,G,hm,hto,hv] at he;cases he
   | ret=>exact a7 λmain f cs x h1 h2 h3=>by rw[hto] at h2;simp[stepG,stepG.exec,G,h1,h2,h3]
   | exit id =>
    cases hx:exitTo id k with
    | some l=>exact a0 l (t.exit hx) λmain f cs x h1 h2 h3 _=>by rw[hto] at h2;simp[stepG,stepG.exec,G,h1,h2,hx]
    | none=>exfalso;simp[stepG,stepG.exec,G,hm,hto,hx,a5] at he
   | region id ops d =>
    have a3:ops.all (LD P s g nf)=true->∀l,Aj P s g nf (.inRegion ops l::k):=λhc l=>.reg (λi _ o ho=>Array.all_eq_true'.1 hc o (Array.mem_of_getElem? ho)) t;simp only[AV,Bool.or_eq_true,Bool.and_eq_true,List.any_eq_true] at hc;cases d with
    | false =>
     refine a0 (.inRegion ops (List.range ops.size)::k) ?_ λmain f cs x h1 h2 h3 _=>by rw[hto] at h2;simp[stepG,stepG.exec,G,h1,h2]
     rcases hc with hc|⟨_,i,_,hc⟩
     .exact a3 hc _
     .have:=Aj.din (j:=0) (Nat.zero_le i) hc t;simpa using this
    | true =>
     have a3:=a3 (hc.elim (λh=>h) λh=>by simp at h)
     have e:∀(main:Bool)(f:Frame)(cs:List Frame)(x:World),f.mode=.run->f.todo=.code (.region id ops true)::k->stepG P main (G f cs) x=.go (G {f with todo:=.inRegion ops (Region.schedule (P.follows .mixedOrders) ops (x.tape x.drawn (.order f.fn id)))::k} cs) {x with drawn:=x.drawn+1} #[]:=λmain f cs x h1 h2=>by
      simp[stepG,stepG.exec,G,h1,h2,choose,Sem.run,Question.forced,Question.cut]
     rw[e true fr _ _ hm hto] at he;cases he
     refine .inl ⟨r,_,seg,{fr' with todo:=.inRegion ops (Region.schedule (P.follows .mixedOrders) ops (u.tape u.drawn (.order fr.fn id)))::k},seg',{w with drawn:=w.drawn+1},#[],rfl,?_,.refl r,⟨h.ok,h.wr.at',h.pend,⟨a3 _,h.top.defers,h.top.kind,h.top.round,h.top.fn⟩,h.fr.todo _,h.rest⟩,.inl hm,⟨rfl,rfl,rfl,λh=>h,A3 _,λ_ _ _=>rfl,λ_ h=>.inl h⟩,dC⟩;rw[e main fr' _ _ a6 (by rw[a1,hto]),h.fr.f,h.wr.tape,h.wr.drawn]
   | refuse m=>exfalso;simp[stepG,stepG.exec,G,hm,hto] at he
   | _=>cases hc
end
section
variable {P:Program} {main:Bool} {s:FZs} {g:Nat->Bool} {nf:TypeId->Bool} {r:Rn} {T T':Array Value}
theorem RS.mapV{τ:Type}{f f':τ->Sem Value}:∀(l:List τ) {r:Rn},(∀x r',r.le r'->RS P r' Qv (f x) (f' x))->RS P r (λr' a a'=>a.length=a'.length/\∀(i:Nat) v v',a[i]?=some v->a'[i]?=some v'->VR r' v v') (l.mapM f) (l.mapM f')
 | [],_,_=>.pure ⟨rfl,λi v v' h=>by simp at h⟩
 | x::l,r,hf=>by
  rw[List.mapM_cons,List.mapM_cons];refine RS.bind (hf x r (.refl r)) λr1 v v' k1 hv=>?_;refine RS.bind (RS.mapV l λy r' k=>hf y r' (k1.trans k)) λr2 a a' k2 ha=>?_;refine .pure ⟨by simp[ha.1],λi z z' h1 h2=>?_⟩;cases i with
  | zero=>simp at h1 h2;subst h1 h2;exact VR.mono k2 hv
  | succ i=>exact ha.2 i z z' h1 h2
theorem VP(hT:F1 r T T')(t:Nat):VR r (T.getD t undef) (T'.getD t undef):=by
 by_cases e:t<T.size
 .have e':t<T'.size:=by rw[← hT.size];exact e
  simp only[Array.getD,e,e',dite_true];exact hT.get t _ _ (Array.getElem?_eq_getElem e) (Array.getElem?_eq_getElem e')
 .have e':¬t<T'.size:=by rwa[← hT.size]
  simp[e,e'];exact Gc
theorem RS.results(fn:Func)(hT:F1 r T T'):RS P r Qv (Go.results fn T) (Go.results fn T'):=by
 unfold Go.results;rw[Array.mapM_eq_mapM_toList,Array.mapM_eq_mapM_toList];refine RS.bind (A:=λr' (a a')=>F1 r' a a') (RS.bind (RS.mapV fn.results.toList λx r' k=>?_) λr1 a a' k1 ha=>.pure ?_) λr1 a a' k1 ha=>.pure ?_
 .cases x with
  | tmp t=>exact .pure (VP (hT.mono k) t)
  | cell b t=>exact RS.bind (RS.asAddr (VP (hT.mono k) b)) λr2 c c' k2 hc=>RS.loadVar t hc
 .exact⟨by simpa using ha.1,λi v v' h1 h2=>ha.2 i v v' (by grind) (by grind)⟩
 .by_cases e:a.size=1
  .have e':a'.size=1:=by rwa[← ha.size]
   simp[e,e'];exact ha.get 0 _ _ (Array.getElem?_eq_getElem oM) (Array.getElem?_eq_getElem oM)
  .have e':¬a'.size=1:=by rwa[← ha.size]
   simp[e,e'];exact .tuple ha.size ha.get
theorem Aeh{c:Frame}{u w:World}(h:JU P s g nf r fr (c::seg) u fr' seg' w)(hm:fr.mode=.returning)(he:stepG P true (G fr ((c::seg)++bu)) u=.go g1 u1 es):
  Good P s g nf r bu bw w g1 u1 (stepG P main (G fr' (seg'++bw)) w):=by
 obtain⟨fn,hf⟩:=h.top.fn;have a0:=h.rest;generalize hL:c::seg=L at a0;cases a0 with
 | nil=>cases hL
 | cons hc hb hcm hw ht =>
  cases hL
  rename_i c' l';obtain⟨a9,i,rest,k,a1,a3⟩:=hw;have a4:fr'.mode=.returning:=by rw[h.fr.m,hm]
  have a5:fr'.defers=[]:=by rw[h.fr.d,h.top.defers]
  have a6:fr'.kind=.normal:=by rw[h.fr.k,h.top.kind]
  have a7:P.funcs[fr'.fn]?=some fn:=by rw[h.fr.f,hf]
  have hq:=RS.results (P:=P) fn h.fr.all;have ha:=EC (P:=P) (X:=X0) fn fr.tmps (Ik ((results fn fr.tmps).runT P u #[]).1) u u #[] (Mc h.pend _) (.inl (Nat.le_add_left _ _));simp only[stepG,G,hm,unwind,h.top.defers,hf,List.cons_append,doReturn,h.top.kind] at he;simp only[stepG,G,a4,unwind,a5,a7,List.cons_append,doReturn,a6];generalize hu:(results fn fr.tmps).runT P u #[]=ru at he ha;match ru,hu,he,ha with
  | (.ok v u1',eu),hu,he,⟨_,w2,hw2,hon⟩ =>
   obtain⟨r1,v',w1,ew,e1,e2,e3,e4,e5,e6⟩:=hq u w #[] #[] h.wr v u1' eu hu
   have a8:∀(b:Nat)(c:Array Value)(t:TypeId),u1'.heap[b]?=some (Obj.pending c t)->gN<=b:=by
    obtain⟨_,_,_,_,a2⟩:=hon.drew;exact a2.pendU
   simp only[GStep.after] at he;cases he
   simp only[e1,GStep.after];refine⟨r1,c.finish v,seg,c'.finish v',l',w1,_,rfl,rfl,e2,⟨h.ok.mono e2,e3,a8,hb.fin _ a1 a3,(hc.mono e2).finish e4 a1,ht.mono e2⟩,.inl (by rw[← hcm];unfold Frame.finish;rw[a1]),e5,λe hx=>?_⟩;rw[Array.append_empty] at hx;exact (e6 e (mem_seen hx)).elim (λhx=>by simp at hx) id
  | (.halt kk u1',eu),hu,he,_=>cases kk<;>(simp only[GStep.after] at he;cases he)
def y0:Frame:={fn:=0,tmps:=#[],todo:=[.code (.refuse "")],defers:=[{target:=.nil,args:=#[]}],mode:=.run,kind:=.normal}
theorem AfG(v:Value)(w:World)(main:Bool):∃o x es,stepG P main (G (y0.finish v) []) w=.ended o x es:=⟨_,_,_,rfl⟩
theorem AfH(ch:List PanicEntry)(w:World)(main):∃o x es,stepG P main (G (y0.raise ch) []) w=.ended o x es:=⟨_,_,_,rfl⟩
variable {F:Frame->World->Prop}
theorem IB{a b:Frame}{l m:List Frame}(h:G a l=G b m):a=b/\l=m:=by
 have h1:=congrArg Goroutine.frame h;have h2:=congrArg Goroutine.callers h;exact⟨h1,h2⟩
theorem AfI(_S:De P s g nf):∀{g1:Goroutine} {u:World},Go.Proofs.YtaffjphkobhagaaGreatDoor.Run P X0 (Go.Proofs.YtaffjphkobhagaaGreatDoor.Left P X0 s F [y0]) g1 u->∀(fr:Frame)(seg)(ch),g1=G fr (seg++[y0])->fr.mode=.panicking ch->FrB P s g nf fr->(∀c∈seg,FrB P s g nf c/\c.mode=.run)->False:=by
 intro g1 u h;induction h with
 | stop h =>
  intro fr seg ch e hm hf hs;obtain⟨fe,e1,e2,_⟩:=h 0;rw[e] at e1;rw[← (IB e1).1,hm] at e2;cases e2
 | step hr g' w' es hs hf h ih =>
  intro fr seg ch e hm hb hc;subst e;have h1:=hs 0;obtain⟨fn,a1⟩:=hb.fn;have a0:fr.catches P=false:=by unfold Frame.catches;rw[a1]
  have st:∀c l x,stepG P true (G fr (c::l)) x=.go (G (c.raise ch) l) x #[]:=λc l x=>by
   simp[stepG,G,hm,unwind,hb.defers,a0]
  cases seg with
  | nil =>
   rw[List.nil_append,st] at h1;have hh:=h 0;rw[(GStep.go.inj h1).1.symm] at hh;generalize hg2:G _ []=g2 at hh;cases hh with
   | stop h=>obtain⟨fe,e1,_⟩:=h 0;rw[← hg2] at e1;simp[G] at e1
   | step hr g'' w'' es' hs' _ _ =>
    subst hg2;obtain⟨o,x,es,e⟩:=AfH (P:=P) ch ((w' 0).at 0) true;have:=hs' 0;cases this
  | cons c t =>
   rw[List.cons_append,st] at h1;obtain⟨a,a2,b⟩:=Oi (hc c dC).1 ch;exact ih 0 _ t a2 (GStep.go.inj h1).1.symm b a λx hx=>hc x (by simp[hx])
theorem AfJ{u:World}(h:Go.Proofs.YtaffjphkobhagaaGreatDoor.Run P X0 (Go.Proofs.YtaffjphkobhagaaGreatDoor.Left P X0 s F [y0]) g1 u){d:Nat}{m:String}{k:List Item}(hg:g1=G fr cs)(hm:fr.mode=.run)(ht:fr.todo=.inRegion ops []::.code (.cond (.tmp d) (.refuse m) e)::k)(hv:∀b,fr.eval (.tmp d)=.bool b->b=true):False:=by
 have ex:∀{g1:Goroutine} {u:World},Go.Proofs.YtaffjphkobhagaaGreatDoor.Run P X0 (Go.Proofs.YtaffjphkobhagaaGreatDoor.Left P X0 s F [y0]) g1 u->∀{fr:Frame},g1=G fr cs->fr.mode=.run->∃g2 w2 es,stepG P true (G fr cs) (u.at 0)=.go g2 w2 es/\Go.Proofs.YtaffjphkobhagaaGreatDoor.Run P X0 (Go.Proofs.YtaffjphkobhagaaGreatDoor.Left P X0 s F [y0]) g2 w2:=λ{g1 u} h {fr} hg hm=>by
  rcases h with⟨h⟩|⟨hr,g',w',es,hs,hf,h⟩
  .obtain⟨fe,e1,e2,_⟩:=h 0;rw[hg] at e1;rw[← (IB e1).1,hm] at e2;cases e2
  .subst hg;exact⟨_,_,_,hs 0,h 0⟩
 obtain⟨g2,w2,a7,h1,h2⟩:=ex h hg hm;have a3:∀x,stepG P true (G fr cs) x=.go (G {fr with todo:=.code (.cond (.tmp d) (.refuse m) e)::k} cs) x #[]:=λx=>by simp[stepG,stepG.exec,G,hm,ht]
 rw[a3] at h1;obtain⟨g3,w3,a8,h3,h4⟩:=ex h2 (fr:={fr with todo:=.code (.cond (.tmp d) (.refuse m) e)::k}) (GStep.go.inj h1).1.symm hm;have a4:∀l,({fr with todo:=l}:Frame).eval (.tmp d)=fr.eval (.tmp d):=λl=>rfl;by_cases hb:fr.eval (.tmp d)=.bool true
 .have a5:∀x,stepG P true (G {fr with todo:=.code (.cond (.tmp d) (.refuse m) e)::k} cs) x=.go (G {fr with todo:=.code (.refuse m)::k} cs) x #[]:=λx=>by
   have a0:=a4 (.code (.cond (.tmp d) (.refuse m) e)::k);rw[hb] at a0;generalize hfx:({fr with todo:=.code (.cond (.tmp d) (.refuse m) e)::k}:Frame)=fx at a0 ⊢
   have a1:fx.mode=.run:=by rw[← hfx];exact hm
   have a2:fx.todo=.code (.cond (.tmp d) (.refuse m) e)::k:=by rw[← hfx]
   have:stepG P true (G fx cs) x=.go (G {fx with todo:=.code (.refuse m)::k} cs) x #[]:=by simp[stepG,stepG.exec,G,a1,a2,a0]
   rw[this,← hfx]
  rw[a5] at h3;obtain⟨g4,w4,a9,h5,h6⟩:=ex h4 (fr:={fr with todo:=.code (.refuse m)::k}) (GStep.go.inj h3).1.symm hm;simp[stepG,stepG.exec,G,hm] at h5
 .have a0:∀b,fr.eval (.tmp d)≠.bool b:=λb hbb=>by
   simp_all
  generalize hfx:({fr with todo:=.code (.cond (.tmp d) (.refuse m) e)::k}:Frame)=fx at h3;have a1:fx.mode=.run:=by rw[← hfx];exact hm
  have a2:fx.todo=.code (.cond (.tmp d) (.refuse m) e)::k:=by rw[← hfx]
  have a6:fx.eval (.tmp d)=fr.eval (.tmp d):=by rw[← hfx];rfl
  simp only[stepG,stepG.exec,G,a1,a2] at h3;rw[a6] at h3;cases hq:fr.eval (.tmp d) with
  | bool b=>exact a0 b hq
  | _=>rw[hq] at h3;cases h3
theorem Aei{u:World}(h:Go.Proofs.YtaffjphkobhagaaGreatDoor.Run P X0 (Go.Proofs.YtaffjphkobhagaaGreatDoor.Left P X0 s F [y0]) g1 u){k:List Item}{t:TypeId}{d:Nat}(hg1:g1=G fr cs)(hm:fr.mode=.run)(hr:fr.roundOf=none)(hkd:fr.kind=.normal)(ht:fr.todo=.inRegion ops (i::rest)::k)(ho:ops[i]?=some o)(hg:o.guard=none)(hop:o.op=.load t (.tmp d))(hty:P.underlying t=some (.int kd))(hv:(∃a e,fr.eval (.tmp d)=.pointer (some a)/\u.heap[a.block]?=some (.cells #[] e (0,0))/\a.spot=none)\/fr.eval (.tmp d)=undef):False:=by
 rcases h with⟨h⟩|⟨_,g',w',es,hs,_,_⟩
 .obtain⟨fe,e1,e2,_⟩:=h 0;rw[hg1] at e1;rw[← (IB e1).1,hm] at e2;cases e2
 .subst hg1;have h1:=hs 0;have hw:∀y,Region.wanted o y=true:=λy=>by unfold Region.wanted;rw[hg]
  have e1:stepG P true (G fr cs) (u.at 0)=stepG.apply P true fr cs none (execOp fr.eval o) (u.at 0):=by
   simp[stepG,stepG.exec,G,hm,ht,ho,hw,stepG.oper,Frame.oper?,hr]
  have hk:(fr.kind==CallKind.early)=false:=by rw[hkd];rfl
  have a1:∃z x a0,(execOp fr.eval o).runT P (u.at 0) #[]=(.halt (.stuck z) x,a0):=by
   have e2:execOp fr.eval o=(do pure (.value (← Instr.loadAt t (fr.eval (.tmp d)))):Sem Next):=by
    unfold execOp;rw[hop]
   rw[e2];rcases hv with⟨a,e,h2,h3,h4⟩|h2
   .rw[h2]
    have hu:(underlying t).runT P (u.at 0) #[]=(.ok (.int kd) (u.at 0),#[]):=by
     show Sem.runT P (match P.underlying t with|some d=>_|none=>_) (u.at 0) #[]=_
     rw[hty];rfl
    have a2:(isAgg t).runT P (u.at 0) #[]=(.ok false (u.at 0),#[]):=by
     show ((underlying t).bind _).runT P (u.at 0) #[]=_
     rw[Sem.runT_bind',hu];rfl
    have hc:(u.at 0).cell? a=none:=by simp[World.cell?,World.at,h3,h4]
    have hl:∃z x a0,(load a).runT P (u.at 0) #[]=(.halt (.stuck z) x,a0):=by
     simp only[load,Sem.runT,hc];have a3:(u.at 0).heap[a.block]?=some (.cells #[] e (0,0)):=h3;simp only[World.farLoad,a3,World.noCell];exact⟨_,_,_,rfl⟩
    obtain⟨z,x,a0,hl⟩:=hl;refine⟨z,x,a0,?_⟩;show (((isAgg t).bind _).bind _).runT P (u.at 0) #[]=_
    rw[Sem.runT_bind',Sem.runT_bind',a2];simp only[Bool.false_eq_true,if_false,hl]
   .rw[h2];exact⟨_,_,_,rfl⟩
  obtain⟨z,x,a0,a1⟩:=a1;rw[e1] at h1;unfold stepG.apply at h1;rw[a1] at h1;simp only[hk,if_true,Bool.false_eq_true,if_false,GStep.after] at h1;cases h1
theorem Aej(S:De P s g nf){u:World}(h:Go.Proofs.YtaffjphkobhagaaGreatDoor.Run P X0 (Go.Proofs.YtaffjphkobhagaaGreatDoor.Left P X0 s F [y0]) g1 u)(hd:Ej P s g nf [y0] u g1):False:=by
 cases hd with
 | pan fr seg ch hm hf hs=>exact AfI S h fr seg ch rfl hm hf hs
 | neq fr cs ops d m e k hm hr ht hv=>exact AfJ h rfl hm ht hv
 | dead fr cs ops i rest k o t kd d hm hr hk ht ho hg hop hty hv=>exact Aei h rfl hm hr hk ht ho hg hop hty hv
theorem Aek{u:World}(hm:fr.mode=.returning)(hb:FrB P s g nf fr)(he:stepG P true (G fr [y0]) u=.go g1 u1 es)(h:Go.Proofs.YtaffjphkobhagaaGreatDoor.Run P X0 (Go.Proofs.YtaffjphkobhagaaGreatDoor.Left P X0 s F [y0]) g1 u1):False:=by
 obtain⟨fn,hf⟩:=hb.fn;simp only[stepG,G,hm,unwind,hb.defers,hf,doReturn,hb.kind] at he
 have hg:∃v,g1=G (y0.finish v) []:=by
  generalize (results fn fr.tmps).runT P u #[]=ru at he;match ru,he with
  | (.ok v u1',eu),he=>cases he;exact⟨v,rfl⟩
  | (.halt kk u1',eu),he=>cases kk<;>(cases he)
 obtain⟨v,rfl⟩:=hg;generalize hg2:G _ []=g2 at h;cases h with
 | stop h=>obtain⟨fe,e1,_⟩:=h 0;rw[← hg2] at e1;simp[G] at e1
 | step hr g'' w'' es' hs' _ _ =>
  subst hg2;obtain⟨o,x,es,e⟩:=AfG (P:=P) v (u1.at 0) true;have:=hs' 0;cases this
end
end Bd
namespace Bd
open Go.Conc Go.ConcN
section
variable {P:Program} {main:Bool} {s:FZs} {g:Nat->Bool} {nf:TypeId->Bool} {r r1:Rn} {p:F5} {M M' M'':Nat->Prop} {u w w₁ qc:World}
structure Ap (p:F5) (r:Rn):Prop where
 low:r.Low=p.Low
 wg:∀b,r.V b->b≠p.Wg
 ch:∀b,r.V b->b≠p.Ch
 sh:∀a:Addr,r.V a.block->¬p.Shun (.cell a)
theorem Ap.mono(h:Ap p r)(k:r.le r1):Ap p r1:=⟨by rw[k.Low];exact h.low,λb hb=>h.wg b (by rw[← k.V];exact hb),λb hb=>h.ch b (by rw[← k.V];exact hb),λa ha=>h.sh a (by rwa[← k.V])⟩
structure AD (p:F5) (M:Nat->Prop) (r:Rn) (w w₁:World):Prop where
 tape:w₁.tape=w.tape
 os:w₁.os=w.os
 output:w₁.output=w.output
 nv:NV w->NV w₁
 size:w.heap.size<=w₁.heap.size
 low:∀b,b<p.Low->b≠p.Wg->b≠p.Ch->w₁.heap[b]?=w.heap[b]?
 own:∀b,M b->¬r.M b->b<w.heap.size->w₁.heap[b]?=w.heap[b]?
 live:WgLive p.ty p.Wg w->WgLive p.ty p.Wg w₁
 chan:EF p w->EF p w₁
theorem AD.of_r0(h:R0 p M w w₁):AD p M r w w₁:=⟨h.tape,h.os,h.output,h.nv,h.rk.size,h.rk.low,λb hb _ _=>h.rk.own b hb,h.rk.live,h.rk.chan⟩
theorem WR.notM(h:WR P r u w){b:Nat}(hb:b<r.Low):¬r.M b:=λ⟨x,hx,e⟩=>by
 have:=(h.img x hx).1;omega
theorem AD.of_chg(hO:p.Ok)(ha:Ap p r)(hr:WR P r u w)(h:EI r r1 w w₁):AD p M r w w₁:=by
 have hl:∀b,b<p.Low->w₁.heap[b]?=w.heap[b]?:=λb hb=>h.block b (by have:=hr.lowW;rw[ha.low] at this;omega) (hr.notM (by rwa[ha.low]));refine⟨h.tape,h.os,h.output,h.nv,h.size,λb hb _ _=>hl b hb,λb _ hn hb=>h.block b hb hn,?_,?_⟩
 .rintro⟨st,sm,hq⟩;exact⟨st,sm,by unfold Go.ConcR.WgAt at hq ⊢;rw[hl _ hO.wg];exact hq⟩
 .rintro⟨L,hq⟩;exact⟨L,by unfold BP at hq ⊢;rw[hl _ hO.ch];exact hq⟩
theorem AD.trans(h:AD p M r w w₁)(hM:∀b,M b->M' b)(hr:∀b,r1.M b->b<w.heap.size->M b->r.M b)(k:AD p M' r1 w₁ qc):AD p M r w qc :=
 ⟨k.tape.trans h.tape,k.os.trans h.os,k.output.trans h.output,k.nv ∘ h.nv,B4 h.size k.size,λb h1 h2 h3=>(k.low b h1 h2 h3).trans (h.low b h1 h2 h3),
  λb h1 h2 h3=>(k.own b (hM b h1) (λh4=>h2 (hr b h4 h3 h1)) (A1 h3 h.size)).trans (h.own b h1 h2 h3),k.live ∘ h.live,k.chan ∘ h.chan⟩
theorem WR.rely(h:WR P r u w)(ha:Ap p r)(hM:∀b,r.M b->M b)(hR:R0 p M w w₁):WR P r (u.at w₁.drawn) w₁:=by
 refine⟨h.tape.trans hR.tape.symm,rfl,h.size,h.low,B4 h.lowW hR.rk.size,λb hb=>⟨(h.img b hb).1,A1 (h.img b hb).2 hR.rk.size⟩,h.inj,λb hb=>?_,λb hb=>?_,h.dead⟩
 .obtain⟨h1,c,e,f,h2,h3,h4⟩:=h.vis b hb;exact⟨h1,c,e,f,h2,(hR.rk.low b (by rwa[← ha.low]) (ha.wg b hb) (ha.ch b hb)).trans h3,h4⟩
 .obtain⟨o,o',h1,h2,h3⟩:=h.own b hb;exact⟨o,o',h1,(hR.rk.own _ (hM _ ⟨b,hb,rfl⟩)).trans h2,h3⟩
theorem JU.rely(h:JU P s g nf r fr seg u fr' seg' w)(ha:Ap p r)(hM:∀b,r.M b->M b)(hR:R0 p M w w₁):JU P s g nf r fr seg (u.at w₁.drawn) fr' seg' w₁ :=
 ⟨h.ok,h.wr.rely ha hM hR,h.pend,h.top,h.fr,h.rest⟩
theorem DZ.evk(hO:p.Ok)(ha:Ap p r)(hr:WR P r u w)(hM:∀b,r.M b->M b){e:Event}(h:DZ r e):FP p M e:=by
 obtain⟨l,wr,sy⟩:=e;unfold DZ at h;have a0:∀b,r.M b->r.Low<=b:=λb ⟨x,hx,e⟩=>by rw[e];exact (hr.img x hx).1
 cases l with
 | cell a =>
  obtain⟨rfl,h⟩:=h;refine⟨λx hx=>.inr ?_,dC,dC,dC⟩;simp only[MemAct.ofEvent,MemAct.touch?,Option.some.injEq] at hx;subst hx;refine⟨rfl,a.block,rfl,?_,?_⟩
  .rintro (h1|⟨a',e,h1⟩)
   .rcases h with⟨hv,_⟩|hm
    .exact ha.sh a hv h1
    .obtain⟨a1,e,h2,_⟩:=hO.shun _ h1;cases e
     have:=a0 _ hm;rw[ha.low] at this;omega
   .cases e
    rcases h with⟨hv,_⟩|hm
    .exact ha.wg _ hv h1
    .have:=a0 _ hm;rw[ha.low,h1] at this;have:=hO.wg;omega
  .rcases h with⟨hv,hw⟩|hm
   .exact .inl ⟨by rw[← ha.low];exact (hr.vis _ hv).1,hw⟩
   .exact .inr (hM _ hm)
 | obj b =>
  obtain⟨rfl,h1,hm⟩:=h;simp only at h1;subst h1;refine⟨λx hx=>.inr ?_,dC,dC,dC⟩;simp only[MemAct.ofEvent,MemAct.touch?,Option.some.injEq] at hx;subst hx;refine⟨rfl,b,rfl,?_,.inr (hM _ hm)⟩;rintro (h1|⟨a',e,h1⟩)
  .obtain⟨a1,e,_⟩:=hO.shun _ h1;cases e
  .cases e
 | mark m =>
  cases m<;>first|(exact h.elim)|(refine⟨λx hx=>?_,dC,dC,dC⟩;simp[MemAct.ofEvent,MemAct.touch?] at hx)
 | _=>exact h.elim
def Stp(P:Program)(s:FZs)(g:Nat->Bool)(nf:TypeId->Bool)(p:F5)(F:Frame->World->Prop)(bw:List Frame)(r:Rn)(M:Nat->Prop)(w:World)(M':Nat->Prop)(g1:Goroutine)(w':World):Prop :=
 ∃r1 fe fe' u1,g1=G fe' bw/\JU P s g nf r1 fe [] u1 fe' [] w'/\fe.mode=.returning/\r.le r1/\(∀b,r1.M b->M' b)/\(∀b,M b->M' b)/\(∀b,r1.M b->b<w.heap.size->r.M b)/\AD p M r w w'/\∀d,Go.Proofs.YtaffjphkobhagaaGreatDoor.Left P X0 s F [y0] (G fe [y0]) (u1.at d)
theorem ends_run(S:De P s g nf)(hP:p.P=P)(hO:p.Ok){F:Frame->World->Prop}:∀{g1:Goroutine} {u:World},Go.Proofs.YtaffjphkobhagaaGreatDoor.Run P X0 (Go.Proofs.YtaffjphkobhagaaGreatDoor.Left P X0 s F [y0]) g1 u->
  ∀{r:Rn} {fr fr':Frame} {seg seg':List Frame} {w:World} {M:Nat->Prop},g1=G fr (seg++[y0])->JU P s g nf r fr seg u fr' seg' w->Ap p r->(∀b,r.M b->M b)->(fr.mode=.run\/fr.mode=.returning)->
  Ends p main (Stp P s g nf p F bw r M w) M (G fr' (seg'++bw)) w:=by
 intro g1 u h;induction h with
 | stop h =>
  intro r fr fr' seg seg' w M e hrel ha hM hm;rename_i g0 u0;subst e;refine Ends.stop λw₁ hR=>?_;obtain⟨fe,e1,e2,_⟩:=h 0;obtain⟨e3,e4⟩:=IB e1;have e5:seg=[]:=List.append_left_eq_self.1 e4;subst e3 e5;have a4:=hrel.rest;cases a4
  exact⟨r,fr,fr',u0.at w₁.drawn,rfl,hrel.rely ha hM hR,e2,.refl r,hM,λ_ h=>h,λ_ h _=>h,.of_r0 hR,λd=>h d⟩
 | step hr g' w' es hs hf h ih =>
  intro r fr fr' seg seg' w M e hrel ha hM hm;subst e;refine Ends.step rfl λw₁ hR=>?_;have a0:=hrel.rely ha hM hR;have h1:=hs w₁.drawn;have h2:=h w₁.drawn
  have b1:Good P s g nf r [y0] bw w₁ (g' w₁.drawn) (w' w₁.drawn) (stepG P main (G fr' (seg'++bw)) w₁):=by
   rcases hm with hm|hm
   .rcases Aee S a0 hm h1 with h3|h3
    .exact h3
    .exact (Aej S h2 h3).elim
   .cases seg with
    | nil=>exact (Aek hm hrel.top h1 h2).elim
    | cons c t=>exact Aeh a0 hm h1
  obtain⟨r1,b3,a8,a9,a5,w1,b0,k1,k2,k3,k4,k5,k6,k7⟩:=b1;have a6:=λb hb=>(k6.new b hb).imp (hM b) id;rw[hP];refine⟨_,w1,b0,k2,⟨k6.tape,k6.os,k6.output,k6.nv,k6.size,λb hb hn=>k6.block b hb λh=>hn (hM b h)⟩,λe he=>(k7 e he).evk hO (ha.mono k3) k4.wr a6,?_⟩;refine Ends.mono ?_ (ih w₁.drawn k1 k4 (ha.mono k3) a6 k5);rintro M2 g2 w2 ⟨r2,fe,b2,u2,q1,q2,q3,q4,q5,q6,q7,q8,q9⟩;have a7:∀b,r1.M b->b<w.heap.size->r.M b:=λb hb hlt=>(k6.new b hb).elim id λh=>by have:=hR.rk.size;omega
  refine⟨r2,fe,b2,u2,q1,q2,q3,k3.trans q4,q5,λb hb=>q6 b (.inl hb),λb hb hlt=>?_,?_,q9⟩
  .exact a7 b (q7 b hb (by have:=hR.rk.size;have:=k6.size;omega)) hlt
  .have a1:AD p M r w w₁:=.of_r0 hR;have a2:AD p M r w₁ w1:=.of_chg hO ha a0.wr k6;have a3:=a1.trans (λ_ h=>h) (λb hb _ _=>hb) a2;exact a3.trans (λb hb=>Or.inl hb) (λb hb hlt _=>a7 b hb hlt) q8
end
section
variable {P:Program} {main:Bool} {s:FZs} {g:Nat->Bool} {nf:TypeId->Bool} {p:F5}
theorem pz0(u:World)(τ:Nat->Question->Nat)(d:Nat):F7 X0 u τ d={u with tape:=τ,drawn:=d}:=by
 have e:u.heap.mapIdx (Ay X0)=u.heap:=by
  apply Array.ext_getElem?
  intro i;rw[Array.getElem?_mapIdx];cases u.heap[i]? with
  | none=>rfl
  | some o=>rw[Option.map_some];unfold Ay;rw[if_neg id]
 unfold F7 pz;rw[e]
theorem AbS{a b:World}(h:J0 X0 n a b):J0 X0 n b a :=
 ⟨h.size.symm,λ_ h=>h.elim,λb hb=>(h.same b hb).symm,λ_ h=>h.elim,λb c t hx=>h.pend b c t (by rw[← h.same b id];exact hx),h.os.symm,h.output.symm,λi q hi=>(h.tape i q hi).symm⟩
theorem AbT{a b:World}(h:J0 X0 n a b):b.heap=a.heap:=Array.ext_getElem? λi=>h.same i id
def Back(P:Program)(g:Nat->Bool)(nf:TypeId->Bool)(p:F5)(Q:Value->World->Prop)(c:Frame)(rest:List Frame)(r:Rn)(M:Nat->Prop)(w:World)(M':Nat->Prop)(g1:Goroutine)(w':World):Prop :=
 ∃r1 u1 u0 v v',g1=G (c.finish v') rest/\r.le r1/\Gb P g nf r1/\WR P r1 u1 w'/\NV u1/\VR r1 v v'/\Q v u0/\u0.heap=u1.heap/\(∀b,r1.M b->M' b)/\(∀b,M b->M' b)/\(∀b,r1.M b->b<w.heap.size->r.M b)/\AD p M r w w'
theorem Kt(S:De P s g nf)(hP:p.P=P)(hO:p.Ok){f:FuncId}(hf:s f=true)(hb:DP P s g nf f){r:Rn}{u w:World}{M:Nat->Prop}(ok:Gb P g nf r)(hr:WR P r u w)(pend:NV u)(hA:F1 r args args')(ha:Ap p r)(hM:∀b,r.M b->M b){Q:Value->World->Prop}
  (hc:∀τ d,Calls P f args {u with tape:=τ,drawn:=d} λe u'=>∃v,e=.returned v/\Q v u') (c:Frame) (rest:List Frame) :
  Ends p main (Back P g nf p Q c rest r M w) M (G (Frame.enter P f args' .normal) (c::rest)) w:=by
 have b8:((P.funcs[f]?).bind (·.body)).isSome=true:=by
  obtain⟨fn,b4,h1,h2,_⟩:=hb;rw[h1,Option.bind_some,h2];rfl
 have a8:=OX (X:=X0) S.lo hf b8 (Er (S.nl f) _) (args:=args) (w:=u) ⟨λ_ h=>h.elim,λ_ h=>h.elim,pend⟩ (R:=λ_ v u'=>Q v u') (λτ d=>by rw[pz0];exact hc τ d) [y0];have hE:=ends_run (main:=main) S hP hO (bw:=c::rest) a8 (r:=r) (fr:=Frame.enter P f args .normal) (fr':=Frame.enter P f args' .normal) (seg:=[]) (seg':=[]) (w:=w) (M:=M) rfl ⟨ok,hr,pend,.enter hb _,.enter f hA,.nil⟩ ha hM (.inl rfl);refine Ends.bind ?_ ?_ hE
 .rintro M' g1 w' ⟨r1,fe,a6,u1,q1,q2,q3,q4,q5,q6,q7,q8,q9⟩;subst q1;refine Ends.step rfl λw₁ hR=>?_;have hrel:=q2.rely (ha.mono q4) q5 hR;obtain⟨c5,e1,_,_,_,hF⟩:=q9 w₁.drawn;have e2:=(IB e1).1;subst e2;obtain⟨τ,d,u0,v,hQ,hl,a0⟩:=hF u1.tape w₁.drawn;rw[pz0] at a0;have a9:J0 X0 0 (u1.at w₁.drawn) u0:=AbS (a0 0);obtain⟨_,hd,hk,fn,b5,a7⟩:=hl;have b2:(results fn fe.tmps).runT P u0 #[]=(.ok v u0,(results fn fe.tmps).events P u0 #[]):=by rw[Sem.runT_eq,a7]
  have b3:=EC (P:=P) (X:=X0) fn fe.tmps 0 (u1.at w₁.drawn) u0 #[] a9 (.inr (by rw[b2];exact A3 _));rw[b2] at b3;obtain⟨_,u2,b6,b7⟩:=b3;obtain⟨k,_,_,_,b1⟩:=b7.drew;obtain⟨r2,v',w2,ew,e1,e2,e3,e4,e5,e6⟩:=RS.results (P:=P) fn hrel.fr.all (u1.at w₁.drawn) w₁ #[] #[] hrel.wr v u2 _ b6;have b0:∀b,r2.M b->BQ M' w₁ w2 b:=λb hb=>(e5.new b hb).imp (q5 b) id;have b9:a6.mode=.returning:=by rw[hrel.fr.m,q3]
  have c1:a6.defers=[]:=by rw[hrel.fr.d,hrel.top.defers]
  have c2:a6.kind=.normal:=by rw[hrel.fr.k,hrel.top.kind]
  have c3:P.funcs[a6.fn]?=some fn:=by rw[hrel.fr.f,b5]
  have st:stepG P main (G a6 (c::rest)) w₁=.go (G (c.finish v') rest) w2 (seen P a6.fn ew):=by
   simp only[stepG,G,b9,unwind,c1,c3,doReturn,c2,e1,GStep.after,Array.append_empty]
  rw[hP];refine⟨_,w2,_,st,⟨e5.tape,e5.os,e5.output,e5.nv,e5.size,λb hb hn=>e5.block b hb λh=>hn (q5 b h)⟩,λe he=>?_,Ends.stop λqg qi=>?_⟩
  .exact DZ.evk hO (ha.mono (q4.trans e2)) e3 b0 ((e6 e (mem_seen he)).elim (λhx=>by simp at hx) id)
  .have c4:∀b,r2.M b->b<w.heap.size->r.M b:=λb hb hlt=>by
    have z1:=hR.rk.size;have z2:=q8.size;rcases e5.new b hb with h|h
    .exact q7 b h hlt
    .omega
   refine⟨r2,u2.at qg.drawn,u0,v,v',rfl,q4.trans e2,hrel.ok.mono e2,e3.rely (ha.mono (q4.trans e2)) b0 qi,?_,e4,hQ,(AbT b1:u0.heap=u2.heap),b0,λb hb=>.inl (q6 b hb),c4,?_⟩
   .exact b1.pend
   .have a1:AD p M' r1 w' w₁:=.of_r0 hR;have a2:AD p M' r1 w₁ w2:=.of_chg hO (ha.mono q4) hrel.wr e5;have a3:AD p (BQ M' w₁ w2) r2 w2 qg:=.of_r0 qi;have a4:=a1.trans (λ_ h=>h) (λb hb _ _=>hb) a2;have a5:=a4.trans (λb hb=>Or.inl hb) (λb hb hlt _=>(e5.new b hb).elim id λh=>by have:=hR.rk.size;omega) a3;exact q8.trans q6 (λb hb hlt _=>q7 b hb hlt) a5
 .rintro M' g1 w' ⟨r1,fe,a6,u1,q1,_⟩;subst q1;rfl
end
end Bd
namespace Bd
open Go.Conc
def Om(P:Program):Nat->TypeId->Bool
 | 0,_=>true
 | d+1,t=>match P.underlying t with
  | some (.struct fs)=>fs.all λf=>Om P d f.type
  | some (.array _ e)=>Om P d e
  | some (.float _)|some (.complex _)=>false
  | _=>true
theorem SL{P:Program}:∀(d:Nat)(t:TypeId),Om P d t=true->∀off v,plainCell P d t off=some v->(∃b,v=.bool b)\/∃k n,v=.int k n
 | 0,_,_,_,_,h=>by simp[plainCell] at h
 | d+1,t,hn,off,v,h=>by
  unfold plainCell at h;unfold Om at hn;cases hu:P.underlying t with
  | none=>simp[hu] at h
  | some ds =>
   simp[hu] at h hn;cases ds with
   | struct fs =>
    simp only at h hn;obtain⟨f,hf,hx⟩:=Array.exists_of_findSome?_eq_some h;split at hx
    .exact SL d f.type (Array.all_eq_true'.1 hn f hf) _ _ hx
    .cases hx
   | array n e =>
    simp only at h hn;split at h
    .cases h
    .exact SL d e hn _ _ h
   | bool=>simp only at h;split at h<;>cases h;exact .inl ⟨_,rfl⟩
   | int k=>simp only at h;split at h<;>cases h;exact .inr ⟨_,_,rfl⟩
   | float k=>cases hn
   | complex k=>cases hn
   | _=>cases h
theorem VQ{P:Program}(t:TypeId)(h:Om P P.depth t=true):EW P t:=λoff v hv=>SL _ t h off v hv
theorem ZP{P:Program}{f:FuncId}(hf:P.funcs[f]?=some fn)(hb:fn.body.isNone=true)(hn:(fn.name == "runtime.NumGoroutine")=false)(hx:(Extern.findNext fn).isNone=true){e:Array Value->Sem Value}(he:Extern.find fn=some e)(h:∀r c c',F1 r c c'->RS P r Qv (e c) (e c')):SA P f:=λr c c' hc=>by
 have hx:Extern.findNext fn=none:=by simpa using hx
 unfold callFunc;refine RS.program ?_;simp only[hf,hn,hb,Bool.false_eq_true,if_false,if_true,hx,he];exact RS.bind (RS.markOk (.inr ⟨_,rfl⟩)) λr1 _ _ k1 _=>RS.v (h r1 _ _ (hc.mono k1))
theorem ZQ{r:Rn}{c c':Array Value}(h:F1 r c c'):(∃x x',c=#[x]/\c'=#[x']/\VR r x x')\/((c=#[]/\c'=#[])\/∃x y l x' y' l',c=⟨x::y::l⟩/\c'=⟨x'::y'::l'⟩):=by
 by_cases e:c.size=1
 .have e':c'.size=1:=by rw[← h.size];exact e
  obtain⟨x,rfl⟩:=Array.size_eq_one_iff.1 e;obtain⟨x',rfl⟩:=Array.size_eq_one_iff.1 e';exact .inl ⟨x,x',rfl,rfl,h.get 0 x x' rfl rfl⟩
 .right
  have hs:=h.size;rcases c with⟨_|⟨x,_|⟨y,l⟩⟩⟩
  .grind
  .exact absurd rfl e
  .right
   rcases c' with⟨_|⟨x',_|⟨y',l'⟩⟩⟩
   iterate 2 .simp at hs
   .simp_all
theorem Ael{P:Program}(r:Rn)(c c':Array Value)(h:F1 r c c'):RS P r Qv (Extern.AbiNoEscape.same c) (Extern.AbiNoEscape.same c'):=by
 rcases ZQ h with⟨x,x',rfl,rfl,hv⟩|⟨rfl,rfl⟩|⟨x,y,l,x',y',l',rfl,rfl⟩
 .exact RS.pure hv
 iterate 2 .exact RS.halt
instance s_same {P:Program} (X:Nat->Prop) (c:Array Value):Sound P X (Extern.AbiNoEscape.same c):=by
 rcases c with⟨_|⟨x,_|⟨y,l⟩⟩⟩
 .exact s_stuck _
 .exact Sound.pure' _
 .exact s_stuck _
theorem VS{r:Rn}:∀(n t:Nat)(c:Array Value),F1 r c c->F1 r (Extern.BytealgMakeNoZero.digits n t c) (Extern.BytealgMakeNoZero.digits n t c)
 | 0,_,_,h=>h
 | n+1,_t,_c,h=>VS n _ _ (h.push (.int _ _))
theorem Xw{P:Program}{α β:Type}{s:Sem α}{f:α->Sem β}(h:E7 P s):E7 P (s >>= f):=λw es a w' es' he=>by
 have he:(s.bind f).runT P w es=_:=he;rw[Sem.runT_bind'] at he;match hs:s.runT P w es,he with
 | (.ok b w1,e1),he=>exact h _ _ _ _ _ hs
 | (.halt b w1,e1),he=>cases he
instance s_noZero {P:Program} (p q:Array TypeId) (X:Nat->Prop) (c:Array Value):Sound P X (Extern.BytealgMakeNoZero.makeNoZero p q c):=by
 rcases c with⟨_|⟨x,_|⟨y,l⟩⟩⟩
 .exact s_stuck _
 .cases x with
  | int k n =>
   cases k<;>first|exact s_stuck _|skip
   unfold Extern.BytealgMakeNoZero.makeNoZero
   split
   .refine Sound.bind (s_und _) λd=>?_;cases d<;>first|exact s_stuck _|skip
    dsimp only
    split
    .exact Sound.bind (s_panic _) λ_=>Sound.bind (s_choose _) λ_=>Sound.bind (s_room _) λ_=>Sound.bind (s_choose _) λ_=>Sound.bind (s_row _ _) λ_=>Sound.pure' _
    .exact Sound.bind (s_choose _) λ_=>Sound.bind (s_room _) λ_=>Sound.bind (s_choose _) λ_=>Sound.bind (s_row _ _) λ_=>Sound.pure' _
   .exact s_stuck _
  | _=>exact s_stuck _
 .exact s_stuck _
theorem ZR{P:Program}(p q:Array TypeId)(r:Rn)(c c':Array Value)(h:F1 r c c'):RS P r Qv (Extern.BytealgMakeNoZero.makeNoZero p q c) (Extern.BytealgMakeNoZero.makeNoZero p q c'):=by
 rcases ZQ h with⟨x,x',rfl,rfl,hv⟩|⟨rfl,rfl⟩|⟨x,y,l,x',y',l',rfl,rfl⟩
 .cases hv with
  | int k n =>
   cases k<;>first|exact RS.halt|skip
   unfold Extern.BytealgMakeNoZero.makeNoZero
   split
   .refine RS.bind (RS.und _) λr1 d d' k1 hd=>?_;cases hd
    cases d<;>first|exact RS.halt|skip
    dsimp only
    split
    .exact RS.never (Xw (J7 _))
    .refine RS.bind (RS.choose _) λr3 m m' k3 hm=>?_;cases hm
     refine RS.bind (RS.room _) λr4 _ _ k4 _=>?_;refine RS.bind (RS.choose _) λr5 b b' k5 hb=>?_;cases hb
     refine RS.bind (RS.newRow (VS _ _ _ ⟨rfl,λi v v' h=>by simp at h⟩)) λr6 a a' k6 ha=>RS.pure (.sl _ _ ha)
   .exact RS.halt
  | _=>exact RS.halt
 .exact RS.halt
 .exact RS.halt
def AgY(P:Program)(g:Nat->Bool)(nf:TypeId->Bool)(l x:List Nat):Bool:=(l.all λf=>match P.funcs[f]? with
 | some fn=>(match fn.body with|some b=>AV P (Ci l true) g nf b&&M7 P (Ci l true) [] b && !(fn.name == "runtime.NumGoroutine")|none=>x.contains f)
 | none=>false)&&P.funcs.all λf=>(f.body.map readies).all (·.all (· < gN))
theorem Aem{P:Program}{g:Nat->Bool}{nf:TypeId->Bool}{l x:List Nat}(hx:∀f∈x,SA P f/\KU P f)(ha:P.follows .staticDataAhead=true)(h:AgY P g nf l x=true):De P (Ci l true) g nf:=by
 have a0:∀f,l.contains f=true->(∃fn body,P.funcs[f]?=some fn/\fn.body=some body/\AV P (Ci l true) g nf body=true/\M7 P (Ci l true) [] body=true/\(fn.name == "runtime.NumGoroutine")=false)\/(f∈x/\∃fn,P.funcs[f]?=some fn/\fn.body=none):=λf hf=>by
  have hm:f∈l:=by simpa using hf
  have h1:=List.all_eq_true.1 (Bool.and_eq_true_iff.1 h).1 f hm;cases hfn:P.funcs[f]? with
  | none=>simp only[hfn] at h1;cases h1
  | some fn =>
   simp only[hfn] at h1;cases hb:fn.body with
   | none=>simp only[hb] at h1;exact .inr ⟨by simpa using h1,fn,rfl,hb⟩
   | some b =>
    simp only[hb,Bool.and_eq_true] at h1;exact .inl ⟨fn,b,rfl,hb,h1.1.1,h1.1.2,by simpa using h1.2⟩
 refine⟨⟨λf hf=>?_,Vi (Bool.and_eq_true_iff.1 h).2⟩,λ_=>rfl,λf hf=>?_,ha⟩
 .rcases a0 f hf with⟨fn,b,h1,h2,h3,h4,h5⟩|⟨h1,_⟩
  .exact .inl ⟨fn,b,h1,h2,h4,h5⟩
  .simp_all
 .rcases a0 f hf with⟨fn,b,h1,h2,h3,h4,h5⟩|⟨h1,h2⟩
  .exact .inl ⟨fn,b,h1,h2,h3,h5⟩
  .simp_all
end Bd
section
structure Done where
 nm:BA
 e:Int
 t:Int
structure House where
 now:Int
 last:Int
 sh:Bk
 bs:List Rb
 ds:List Done
@[simp,go_sem] abbrev Hcz(h:House)(a1:Option Addr)(c1:Nat)(a2:Option Addr)(c2:Nat)(a3:Option Addr)(c3:Nat)(a4:Option Addr)(c4:Nat):List Value:=[.int .i64 h.now,.int .i64 h.last,.slice a1 h.sh.tg.length c1,.slice a2 h.sh.bs.length c2,.slice a3 h.bs.length c3,.slice a4 h.ds.length c4]
def Dt(h:House):Prop:=0<=h.now/\h.now<=100000/\0<=h.last/\h.last<=1000000
def CV(ds:List Done)(now:Int)(i:Nat)(d:Done):Prop:=E4 d.nm=true/\1<=d.e/\d.e<=3/\0<=d.t/\d.t<=now/\∀(j:Nat)(p:Done),j+1=i->ds[j]?=some p->p.t<=d.t
def BO(ds:List Done)(now:Int)(k:Nat):Prop:=∀(i:Nat)(d:Done),i<k->ds[i]?=some d->CV ds now i d
def N0(h:House):Prop:=h.ds.length<=20/\BO h.ds h.now h.ds.length
def BE(b:Bk):Prop:=∃ss,Ac b ss true
def Lh(bs:List Rb)(last:Int)(i:Nat)(b:Rb):Prop:=I7 b/\b.st<=last/\∀(j:Nat)(p:Rb),j+1=i->bs[j]?=some p->p.st<b.st
def Ks(bs:List Rb)(last:Int)(k:Nat):Prop:=∀(i:Nat)(b:Rb),i<k->bs[i]?=some b->Lh bs last i b
def CW(h:House):Prop:=Ks h.bs h.last h.bs.length
def G5(bs:List Rb):List BA:=bs.map (·.nm)
def Be(h:House):Prop:=h.bs.length=h.sh.bs.length/\(G5 h.bs).Nodup/\∀s∈G5 h.bs,s∈G9 h.sh.bs
def J6(b:Bk)(nm:BA):Ba:=(b.bs.find? λx=>x.nm.toList==nm.toList).getD ⟨⟨#[]⟩,[],[]⟩
def CX(h:House)(k:Nat):Prop:=∀(i:Nat)(b:Rb),i<k->h.bs[i]?=some b->(J6 h.sh b.nm).nj=K5 b b.ad
def Cm(h:House)(k:Nat):Prop:=∀(i:Nat)(b:Rb),i<k->h.bs[i]?=some b->0<=b.si->CI (R6 b) (J6 h.sh b.nm).has
def F2(h:House):Prop:=Dt h/\N0 h/\BE h.sh/\Be h/\CW h/\CX h h.bs.length/\Cm h h.bs.length
theorem VN{b:Bk}(h:Ac b ss ok):ok=pB (BE b):=by
 cases ok with
 | true=>exact (M5 ⟨ss,h⟩).symm
 | false=>exact (F3 λ⟨ss',h'⟩=>by have:=(h.uniq h').2;cases this).symm
theorem BE.book{b:Bk}(h:BE b):J3 b:=by
 obtain⟨ss,⟨_,hb,_⟩|⟨h0,_⟩⟩:=h
 .omega
 .grind
theorem LE(bs):(G5 bs).length=bs.length:=by simp[G5]
theorem Du{α:Type}{P:Nat->α->Prop}{l:List α}{k:Nat}(h:∀(i:Nat)(a:α),i<k->l[i]?=some a->P i a)(hk)(hl:P k l[k]):∀(i)(a),i<k+1->l[i]?=some a->P i a:=by grind
theorem Li{b:Bk}{k:Nat}(ha:Y4 (G9 b.bs))(hk:k<b.bs.length)(e:(b.bs[k]).nm=nm):J6 b nm=b.bs[k]:=by
 have:(b.bs.find? λx=>x.nm.toList==nm.toList)=some b.bs[k]:=by
  rw[List.find?_eq_some_iff_getElem];refine⟨by rw[e];simp,k,hk,rfl,λj hj=>?_⟩;have a0:j<b.bs.length:=oM
  cases hq:((b.bs[j]).nm.toList==nm.toList)
  .simp
  .have e2:(b.bs[j]).nm=nm:=FN (by simpa using hq);have h1:(G9 b.bs)[j]?=some nm:=by rw[A0 (by rwa[K0]),Cs _ _ a0,e2]
   have h2:(G9 b.bs)[k]?=some nm:=by rw[A0 (by rwa[K0]),Cs _ _ hk,e]
   have:=Ir ha h1 h2;omega
 rw[J6,this];rfl
theorem Ni{b:Bk}(h:nm∈G9 b.bs):∃k,∃hk:k<b.bs.length,(b.bs[k]).nm=nm:=by
 obtain⟨x,hx,rfl⟩:=List.mem_map.1 h;obtain⟨i,hi,rfl⟩:=B7 hx;exact⟨i,hi,rfl⟩
theorem Nj:(D7 l).Nodup↔l.Nodup:=by
 unfold List.Nodup D7;rw[List.pairwise_map];constructor
 .exact λh=>h.imp λh e=>h (by rw[e])
 .exact λh=>h.imp λh e=>h (Aw e)
theorem AbN(h:Y4 l):(D7 l).Pairwise (· < ·):=by
 rw[List.pairwise_iff_getElem];intro i j hi hj hij;have a0:i<l.length:=by simpa [D7] using hi
 have a1:j<l.length:=by simpa [D7] using hj
 have:=DF h (j-i-1) i _ _ (A0 a0) (by rw[show i+1+(j-i-1)=j by omega];exact A0 a1);unfold U1 at this;rw[Im] at this;simpa [D7] using this
theorem AbO(h:(D7 l).Pairwise (· < ·)):Y4 l:=λi a b _ ha hb=>by
 obtain⟨h1,rfl⟩:=A2.1 ha;obtain⟨h2,rfl⟩:=A2.1 hb;have:=List.pairwise_iff_getElem.1 h i (i+1) (by simpa [D7] using h1) (by simpa [D7] using h2) oM;unfold U1;rw[Im];simpa [D7] using this
theorem Df{s:BA}:s.toList∈D7 l↔s∈l:=by
 simp only[D7,List.mem_map];exact⟨λ⟨x,hx,e⟩=>by rwa [← Aw e],λh=>⟨s,h,rfl⟩⟩
theorem Aef(l)(ss):Y4 (Bq l ss):=AbO (Jq l ss).1
theorem ZK(x:Rb):Y4 (R6 x):=by
 unfold R6;split
 .exact Aef _ _
 .exact λi a b hi ha=>by simp at ha
def U5(l:List T6):List T6:=l.mergeSort λx y=>decide (x<=y)
theorem SH{h:House}(ha:Y4 (G9 h.sh.bs))(hl:h.bs.length=h.sh.bs.length):U5 (D7 (G5 h.bs))=D7 (G9 h.sh.bs)↔Be h:=by
 have hm:∀x,x∈U5 (D7 (G5 h.bs))↔x∈D7 (G5 h.bs):=λx=>List.mem_mergeSort;have hp:(U5 (D7 (G5 h.bs))).Perm (D7 (G5 h.bs)):=List.mergeSort_perm _ _;have hs:=AbN ha;constructor
 .intro e;rw[e] at hp hm;refine⟨hl,Nj.1 (hp.nodup_iff.1 (EH hs)),λs a0=>Df.1 ((hm _).2 (Df.2 a0))⟩
 .rintro⟨-,hn,hmem⟩;have a3:=Nj.2 hn
  have a1:∀x∈D7 (G5 h.bs),x∈D7 (G9 h.sh.bs):=λx hx=>by
   simp only[D7,List.mem_map] at hx;obtain⟨s,a0,rfl⟩:=hx;exact Df.2 (hmem s a0)
  have a4:(D7 (G5 h.bs)).length=(D7 (G9 h.sh.bs)).length:=by simp[D7,G5,G9,hl]
  have a2:=λx hx=>by
   by_cases hxx:x∈D7 (G5 h.bs)
   .exact hxx
   .have:=Ee ((D7 (G9 h.sh.bs)).erase x) (D7 (G5 h.bs)) a3 λy hy=>by
     grind
    rw[List.length_erase_of_mem hx] at this;have:=List.length_pos_of_mem hx;omega
  have a5:=hp.nodup_iff.2 a3
  have a6:=by
   have:=List.pairwise_mergeSort (le:=λ(x y:T6)=>decide (x<=y)) (λa b c h k=>by
    simp only[decide_eq_true_eq] at *;exact List.le_trans h k) (λa b=>by
    simp only[Bool.or_eq_true,decide_eq_true_eq];exact List.le_total a b) (D7 (G5 h.bs))
   simpa [U5] using this
  have a7:(U5 (D7 (G5 h.bs))).Pairwise (· < ·):=by
   refine (a6.and a5).imp λ⟨h1,h2⟩=>?_;rcases YO.1 h1 with k|k
   .exact k
   .exact absurd k h2
  exact EY _ _ a7 hs λx=>by rw[hm];exact⟨a1 x,a2 x⟩
end
end Go.Proofs.YtaffjphkobhagaaGreatDoor
