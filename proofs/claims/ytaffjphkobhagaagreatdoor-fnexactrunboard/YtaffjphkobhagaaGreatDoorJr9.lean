/- A lone run among others who make blocks too, 9: literals, append, copy, conversions. -/
import Derived.Test.YtaffjphkobhagaaGreatDoorJ21
namespace Go.Proofs.YtaffjphkobhagaaGreatDoor
variable{l l':List (Nat×Value)}{t:TypeId}
namespace Bd
open Go.Conc
section
variable {P:Program} {r:Rn} {v v' x x' y y':Value} {a a' b b':Addr} {c c':Array Value}
theorem VA(off:Nat):∀(l l':List Value)(k:Nat) {c c':Array Value},l.length=l'.length->(∀(i:Nat)(v v':Value),l[i]?=some v->l'[i]?=some v'->VR r v v')->F1 r c c'->
  F1 r ((l.zipIdx k).foldl (λcs (q:Value×Nat)=>cs.setIfInBounds (off+q.2) q.1) c) ((l'.zipIdx k).foldl (λcs (q:Value×Nat)=>cs.setIfInBounds (off+q.2) q.1) c')
 | [],[],_,_,_,_,_,hc=>hc
 | [],_::_,_,_,_,hl,_,_=>by simp at hl
 | _::_,[],_,_,_,hl,_,_=>by simp at hl
 | v::l,v'::l',k,_,_,hl,h,hc=>by
  simp only[List.zipIdx_cons,List.foldl_cons];exact VA off l l' (k+1) (by simpa using hl) (λi x x' h1 h2=>h (i+1) x x' (by simpa using h1) (by simpa using h2)) (hc.set _ (h 0 v v' rfl rfl))
inductive PR (r:Rn):List (Nat×Value)->List (Nat×Value)->Prop
 | nil:PR r [] []
 | cons (i:Nat) {v v':Value} {l l':List (Nat×Value)} (h:VR r v v') (t:PR r l l'):PR r ((i,v)::l) ((i,v')::l')
theorem PR.mono{r r':Rn}(k:r.le r')(h:PR r l l'):PR r' l l':=by
 induction h with
 | nil=>exact .nil
 | cons i h _ ih=>exact .cons i (h.mono k) ih
theorem Se{place:Nat->Option (Nat×Nat)}(h:PR r l l'):∀{c c' d:Array Value},F1 r c c'->Instr.fill place c l=some d->∃d',Instr.fill place c' l'=some d'/\F1 r d d':=by
 induction h with
 | nil=>intro c c' d hc e;cases e;exact⟨c',rfl,hc⟩
 | cons i hv _ ih =>
  rename_i v v' l l' _;intro c c' d hc e;unfold Instr.fill at e ⊢
  cases hp:place i with
  | none=>rw[hp] at e;cases e
  | some q =>
   obtain⟨a0,a1⟩:=q;rw[hp] at e;simp only at e ⊢
   rw[← hv.cells.size,← hc.size];split at e
   .cases e
   .rename_i hcond;rw[if_neg hcond];refine ih ?_ e;have:=VA a0 v.cells.toList v'.cells.toList 0 (by simpa using hv.cells.size) (λi x x' h1 h2=>hv.cells.get i x x' (by simpa using h1) (by simpa using h2)) hc;have e:∀(x d:Array Value),x.zipIdx.foldl (λcs (q:Value×Nat)=>cs.setIfInBounds (a0+q.2) q.1) d=(x.toList.zipIdx).foldl (λcs (q:Value×Nat)=>cs.setIfInBounds (a0+q.2) q.1) d:=λx d=>by rw[← Array.foldl_toList,Array.toList_zipIdx]
    rw[← e,← e] at this;exact this
theorem RS.mapE{τ β:Type}{f:τ->Sem β}:∀(l:List τ) {r:Rn},(∀x r,RS P r Qe (f x) (f x))->RS P r Qe (l.mapM f) (l.mapM f)
 | [],_,_=>by rw[List.mapM_nil];exact .pure rfl
 | x::l,_,hf=>by
  rw[List.mapM_cons];refine RS.bind (hf x _) λr1 b b' k1 hb=>?_;cases hb
  refine RS.bind (RS.mapE l hf) λr2 b b' k2 hb=>?_;cases hb
  exact .pure rfl
theorem RS.mapA{τ β:Type}{f:τ->Sem β}(l:Array τ)(hf:∀x r,RS P r Qe (f x) (f x)):RS P r Qe (l.mapM f) (l.mapM f):=by
 rw[Array.mapM_eq_mapM_toList];refine RS.bind (RS.mapE l.toList hf) λr1 b b' k1 hb=>?_;cases hb
 exact .pure rfl
theorem RS.build(hz:JQ P t=true){l l':Array (Nat×Value)}(h:PR r l.toList l'.toList):RS P r Qv (Instr.build t l) (Instr.build t l'):=by
 unfold Instr.build;refine RS.bind (RS.zero hz) λr1 z z' k1 hzz=>?_;dsimp only
 refine RS.bind (RS.und t) λr2 d d' k2 hd=>?_;cases hd
 have a0:∀{r3:Rn} (place:Nat->Option (Nat×Nat)) (s:String),r2.le r3->RS P r3 Qv (match Instr.fill place z.cells l.toList with|some cells=>Pure.pure (Value.agg cells)|_=>stuck s) (match Instr.fill place z'.cells l'.toList with|some cells=>Pure.pure (Value.agg cells)|_=>stuck s):=λ{r3} place s k3=>by
  cases hf:Instr.fill place z.cells l.toList with
  | none=>exact .halt
  | some d =>
   obtain⟨d',h1,h2⟩:=Se (((h.mono k1).mono k2).mono k3) (((hzz.cells).mono k2).mono k3) hf;rw[h1];exact .pure (VR.agg' h2)
 cases d with
 | struct fields =>
  dsimp only
  refine RS.bind (RS.mapA fields λx r=>RS.bind (RS.size x.type) λ_ _ _ _ h=>by cases h;exact .pure rfl) λr3 q q' k3 hq=>?_;cases hq
  exact a0 _ _ k3
 | array n elem =>
  dsimp only
  refine RS.bind (RS.size elem) λr3 q q' k3 hq=>?_;cases hq
  exact a0 _ _ k3
 | _=>exact .halt
theorem F1.rows(h:F1 r c c')(n:Nat):F1 r ((Array.range n).map (c[· % c.size]!)) ((Array.range n).map (c'[· % c'.size]!)):=by
 refine⟨dC,λi v v' h1 h2=>?_⟩;simp only[Array.getElem?_map,B6] at h1 h2;obtain⟨j,hj,rfl⟩:=h1;obtain⟨j',a0,rfl⟩:=h2;rw[hj] at a0;cases a0
 rw[← h.size];by_cases e:j % c.size<c.size
 .have e':j % c.size<c'.size:=by rw[← h.size];exact e
  simp only[getElem!_pos,e,e'];exact h.get _ _ _ (Array.getElem?_eq_getElem e) (Array.getElem?_eq_getElem e')
 .have e':¬j % c.size<c'.size:=by rw[← h.size];exact e
  simp only[getElem!_neg,e,e',not_false_eq_true];exact .bool _
theorem RS.buildSlice(len:Nat)(hz:∀e,P.underlying t=some (.slice e)->JQ P e=true){l l':Array (Nat×Value)}(h:PR r l.toList l'.toList):RS P r Qv (Instr.buildSlice t len l) (Instr.buildSlice t len l'):=by
 unfold Instr.buildSlice;refine RS.bind (RS.undK t) λr1 d d' k1 hd=>?_;obtain⟨rfl,hd⟩:=hd;cases d' with
 | slice elem =>
  dsimp only
  refine RS.bind (RS.size elem) λr2 sz sz' k2 hs=>?_;cases hs
  have a0:∀{r3:Rn} (z z':Array Value),r2.le r3->F1 r3 z z'->RS P r3 Qv (match Instr.fill (λi=>some (i*sz,sz)) ((Array.range (len*sz)).map (z[· % z.size]!)) l.toList with|some cells=>(do Pure.pure (Value.slice (some (← Go.newRow elem cells)) len len))|_=>stuck "buildSlice: a part of the wrong size")
    (match Instr.fill (λi=>some (i*sz,sz)) ((Array.range (len*sz)).map (z'[· % z'.size]!)) l'.toList with|some cells=>(do Pure.pure (Value.slice (some (← Go.newRow elem cells)) len len))|_=>stuck "buildSlice: a part of the wrong size"):=λ{r3} z z' k3 hzz=>by
   cases hf:Instr.fill (λi=>some (i*sz,sz)) ((Array.range (len*sz)).map (z[· % z.size]!)) l.toList with
   | none=>exact .halt
   | some d =>
    obtain⟨d',h1,h2⟩:=Se (((h.mono k1).mono k2).mono k3) (hzz.rows _) hf;rw[h1];exact RS.bind (RS.newRow h2) λ_ _ _ _ ha=>.pure (.sl _ _ ha)
  split
  .exact RS.never (E7.seq (E7.halt _))
  .by_cases e:len*sz=0
   .rw[if_pos e,if_pos e];exact RS.bind (A:=Qc) (.pure .nil) λr3 z z' k3 hz=>a0 z z' k3 hz
   .rw[if_neg e,if_neg e];exact RS.bind (RS.zero (hz elem hd)) λr3 z z' k3 hv=>RS.bind (A:=Qc) (.pure hv.cells) λr4 z z' k4 hq=>a0 z z' (k3.trans k4) hq
 | _=>exact .halt
theorem RS.lenOf(h:VR r x x'):RS P r Qe (Builtin.lenOf x) (Builtin.lenOf x'):=by cases h<;>first|exact .pure rfl|exact .halt
theorem RS.first(size n:Nat)(h:VR r x x'):RS P r Qc (Builtin.firstCells size n x) (Builtin.firstCells size n x'):=by
 cases h with
 | sl m c ha=>exact RS.loadCells ha _
 | sl0 m c=>exact .pure .nil
 | string s=>exact .pure (.refl λv hv=>by simp only[Array.mem_map] at hv;obtain⟨b,_,rfl⟩:=hv;exact .int _ _)
 | _=>exact .halt
theorem RS.len(t:Array TypeId)(ty:TypeId)(h:VR r x x'):RS P r Qv (Builtin.len_ t ty #[x]) (Builtin.len_ t ty #[x']):=by
 unfold Builtin.len_;cases ht:t[0]? with
 | none=>exact .halt
 | some t0 =>
  try dsimp only
  refine RS.bind (RS.und t0) λr1 d d' k1 hd=>?_;cases hd
  cases d with
  | array n e=>exact .pure (.int _ _)
  | pointer arr =>
   try dsimp only
   refine RS.bind (RS.und arr) λr2 d d' k2 hd=>?_;cases hd
   cases d<;>first|exact .pure (.int _ _)|exact .halt
  | _=>cases h<;>first|exact .pure (.int _ _)|exact .halt
theorem RS.cap(t:Array TypeId)(ty:TypeId)(h:VR r x x'):RS P r Qv (Builtin.cap_ t ty #[x]) (Builtin.cap_ t ty #[x']):=by
 unfold Builtin.cap_;cases ht:t[0]? with
 | none=>exact .halt
 | some t0 =>
  try dsimp only
  refine RS.bind (RS.und t0) λr1 d d' k1 hd=>?_;cases hd
  cases d with
  | array n e=>exact .pure (.int _ _)
  | pointer arr =>
   try dsimp only
   refine RS.bind (RS.und arr) λr2 d d' k2 hd=>?_;cases hd
   cases d<;>first|exact .pure (.int _ _)|exact .halt
  | _=>cases h<;>first|exact .pure (.int _ _)|exact .halt
theorem RS.copy(t:Array TypeId)(ty:TypeId)(h:VR r x x')(hy:VR r y y'):RS P r Qv (Builtin.copy_ t ty #[x,y]) (Builtin.copy_ t ty #[x',y']):=by
 unfold Builtin.copy_;cases ht:t[0]? with
 | none=>exact .halt
 | some t0 =>
  try dsimp only
  refine RS.bind (RS.und t0) λr1 d d' k1 hd=>?_;cases hd
  cases d with
  | slice elem =>
   try dsimp only
   have hx:=h.mono k1;have hy:=hy.mono k1;cases hx with
   | sl n c ha =>
    try dsimp only
    refine RS.bind (RS.lenOf hy) λr2 m m' k2 hm=>?_;cases hm
    refine RS.bind (RS.size elem) λr3 s s' k3 hs=>?_;cases hs
    refine RS.bind (RS.first s _ ((hy.mono k2).mono k3)) λr4 q q' k4 hq=>?_;exact RS.bind (RS.storeCells (((ha.mono k2).mono k3).mono k4) hq) λ_ _ _ _ _=>.pure (.int _ _)
   | sl0 n c =>
    try dsimp only
    refine RS.bind (RS.lenOf hy) λr2 m m' k2 hm=>?_;cases hm
    refine RS.bind (RS.size elem) λr3 s s' k3 hs=>?_;cases hs
    exact RS.bind (RS.first s _ ((hy.mono k2).mono k3)) λr4 q q' k4 hq=>.pure (.int _ _)
   | _=>exact .halt
  | _=>exact .halt
end
end Bd
end Go.Proofs.YtaffjphkobhagaaGreatDoor
