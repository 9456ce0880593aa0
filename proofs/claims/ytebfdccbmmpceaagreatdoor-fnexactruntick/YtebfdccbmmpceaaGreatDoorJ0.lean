/- Plain facts on names, ends and phases: no program in it. -/
import Derived.Laws.RangeAny
import Derived.Below
import Derived.Test.YtebfdccbmmpceaaGreatDoorChecked
import Derived.WalkKit
import Derived.WalkSpells
import Derived.WalkLawsBesides
import Derived.Handy
import Derived.Outline
import Derived.Deep.Light
import Derived.Laws.Bits64
import Derived.BigQuiet
import Derived.Deep.QuietTactic
import Derived.Deep.DeepCutAuto
import Derived.Deep.RegionLaw
import Derived.Deep.RegionHeld
import Derived.Deep.RegionWith
import Derived.Test.YtebfdccbmmpceaaGreatDoorRows
import Derived.ProofKit
import Derived.OpenShut
import Derived.OpenVars
import Derived.LaidLaws
import Derived.Lib.LaidTab
import Derived.ChangeBears2
import Derived.Deep.DeepHandedRow
namespace Go.Proofs.YtebfdccbmmpceaaGreatDoor
theorem A0:type_of% @List.getElem?_eq_getElem:=@List.getElem?_eq_getElem
theorem A1:type_of% @Nat.lt_of_lt_of_le:=@Nat.lt_of_lt_of_le
theorem A2:type_of% @List.getElem?_eq_some_iff:=@List.getElem?_eq_some_iff
theorem A3:type_of% @Nat.le_refl:=@Nat.le_refl
theorem A4:type_of% @Go.RowKit.Below.refl:=@Go.RowKit.Below.refl
theorem A5:type_of% @Option.some.inj:=@Option.some.inj
theorem A6:type_of% @List.mem_of_getElem?:=@List.mem_of_getElem?
theorem A7:type_of% @List.take_succ_eq_append_getElem:=@List.take_succ_eq_append_getElem
theorem A8:type_of% @List.length_drop:=@List.length_drop
theorem A9:type_of% @List.length_append:=@List.length_append
theorem B0:type_of% @List.getElem?_map:=@List.getElem?_map
theorem B1:type_of% @Nat.le_trans:=@Nat.le_trans
theorem B3:type_of% @World.ownsRow.stored:=@World.ownsRow.stored
theorem B4:type_of% @List.length_map:=@List.length_map
theorem B5:type_of% @Option.map_eq_some_iff:=@Option.map_eq_some_iff
theorem B6:type_of% @List.getElem_of_mem:=@List.getElem_of_mem
theorem B7:type_of% @List.length_take:=@List.length_take
theorem B8:type_of% @World.ownsRow_nil:=@World.ownsRow_nil
theorem B9:type_of% @World.ownsRow_lit:=@World.ownsRow_lit
theorem C0:type_of% @World.cell?_setCell_other:=@World.cell?_setCell_other
theorem C3:type_of% @World.cell?_of_block:=@World.cell?_of_block
theorem C4:type_of% @Nat.eq_zero_or_pos:=@Nat.eq_zero_or_pos
theorem C5:type_of% @List.length_eq_zero_iff:=@List.length_eq_zero_iff
theorem C6:type_of% @List.mem_iff_getElem?:=@List.mem_iff_getElem?
theorem C7:type_of% @List.getElem?_eq_none:=@List.getElem?_eq_none
theorem C8:type_of% @List.mem_cons_of_mem:=@List.mem_cons_of_mem
theorem C9:type_of% @List.getElem?_append_right:=@List.getElem?_append_right
theorem D0:type_of% @List.getElem?_set_self:=@List.getElem?_set_self
theorem D1:type_of% @List.mem_append:=@List.mem_append
theorem D2:type_of% @List.mem_singleton:=@List.mem_singleton
theorem D3:type_of% @List.take_of_length_le:=@List.take_of_length_le
theorem D4:type_of% @Array.getElem?_eq_some_iff:=@Array.getElem?_eq_some_iff
theorem D5:type_of% @List.drop_eq_getElem_cons:=@List.drop_eq_getElem_cons
def nbB (n:Nat):Bool:=(decide (97<=n)&&decide (n<=122)) || (decide (48<=n)&&decide (n<=57)) || n==45
def allB (l:List UInt8):Bool:=l.all λb=>nbB b.toNat
def nameB (s:ByteArray):Bool:=decide (1<=s.size)&&decide (s.size<=8)&&allB s.data.toList
theorem AaS (n:Nat):nbB n=true↔(97<=n/\n<=122)∨(48<=n/\n<=57)∨n=45:=by
 simp[nbB,or_assoc]
theorem AbW (n:Nat) (h:128<=n):nbB n=false:=by
 rw[← Bool.not_eq_true,AaS];omega
theorem Akx (s:ByteArray) (k:Nat) (h:k<s.size):s.data.toList.take (k+1)=s.data.toList.take k++[s[k]]:=by
 rw[A7 (by simpa using h)];rfl
theorem Aky (l:List UInt8) (b:UInt8):allB (l++[b])=(allB l&&nbB b.toNat):=by simp[allB]
theorem Abw (s:ByteArray) (k:Nat) (h:k<s.size):allB (s.data.toList.take (k+1))=(allB (s.data.toList.take k)&&nbB (s[k]).toNat):=by
 rw[Akx s k h,Aky]
theorem AaT (s:ByteArray) (k:Nat) (h:k<s.size) (hb:nbB (s[k]).toNat=false):allB s.data.toList=false:=by
 rw[← Bool.not_eq_true];intro ha;simp only[allB,List.all_eq_true] at ha;have:=ha (s[k]) (by show s.data[k]∈s.data.toList;simp);rw[hb] at this;cases this
theorem AbX (s:ByteArray) (k:Nat) (h:¬k<s.size) (ha:allB (s.data.toList.take k)=true):allB s.data.toList=true:=by
 rw[D3 (by simp;omega)] at ha;exact ha
def inB (n lo hi:Int):Bool:=decide (lo<=n)&&decide (n<=hi)
theorem P9 (n lo hi:Int):inB n lo hi=true↔lo<=n/\n<=hi:=by simp[inB]
theorem Aa5 (n lo hi:Int):inB n lo hi=false↔¬(lo<=n/\n<=hi):=by rw[← P9];simp
def endN (s:ByteArray):Int :=
 if s.toList==[103,111,111,100] then 1 else if s.toList==[115,97,118,101,100] then 2 else if s.toList==[115,99,114,97,112,112,101,100] then 3 else 0
def argsB (k:Int) (a b:ByteArray) (n wi:Int):Bool :=
 if k=1 then nameB a&&nameB b&&inB n 1 1000
 else if k=2 then nameB a&&nameB b && !(a.toList==b.toList)&&inB n 1 1000
 else if k=3 then nameB a&&b.toList.isEmpty&&inB n 1 wi
 else if k=4∨k=5 then nameB a&&b.toList.isEmpty&&n==0
 else false
def phaseB (nm:ByteArray) (k:Int) (a b:ByteArray) (n wi:Int) (t e:ByteArray):Bool :=
 nameB nm&&endN nm==0&&inB wi 1 1000&&argsB k a b n wi&&nameB t&&nameB e
end Go.Proofs.YtebfdccbmmpceaaGreatDoor
namespace Go.Proofs.YtebfdccbmmpceaaGreatDoor
open Go.RowKit
theorem D7 {a b:Bool} (h:a=b):Ending.returned (.bool a)=.returned (.bool b):=by rw[h]
theorem O3 {k:IntKind} {a b:Int} (h:a=b):Ending.returned (.int k a)=.returned (.int k b):=by rw[h]
theorem AaU (w:World) (s:ByteArray) (p:Nat):Below w.heap.size w (w.iter s p):=(A4 _ _).alloc (A3 _) _
theorem E6 {W w1:World} (hb:Below W.heap.size W w1):(∀b o,b<W.heap.size->w1.cell? ⟨b,o,none⟩=W.cell? ⟨b,o,none⟩)/\(∀b o,b<W.heap.size->w1.frozen? ⟨b,o,none⟩=W.frozen? ⟨b,o,none⟩) :=
 ⟨λb o h=>hb.cell (p:=⟨b,o,none⟩) h,λb o h=>hb.frozen (p:=⟨b,o,none⟩) h⟩
theorem D6 {a b c:World} (h:Below a.heap.size a b) (k:Below b.heap.size b c):Below a.heap.size a c:=h.trans (k.mono h.size)
theorem E3 {a b c:World} {r:Option Nat} (h:a.grownBy b r) (k:b.grownBy c r):a.grownBy c r :=
 ⟨k.os.trans h.os,k.tape.trans h.tape,k.output.trans h.output,B1 h.size k.size,λi hi hr=>(k.block i (A1 hi h.size) hr).trans (h.block i hi hr)⟩
theorem E4 (a:World) (r:Option Nat):a.grownBy a r:=⟨rfl,rfl,rfl,A3 _,λ_ _ _=>rfl⟩
theorem U9 {a b:World} {r:Option Nat} (h:a.grownBy b r):a.grownBy b.drew r:=⟨h.os,h.tape,h.output,h.size,h.block⟩
theorem L3 {a b:World} {r:Option Nat} (h:Below a.heap.size a b):a.grownBy b r:=⟨h.os,h.tape,h.output,h.size,λi hi _=>h.block i hi⟩
theorem E0 {a b:World} {rb off:Nat} (h:a.grownBy b (some rb)) (u:Value):a.grownBy (b.setCell ⟨rb,off,none⟩ u) (some rb) :=
 E3 h ⟨rfl,rfl,rfl,by simp,λi _ hr=>Below.heap_setCell _ _ _ _ (λe=>hr (by rw[e]))⟩
def StrsAt (w:World) (g o:Nat) (ss:List ByteArray):Prop:=∀(i:Nat) (s:ByteArray),ss[i]?=some s->w.cell? ⟨g,o+i,none⟩=some (.string s)
theorem AcN (b:Nat):∀(vs:List Value) (o:Nat) (W w':World) (B:Nat),Below B W w'->B<=b->Below B W (w'.setCells b o vs)
 | [],_,_,_,_,h,_=>h
 | v::r,o,W,w',B,h,hB=>by
  rw[World.setCells];exact AcN b r (o+1) W _ B (h.setCell (p:=⟨b,o,none⟩) hB v) hB
theorem World.size_setCells' {b:Nat}:∀{vs:List Value} {o:Nat} {w:World},(w.setCells b o vs).heap.size=w.heap.size
 | [],_,_=>rfl
 | v::r,o,w=>by rw[World.setCells,World.size_setCells'];simp
theorem World.grownBy.refl' (w:World) {r:Option Nat}:w.grownBy w r:=⟨rfl,rfl,rfl,A3 _,λ_ _ _=>rfl⟩
theorem AcO (b:Nat):∀(vs:List Value) (o:Nat) (W w':World) (r:Option Nat),W.grownBy w' r->r=some b->W.grownBy (w'.setCells b o vs) r
 | [],_,_,_,_,h,_=>h
 | v::s,o,W,w',r,h,hr=>by
  rw[World.setCells];refine AcO b s (o+1) W _ r ⟨h.os,h.tape,h.output,B1 h.size (by simp),λi hi hne=>?_⟩ hr;rw[Below.heap_setCell _ _ _ _ (λe=>hne (by rw[hr,e]))];exact h.block i hi hne
def CB (w:World) (b:Nat) (cs:List Value):Prop:=w.rangeAt b 0 cs/\w.there b 0 cs.length/\b<w.heap.size
theorem CB.kept {w w':World} {b:Nat} {cs:List Value} {r:Option Nat} (h:CB w b cs) (hg:w.grownBy w' r) (hne:some b≠r):CB w' b cs:=by
 have hb:=hg.block b h.2.2 hne;refine⟨λj v hv=>?_,λj hj=>?_,A1 h.2.2 hg.size⟩
 ·rw[C3 (w:=w) (a:=⟨b,0+j,none⟩) hb];exact h.1 j v hv
 ·rw[C3 (w:=w) (a:=⟨b,0+j,none⟩) hb,World.frozen?_of_block (w:=w) (a:=⟨b,0+j,none⟩) hb];exact h.2.1 j hj
theorem CB.up {w w':World} {b B:Nat} {cs:List Value} (h:CB w b cs) (hb:Below B w w') (hB:b<B):CB w' b cs:=by
 have hk:=hb.block b hB;refine⟨λj v hv=>?_,λj hj=>?_,A1 h.2.2 hb.size⟩
 ·rw[C3 (w:=w) (a:=⟨b,0+j,none⟩) hk];exact h.1 j v hv
 ·rw[C3 (w:=w) (a:=⟨b,0+j,none⟩) hk,World.frozen?_of_block (w:=w) (a:=⟨b,0+j,none⟩) hk];exact h.2.1 j hj
theorem E7 (w:World) (cs:List Value) (t:TypeId):CB (w.alloc (.cells cs.toArray t)) w.heap.size cs:=by
 have hr:(w.alloc (.cells cs.toArray t)).rangeAt w.heap.size 0 cs:=by
  intro j v hv;rw[Nat.zero_add,World.cell?_alloc_at]
  ·simpa using hv
  ·rfl
 refine⟨hr,λj hj=>⟨hr.isSome j hj,?_⟩,by simp⟩;simp[go_sem]
theorem Aga {w:World} {b:Nat} {cs:List Value} {j:Nat} {u:Value} (h:w.rangeAt b 0 cs) (hj:j<cs.length):(w.setCell ⟨b,j,none⟩ u).rangeAt b 0 (cs.set j u):=by
 intro i x hx;rw[List.getElem?_set] at hx;by_cases e:j=i
 ·subst e
  rw[if_pos rfl,if_pos hj] at hx;obtain rfl:=A5 hx;have hc:=h j cs[j] (by simp);rw[Nat.zero_add] at hc ⊢
  exact World.cell?_setCell_same _ _ _ hc
 ·rw[if_neg e] at hx
  rw[C0 _ _ _ _ (by simp<;>omega)];exact h i x hx
theorem CB.set {w:World} {b j:Nat} {cs:List Value} {u:Value} (h:CB w b cs) (hj:j<cs.length):CB (w.setCell ⟨b,j,none⟩ u) b (cs.set j u):=by
 refine⟨Aga h.1 hj,λi hi=>?_,by simpa using h.2.2⟩;have:=World.there_setCells h.2.1 b j [u] i (by simpa using hi);simpa [World.setCells] using this
theorem CB.other {w:World} {b q j:Nat} {cs:List Value} {u:Value} (h:CB w b cs) (hne:b≠q):CB (w.setCell ⟨q,j,none⟩ u) b cs :=
 h.kept (r:=some q) ⟨rfl,rfl,rfl,by simp,λi _ hr=>Below.heap_setCell _ _ _ _ (λe=>hr (by rw[e]))⟩ (by simpa using hne)
theorem CB.c2 {w:World} {b:Nat} {x0 x1:Value} (h:CB w b [x0,x1]):(w.cell? ⟨b,0,none⟩=some x0/\w.cell? ⟨b,1,none⟩=some x1)/\w.frozen? ⟨b,0,none⟩=false/\w.frozen? ⟨b,1,none⟩=false :=
 ⟨⟨h.1 0 _ rfl,h.1 1 _ rfl⟩,(h.2.1 0 (by simp)).2,(h.2.1 1 (by simp)).2⟩
theorem CB.c3 {w:World} {b:Nat} {x0 x1 x2:Value} (h:CB w b [x0,x1,x2]):(w.cell? ⟨b,0,none⟩=some x0/\w.cell? ⟨b,1,none⟩=some x1/\w.cell? ⟨b,2,none⟩=some x2)/\w.frozen? ⟨b,0,none⟩=false/\w.frozen? ⟨b,1,none⟩=false/\w.frozen? ⟨b,2,none⟩=false :=
 ⟨⟨h.1 0 _ rfl,h.1 1 _ rfl,h.1 2 _ rfl⟩,(h.2.1 0 (by simp)).2,(h.2.1 1 (by simp)).2,(h.2.1 2 (by simp)).2⟩
theorem CB.c8 {w:World} {b:Nat} {x0 x1 x2 x3 x4 x5 x6 x7:Value} (h:CB w b [x0,x1,x2,x3,x4,x5,x6,x7]) :
  (w.cell? ⟨b,0,none⟩=some x0/\w.cell? ⟨b,1,none⟩=some x1/\w.cell? ⟨b,2,none⟩=some x2/\w.cell? ⟨b,3,none⟩=some x3/\w.cell? ⟨b,4,none⟩=some x4/\w.cell? ⟨b,5,none⟩=some x5/\w.cell? ⟨b,6,none⟩=some x6/\w.cell? ⟨b,7,none⟩=some x7)/\
  w.frozen? ⟨b,0,none⟩=false/\w.frozen? ⟨b,1,none⟩=false/\w.frozen? ⟨b,2,none⟩=false/\w.frozen? ⟨b,3,none⟩=false/\w.frozen? ⟨b,4,none⟩=false/\w.frozen? ⟨b,5,none⟩=false/\w.frozen? ⟨b,6,none⟩=false/\w.frozen? ⟨b,7,none⟩=false :=
 ⟨⟨h.1 0 _ rfl,h.1 1 _ rfl,h.1 2 _ rfl,h.1 3 _ rfl,h.1 4 _ rfl,h.1 5 _ rfl,h.1 6 _ rfl,h.1 7 _ rfl⟩,(h.2.1 0 (by simp)).2,(h.2.1 1 (by simp)).2,(h.2.1 2 (by simp)).2,(h.2.1 3 (by simp)).2,(h.2.1 4 (by simp)).2,(h.2.1 5 (by simp)).2,(h.2.1 6 (by simp)).2,(h.2.1 7 (by simp)).2⟩
theorem CB.copy {w:World} {b:Nat} {ys:List Value} (h:CB w b ys) (xs:List Value) (hl:xs.length=ys.length):CB (w.setCells b 0 xs) b xs :=
 ⟨World.rangeAt_setCells_same _ _ _ _ (by rw[hl];exact h.2.1),World.there_setCells (by rw[hl];exact h.2.1) _ _ _,by rw[World.size_setCells'];exact h.2.2⟩
theorem AbY {B:Nat} {a w:World} {b:Nat} (h:Below B a w) (hb:B<=b) (xs:List Value):Below B a (w.setCells b 0 xs):=AcN b xs 0 a w B h hb
theorem CB.copy2 {w:World} {b:Nat} {y0 y1:Value} (h:CB w b [y0,y1]) (x0 x1:Value):CB ((w.setCell ⟨b,0,none⟩ x0).setCell ⟨b,1,none⟩ x1) b [x0,x1]:=h.copy [x0,x1] rfl
theorem CB.copy3 {w:World} {b:Nat} {y0 y1 y2:Value} (h:CB w b [y0,y1,y2]) (x0 x1 x2:Value):CB (((w.setCell ⟨b,0,none⟩ x0).setCell ⟨b,1,none⟩ x1).setCell ⟨b,2,none⟩ x2) b [x0,x1,x2]:=h.copy [x0,x1,x2] rfl
theorem CB.copy8 {w:World} {b:Nat} {y0 y1 y2 y3 y4 y5 y6 y7:Value} (h:CB w b [y0,y1,y2,y3,y4,y5,y6,y7]) (x0 x1 x2 x3 x4 x5 x6 x7:Value) :
  CB ((((((((w.setCell ⟨b,0,none⟩ x0).setCell ⟨b,1,none⟩ x1).setCell ⟨b,2,none⟩ x2).setCell ⟨b,3,none⟩ x3).setCell ⟨b,4,none⟩ x4).setCell ⟨b,5,none⟩ x5).setCell ⟨b,6,none⟩ x6).setCell ⟨b,7,none⟩ x7) b [x0,x1,x2,x3,x4,x5,x6,x7]:=h.copy [x0,x1,x2,x3,x4,x5,x6,x7] rfl
theorem F9 {B:Nat} {a w:World} {b:Nat} (h:Below B a w) (hb:B<=b) (x0 x1:Value):Below B a ((w.setCell ⟨b,0,none⟩ x0).setCell ⟨b,1,none⟩ x1):=AbY h hb [x0,x1]
theorem Aeq {B:Nat} {a w:World} {b:Nat} (h:Below B a w) (hb:B<=b) (x0 x1 x2:Value):Below B a (((w.setCell ⟨b,0,none⟩ x0).setCell ⟨b,1,none⟩ x1).setCell ⟨b,2,none⟩ x2):=AbY h hb [x0,x1,x2]
theorem AaH {B:Nat} {a w:World} {b:Nat} (h:Below B a w) (hb:B<=b) (x0 x1 x2 x3 x4 x5 x6 x7:Value) :
  Below B a ((((((((w.setCell ⟨b,0,none⟩ x0).setCell ⟨b,1,none⟩ x1).setCell ⟨b,2,none⟩ x2).setCell ⟨b,3,none⟩ x3).setCell ⟨b,4,none⟩ x4).setCell ⟨b,5,none⟩ x5).setCell ⟨b,6,none⟩ x6).setCell ⟨b,7,none⟩ x7):=AbY h hb [x0,x1,x2,x3,x4,x5,x6,x7]
theorem Aer {P:Program} {fn:Func} {q:Tmp} {T:TypeId} (h:fn.results=#[.cell q T]) {d:TypeDesc} (hu:P.underlying T=some d) (hd:d.isRow=true) {tmps:Array Value} {Z:World} {rk:Nat} {cs:List Value} (hi:(P.info? T).map (·.size)=some cs.length)
  (ht:tmps.getD q undef=.pointer (some ⟨rk,0,none⟩)) (hZ:CB Z rk cs):(results fn tmps).run P Z=.ok (.agg cs.toArray) Z:=by
 have hl:=run_loadVar_mid (P:=P) Z rk 0 T cs d hZ.1 hu hd hi;have ha:(asAddr (.pointer (some ⟨rk,0,none⟩))).run P Z=.ok ⟨rk,0,none⟩ Z:=by simp[go_sem]
 have ht':tmps[q]?.getD undef=.pointer (some ⟨rk,0,none⟩):=by simpa using ht
 simp only[results,h];simp[Sem.run_bind,Result.andThen,ht',ha,hl]
theorem Ads {P:Program} {fn:Func} {q q2:Tmp} {T:TypeId} (h:fn.results=#[.cell q T,.tmp q2]) {d:TypeDesc} (hu:P.underlying T=some d) (hd:d.isRow=true) {tmps:Array Value} {Z:World} {rk:Nat} {cs:List Value} (hi:(P.info? T).map (·.size)=some cs.length)
  {v:Value} (ht:tmps.getD q undef=.pointer (some ⟨rk,0,none⟩)) (hv:tmps.getD q2 undef=v) (hZ:CB Z rk cs):(results fn tmps).run P Z=.ok (.tuple #[.agg cs.toArray,v]) Z:=by
 have hl:=run_loadVar_mid (P:=P) Z rk 0 T cs d hZ.1 hu hd hi;have ha:(asAddr (.pointer (some ⟨rk,0,none⟩))).run P Z=.ok ⟨rk,0,none⟩ Z:=by simp[go_sem]
 have ht':tmps[q]?.getD undef=.pointer (some ⟨rk,0,none⟩):=by simpa using ht
 have hv':tmps[q2]?.getD undef=v:=by simpa using hv
 simp only[results,h];simp[Sem.run_bind,Result.andThen,ht',hv',ha,hl]
theorem cb1 (w:World) (x:List Value) (t:TypeId):CB (w.alloc (.cells x.toArray t)) w.heap.size x/\Below w.heap.size w (w.alloc (.cells x.toArray t))/\(w.alloc (.cells x.toArray t)).heap.size=w.heap.size+1 :=
 ⟨E7 w x t,(A4 _ _).alloc (A3 _) _,by simp⟩
theorem cb2 (w:World) (x y:List Value) (t u:TypeId):CB ((w.alloc (.cells x.toArray t)).alloc (.cells y.toArray u)) w.heap.size x/\CB ((w.alloc (.cells x.toArray t)).alloc (.cells y.toArray u)) (w.heap.size+1) y/\
  Below w.heap.size w ((w.alloc (.cells x.toArray t)).alloc (.cells y.toArray u))/\((w.alloc (.cells x.toArray t)).alloc (.cells y.toArray u)).heap.size=w.heap.size+2:=by
 obtain⟨h1,hb,hs⟩:=cb1 w x t;obtain⟨h2,hb2,hs2⟩:=cb1 (w.alloc (.cells x.toArray t)) y u;refine⟨h1.up hb2 (by rw[hs];omega),by rw[hs] at h2;exact h2,hb.trans (hb2.mono (by rw[hs];omega)),by rw[hs2,hs]⟩
theorem cb3 (w:World) (x y z:List Value) (t u v:TypeId):CB (((w.alloc (.cells x.toArray t)).alloc (.cells y.toArray u)).alloc (.cells z.toArray v)) w.heap.size x/\CB (((w.alloc (.cells x.toArray t)).alloc (.cells y.toArray u)).alloc (.cells z.toArray v)) (w.heap.size+1) y/\
  CB (((w.alloc (.cells x.toArray t)).alloc (.cells y.toArray u)).alloc (.cells z.toArray v)) (w.heap.size+2) z/\
  Below w.heap.size w (((w.alloc (.cells x.toArray t)).alloc (.cells y.toArray u)).alloc (.cells z.toArray v))/\(((w.alloc (.cells x.toArray t)).alloc (.cells y.toArray u)).alloc (.cells z.toArray v)).heap.size=w.heap.size+3:=by
 obtain⟨h1,h2,hb,hs⟩:=cb2 w x y t u;obtain⟨h3,hb3,hs3⟩:=cb1 ((w.alloc (.cells x.toArray t)).alloc (.cells y.toArray u)) z v;refine⟨h1.up hb3 (by rw[hs];omega),h2.up hb3 (by rw[hs];omega),by rw[hs] at h3;exact h3,hb.trans (hb3.mono (by rw[hs];omega)),by rw[hs3,hs]⟩
theorem K9 (w:World) (x:List Value) (t:TypeId):∃W,w.alloc (.cells x.toArray t)=W/\CB W w.heap.size x/\Below w.heap.size w W/\W.heap.size=w.heap.size+1:=⟨_,rfl,cb1 w x t⟩
theorem L1 (w:World) (x:List Value) (t:TypeId) (y:List Value) (u:TypeId):∃W,(w.alloc (.cells x.toArray t)).alloc (.cells y.toArray u)=W/\CB W w.heap.size x/\CB W (w.heap.size+1) y/\Below w.heap.size w W/\W.heap.size=w.heap.size+2:=⟨_,rfl,cb2 w x y t u⟩
theorem AeP (w:World) (x:List Value) (t:TypeId) (y:List Value) (u:TypeId) (z:List Value) (v:TypeId):∃W,((w.alloc (.cells x.toArray t)).alloc (.cells y.toArray u)).alloc (.cells z.toArray v)=W/\CB W w.heap.size x/\CB W (w.heap.size+1) y/\CB W (w.heap.size+2) z/\Below w.heap.size w W/\W.heap.size=w.heap.size+3:=⟨_,rfl,cb3 w x y z t u v⟩
theorem An4 {w:World} {base e size n:Nat} {v:Value} {xs:List Value} (h:w.ownsRow base e size v n xs) (hn:0<n):∃g cap,v=.slice (some ⟨g,0,none⟩) n cap:=by
 rcases h.2 with⟨_,h0⟩|⟨g,cap,_,hv,_⟩
 ·omega
 ·exact⟨g,cap,hv⟩
theorem E1 {W w':World} {base e size n:Nat} {v:Value} {xs:List Value} (h:W.ownsRow base e size v n xs) (hb:Below W.heap.size W w'):w'.ownsRow base e size v n xs:=by
 refine⟨h.1,?_⟩;rcases h.2 with h0|⟨g,cap,cur,hv,hg,hh,r⟩
 ·exact .inl h0
 ·refine .inr ⟨g,cap,cur,hv,hg,?_,r⟩
  rw[hb.block g (D4.1 hh).1];exact hh
theorem new2 (w:World) (a b:Value) (ty:TypeId) {j:Nat} {u:Value} (h:[a,b][j]?=some u):(w.alloc (.cells #[a,b] ty)).cell? ((⟨w.heap.size,0,none⟩:Addr).add j)=some u:=by
 match j,h with
 | 0,h=>simp at h;subst h;simp[Addr.add]
 | 1,h=>simp at h;subst h;simp[Addr.add]
theorem one2 {s:ByteArray} {x u:Value} (hx:x.oneCell'=true) (h:u∈[Value.string s,x]):u.oneCell'=true:=by
 simp at h;rcases h with rfl|rfl
 ·rfl
 ·exact hx
theorem S8 {a b:World} {r:Option Nat} {pb off:Nat} (h:a.grownBy b r) (hp:a.heap.size<=pb) (u:Value):a.grownBy (b.setCell ⟨pb,off,none⟩ u) r :=
 ⟨h.os,h.tape,h.output,by simpa using h.size,λi hi hr=>(Below.heap_setCell _ _ _ _ (by simp;omega)).trans (h.block i hi hr)⟩
theorem M1:(Tryz.prog.info? 9).map (λi=>(i.zero,i.size,i.bytes))=some (some (.string ⟨#[]⟩),1,16):=by kernel_rfl
theorem StrsAt.alloc {w:World} {g o:Nat} {ss:List ByteArray} (h:StrsAt w g o ss) (ob:Obj):StrsAt (w.alloc ob) g o ss:=λi s hs=>by
 have:=h i s hs;rw[World.cell?_alloc_lt _ _ _ (World.block_lt_of_cell? w _ this)];exact this
theorem K0 {w:World} {g o:Nat} {ss:List ByteArray} (h:StrsAt w g o ss):∀(j:Nat) (u:Value),(ss.map Value.string)[j]?=some u->w.cell? ((⟨g,o,none⟩:Addr).add j)=some u:=λj u hu=>by
 rw[B0,B5] at hu;obtain⟨s,hs,rfl⟩:=hu;rw[Addr.add_mid];exact h j s hs
theorem Aaa (ss:List ByteArray):∀u∈ss.map Value.string,u.oneCell'=true:=λu hu=>by
 obtain⟨s,_,rfl⟩:=List.mem_map.1 hu;rfl
theorem F4 {w:World} {base e size n:Nat} {v:Value} {xs:List Value} (h:w.ownsRow base e size v n xs) (hn:0<n):∃g cap,v=.slice (some ⟨g,0,none⟩) n cap:=by
 rcases h.2 with⟨_,h0⟩|⟨g,cap,_,hv,_⟩
 ·omega
 ·exact⟨g,cap,hv⟩
theorem Ahw {w:World} {base e g n cap:Nat} {ss:List ByteArray} (h:w.ownsRow base e 1 (.slice (some ⟨g,0,none⟩) n cap) n (ss.map Value.string)) (hn:ss.length=n):StrsAt w g 0 ss:=λi s hs=>by
 have hi:i<ss.length:=(A2.1 hs).1;rw[Nat.zero_add,h.cellAt i (by omega),B0,hs];rfl
theorem F6 {P:Program} {ops:Array Oper} {o:Oper} {a:Act} {w:World} {K:Act->World->Prop} {Q:Exit->Act->World->Prop} {E:Prop}
  (hg:o.guard=none) (s x:Operand) (t:TypeId) (hop:o.op=Op.call {callee:=Callee.builtin Builtin.append,args:=#[s,x],argTypes:=#[t,t]})
  (base:Nat) (e:TypeId) (i:TypeInfo) (z:Value) (size bytes:Nat) (ht:P.underlying t=some (.slice e)) (hi:P.info? e=some i) (hz:i.zero=some z)
  (hsize:i.size=size) (hby:i.bytes=bytes) (hzs:z.cells.size=size) (hsz:0<size)
  (v:Value) (n:Nat) (xs:List Value) (hs:a.eval s=v) (hown:w.ownsRow base e size v n xs)
  (ad:Addr) (m c:Nat) (news:List Value) (hx:a.eval x=.slice (some ad) m c) (hl:news.length=m*size) (hnews:∀j u,news[j]?=some u->w.cell? (ad.add j)=some u) (h1:∀u∈news,u.oneCell'=true)
  (h63:n+m<=maxLen) (hbytes:(n+m)*bytes<=140737488355328) (hbase:base<=w.heap.size)
  (hK:∀v' w',w'.ownsRow base e size v' (n+m) (xs++news)->w.grownBy w' v.ownBlock->K (a.put o.dst v') w') :
  if Region.wanted o (yielded ops a.tmps)=true then Oper.wp P o a w K Q else E:=by
 have hw:Region.wanted o (yielded ops a.tmps)=true:=by simp[Region.wanted,hg]
 rw[if_pos hw];obtain⟨v',w',hr,h2,h3,_⟩:=run_append_own (P:=P) w base t o.type e i z size bytes ht hi hz hsize hby hzs hsz v n xs hown ad m c news hl hnews h1 h63 hbytes hbase;unfold Oper.wp;simp[execOp,hop,resolve,invoke,builtin,hs,hx,hr,Result.andThen];exact hK v' w' h2 h3
theorem E9 {w w':World} {base e size n rb:Nat} {v:Value} {xs:List Value} (h:w.ownsRow base e size v n xs) (hg:w.grownBy w' (some rb)) (hrb:rb<base):w'.ownsRow base e size v n xs:=by
 refine⟨h.1,?_⟩;rcases h.2 with h0|⟨g,cap,cur,hv,hb,hh,r⟩
 ·exact .inl h0
 ·refine .inr ⟨g,cap,cur,hv,hb,?_,r⟩
  rw[hg.block g (D4.1 hh).1 (by simp;omega)];exact hh
theorem G4 {w:World} {base base' e size n:Nat} {v:Value} {xs:List Value} (h:w.ownsRow base e size v n xs) (hb:base'<=base):w.ownsRow base' e size v n xs:=by
 refine⟨h.1,?_⟩;rcases h.2 with h0|⟨g,cap,cur,hv,hg,r⟩
 ·exact .inl h0
 ·exact .inr ⟨g,cap,cur,hv,B1 hb hg,r⟩
theorem X8 {w:World} {base e size n b:Nat} {v:Value} {xs:List Value} (h:w.ownsRow base e size v n xs) (hb:b<base):some b≠v.ownBlock:=λe=>by
 have:=(h.lt b e.symm).1;omega
theorem grown_own {a b c:World} {r:Option Nat} {base e size n:Nat} {v:Value} {xs:List Value} (h:a.grownBy b r) (hown:b.ownsRow base e size v n xs) (hg:b.grownBy c v.ownBlock) (hk:a.heap.size<=base):a.grownBy c r :=
 ⟨hg.os.trans h.os,hg.tape.trans h.tape,hg.output.trans h.output,B1 h.size hg.size,λi hi hr=>(hg.block i (A1 hi h.size) (X8 hown (by omega))).trans (h.block i hi hr)⟩
theorem StrsAt.own {w w':World} {g o base e size n:Nat} {u:Value} {xs:List Value} {ss:List ByteArray} (h:StrsAt w g o ss) (hown:w.ownsRow base e size u n xs) (hg:w.grownBy w' u.ownBlock) (hk:g<base):StrsAt w' g o ss :=
 λi s hs=>hg.cell (h i s hs) (X8 hown hk)
theorem Aar {w:World} {base e size n:Nat} {v:Value} {xs:List Value} (h:w.ownsRow base e size v n xs):w.drew.ownsRow base e size v n xs:=h
theorem StrsAt.drop {w:World} {g o:Nat} {ss:List ByteArray} (h:StrsAt w g o ss) (k:Nat):StrsAt w g (o+k) (ss.drop k):=λi s hs=>by
 rw[List.getElem?_drop] at hs;rw[Nat.add_assoc];exact h (k+i) s hs
theorem StrsAt.take {w:World} {g o:Nat} {ss:List ByteArray} (h:StrsAt w g o ss) (k:Nat):StrsAt w g o (ss.take k):=λi s hs=>by
 rw[List.getElem?_take] at hs;split at hs
 ·exact h i s hs
 ·cases hs
def Txt (w:World) (v:Value) (ss:List ByteArray):Prop:=∃g c,v=.slice (some ⟨g,0,none⟩) ss.length c/\StrsAt w g 0 ss/\g<w.heap.size/\ss.length<=c/\c<=maxLen
theorem Txt.up {w w':World} {v:Value} {ss:List ByteArray} (h:Txt w v ss) (hb:Below w.heap.size w w'):Txt w' v ss:=by
 obtain⟨g,c,rfl,hS,hg,r⟩:=h;exact⟨g,c,rfl,λi s hs=>(hb.cell (p:=⟨g,0+i,none⟩) hg).trans (hS i s hs),A1 hg hb.size,r⟩
theorem Txt.own {w:World} {base e n:Nat} {v:Value} {ss:List ByteArray} (h:w.ownsRow base e 1 v n (ss.map Value.string)) (hn:ss.length=n) (hv:∃g c,v=.slice (some ⟨g,0,none⟩) n c):Txt w v ss:=by
 obtain⟨g,c,rfl⟩:=hv;refine⟨g,c,by rw[hn],Ahw h hn,(h.lt g rfl).2,?_,?_⟩
 ·rcases h.2 with⟨h0,_⟩|⟨g',cap',cur,h',_,_,hc,_⟩
  ·cases h0
  ·cases h';omega
 ·rcases h.2 with⟨h0,_⟩|⟨g',cap',cur,h',_,_,_,hc,_⟩
  ·cases h0
  ·cases h';exact hc
theorem I3 {w W W':World} {base e size n:Nat} {v:Value} {xs:List Value} (h:Below w.heap.size w W) (hown:W.ownsRow base e size v n xs) (hg:W.grownBy W' v.ownBlock) (hk:w.heap.size<=base):Below w.heap.size w W' :=
 {os:=hg.os.trans h.os,tape:=hg.tape.trans h.tape,output:=hg.output.trans h.output,size:=B1 h.size hg.size,block:=λi hi=>(hg.block i (A1 hi h.size) (X8 hown (by omega))).trans (h.block i hi)}
theorem Q8 (w:World) (s:ByteArray) (t:TypeId):∀(j:Nat) (u:Value),[Value.string s][j]?=some u->(w.alloc (.cells #[.string s] t)).cell? ((⟨w.heap.size,0,none⟩:Addr).add j)=some u:=λj u hj=>by
 match j,hj with
 | 0,hj=>simp at hj;subst hj;simp[Addr.add]
theorem Adt {w:World} {b:Nat} {s:ByteArray} (h:w.cell? ⟨b,0,none⟩=some (.string s)):∀(j:Nat) (u:Value),[Value.string s][j]?=some u->w.cell? ((⟨b,0,none⟩:Addr).add j)=some u:=λj u hj=>by
 match j,hj with
 | 0,hj=>simp at hj;subst hj;rw[Addr.add_mid];exact h
theorem AaY (s:ByteArray):∀u∈[Value.string s],u.oneCell'=true:=λu hu=>by simp at hu;subst hu;rfl
def Lst (w:World) (v:Value) (ss:List ByteArray):Prop:=(v=.slice none 0 0/\ss=[])∨Txt w v ss
theorem Lst.up {w w':World} {v:Value} {ss:List ByteArray} (h:Lst w v ss) (hb:Below w.heap.size w w'):Lst w' v ss:=by
 rcases h with h|h
 ·exact .inl h
 ·exact .inr (h.up hb)
theorem Lst.shape {w:World} {v:Value} {ss:List ByteArray} (h:Lst w v ss):∃a c,v=.slice a ss.length c:=by
 rcases h with⟨rfl,rfl⟩|⟨g,c,rfl,_⟩
 ·exact⟨none,0,rfl⟩
 ·exact⟨_,_,rfl⟩
def OwnT (w:World) (base:Nat) (u:Value) (ss:List ByteArray):Prop:=w.ownsRow base 9 1 u ss.length (ss.map Value.string)
theorem OwnT.lst {w:World} {base:Nat} {u:Value} {ss:List ByteArray} (h:OwnT w base u ss):Lst w u ss:=by
 rcases h.2 with⟨h0,h1⟩|⟨g,cap,cur,hv,_⟩
 ·exact .inl ⟨h0,C5.1 h1⟩
 ·exact .inr (Txt.own h rfl ⟨g,cap,hv⟩)
theorem S9 {w a b:World} {x:Nat} (h:Below w.heap.size w a) (hg:a.grownBy b (some x)) (hx:w.heap.size<=x):Below w.heap.size w b :=
 {os:=hg.os.trans h.os,tape:=hg.tape.trans h.tape,output:=hg.output.trans h.output,size:=B1 h.size hg.size,block:=λi hi=>(hg.block i (A1 hi h.size) (by simp;omega)).trans (h.block i hi)}
theorem OwnT.up {w w':World} {base:Nat} {u:Value} {ss:List ByteArray} (h:OwnT w base u ss) (hb:Below w.heap.size w w'):OwnT w' base u ss:=E1 h hb
theorem M4 (b:Nat):∀(vs:List Value) (o:Nat) (W w':World) (B:Nat),Below B W w'->B<=b->Below B W (w'.setCells b o vs)
 | [],_,_,_,_,h,_=>h
 | v::r,o,W,w',B,h,hB=>by
  rw[World.setCells];exact M4 b r (o+1) W _ B (h.setCell (p:=⟨b,o,none⟩) hB v) hB
theorem Agb (w:World) (C:Array Value) (t:TypeId) (j:Nat) (hj:j<C.size):((w.alloc (.cells C t)).cell? ⟨w.heap.size,j,none⟩).isSome=true/\(w.alloc (.cells C t)).frozen? ⟨w.heap.size,j,none⟩=false:=by
 constructor
 ·simp[hj,go_sem]
 ·simp[go_sem]
theorem S2 (w:World) (C:Array Value) (t:TypeId):(w.alloc (.cells C t)).there w.heap.size 0 C.size:=λj hj=>by
 simpa using Agb w C t j hj
theorem I8 {w w':World} {b o n B:Nat} (h:w.there b o n) (hb:Below B w w') (hB:b<B):w'.there b o n:=λj hj=>by
 rw[hb.cell (p:=⟨b,o+j,none⟩) hB,hb.frozen (p:=⟨b,o+j,none⟩) hB];exact h j hj
theorem R9 (w1:World) (b o:Nat) (vs:List Value):w1.heap.size<=(w1.setCells b o vs).heap.size:=(M4 b vs o w1 w1 0 (A4 _ _) (Nat.zero_le _)).size
theorem Aab {W w0 w1:World} {b o:Nat} {x:Value} (hb:b<W.heap.size) (h:Below W.heap.size W w0/\w0.cell? ⟨b,o,none⟩=some x) (hB:Below w0.heap.size w0 w1):Below W.heap.size W w1/\w1.cell? ⟨b,o,none⟩=some x :=
 ⟨D6 h.1 hB,(hB.cell (p:=⟨b,o,none⟩) (A1 hb h.1.size)).trans h.2⟩
theorem E8 {a b:World} {B:Nat} (h:Below B a b) (n:Nat):Below B a (b.drewN n):={os:=h.os,tape:=h.tape,output:=h.output,size:=h.size,block:=h.block}
end Go.Proofs.YtebfdccbmmpceaaGreatDoor
namespace Go.Proofs.YtebfdccbmmpceaaGreatDoor
open Go.ChangeShapes Go.WideShapes Go.ChangeAt Go.RowKit
theorem own:ownKnob Tryz.prog.godebug=none:=by kernel_rfl
theorem Aiz:laidOutB Tryz.prog=true:=by kernel_rfl
theorem O9:Tryz.prog.cellsOf 9=1:=by kernel_rfl
theorem AbZ:Tryz.prog.cellsOf 3=1:=by kernel_rfl
theorem J9 {H:Type} {enc:TypeId×Value->H} {w:World} {base:Nat} {sp:Nat->Bool} {held:Bool} {fuel:Nat} {c:Value} {y:DataW H×List MemPlace}
  (h:DataW.trod enc Tryz.prog w base sp held fuel 9 [c]=some y):∃s:ByteArray,c=.string s/\y=(.lit (.string s.data.toList),[])/\s.size<=maxLen:=by
 obtain⟨s,hc,hy,hs⟩:=DataW.trod_string Tryz.underlying9 h;simp only[List.cons.injEq,and_true] at hc;exact⟨s,hc,hy,hs⟩
theorem M8 {H:Type} {enc:TypeId×Value->H} {w:World} {base:Nat} {sp:Nat->Bool} {held:Bool} {fuel:Nat} {c:Value} {y:DataW H×List MemPlace}
  (h:DataW.trod enc Tryz.prog w base sp held fuel 3 [c]=some y):∃n:Int,c=.int .i64 n/\y=(.lit (.int .i64 n),[])/\(Lit.int .i64 n).wf=true:=by
 obtain⟨s,hc,hy,hs⟩:=DataW.trod_int Tryz.underlying3 h;simp only[List.cons.injEq,and_true] at hc;exact⟨s,hc,hy,hs⟩
theorem Aca {s:ByteArray} {l:List UInt8} (h:s.data.toList=l):s=⟨l.toArray⟩:=by cases s;simp_all [← h]
theorem An5 {H:Type} {enc:TypeId×Value->H} {W:World} {sp:Nat->Bool} {n:String} {gs:List (DataW H)} {q:List MemPlace} (h:DataW.TrodVars enc Tryz.prog W sp [n] gs q):∃g,gs=[g]:=by
 match gs,h with
 | [],h=>exact h.elim
 | [g],_=>exact⟨g,rfl⟩
 | _::_::_,⟨_,_,_,_,_,_,_,_,_,_,h,_⟩=>exact h.elim
theorem AaV {α:Type} (n:Nat) (Q:Nat->α->Prop) (h:∀i,i<n->∃p,Q i p):∃ps:List α,ps.length=n/\∀(i:Nat) (p:α),ps[i]?=some p->Q i p:=by
 induction n with
 | zero=>exact⟨[],rfl,λi p hp=>by simp at hp⟩
 | succ n ih =>
  obtain⟨ps,hl,hq⟩:=ih λi hi=>h i (by omega);obtain⟨p,hp⟩:=h n (by omega);refine⟨ps++[p],by simp[hl],λi q hq'=>?_⟩;rw[List.getElem?_append] at hq';split at hq'
  ·exact hq i q hq'
  ·rename_i hi
   have:i=n:=by
    rcases Nat.lt_or_ge (i-ps.length) 1 with h1|h1
    ·omega
    ·rw[C7 (by simpa using h1)] at hq';cases hq'
   subst this;rw[hl,Nat.sub_self] at hq';obtain rfl:p=q:=by simpa using hq'
   exact hp
theorem M5 {w:World} {base b o n:Nat} {cs:List Value} (h:w.cells? base ⟨b,o,none⟩ n=some cs):w.rangeAt b o cs:=by
 unfold World.cells? at h;split at h
 ·intro j v hv
  have hl:cs.length=n:=by simpa using Lib.mapM_length h
  have hj:j<n:=by rw[← hl];exact (A2.1 hv).1
  obtain⟨x,hx,hc⟩:=Lib.mapM_at h j j (by simp[hj]);rw[hv] at hx;obtain rfl:=A5 hx;rwa [Addr.add_mid] at hc
 ·cases h
theorem AfW {α:Type} {l:List α} (h:l.length=3):∃c0 c1 c2,l=[c0,c1,c2]:=by
 match l,h with
 | [c0,c1,c2],_=>exact⟨c0,c1,c2,rfl⟩
theorem AfX {α:Type} {l:List α} (h:l.length=2):∃c0 c1,l=[c0,c1]:=by
 match l,h with
 | [c0,c1],_=>exact⟨c0,c1,rfl⟩
theorem list8 {α:Type} {l:List α} (h:l.length=8):∃c0 c1 c2 c3 c4 c5 c6 c7,l=[c0,c1,c2,c3,c4,c5,c6,c7]:=by
 match l,h with
 | [c0,c1,c2,c3,c4,c5,c6,c7],_=>exact⟨c0,c1,c2,c3,c4,c5,c6,c7,rfl⟩
end Go.Proofs.YtebfdccbmmpceaaGreatDoor
namespace Go.Proofs.YtebfdccbmmpceaaGreatDoor
open Go.RowKit
theorem Aas (n:Nat) (w:World) :
  Calls Tryz.prog 176 #[.int .i32 n] w λe w'=>e=.returned (.bool (nbB n))/\w'=w:=by
 go_enter Tryz.func176,Tryz.ntmps176
 go_wp2
 all_goals
  go_ret
  exact⟨D7 (by rw[Bool.eq_iff_iff,AaS];simp;omega),rfl⟩
theorem I4 (n lo hi:Int) (w:World) :
  Calls Tryz.prog 36 #[.int .i64 n,.int .i64 lo,.int .i64 hi] w λe w'=>e=.returned (.bool (inB n lo hi))/\w'=w:=by
 by_cases h1:lo<=n<;>by_cases h2:n<=hi
 all_goals
  go_enter Tryz.func36,Tryz.ntmps36
  go_wp2
  go_ret
  exact⟨D7 (by simp[inB,h1,h2]),rfl⟩
theorem K7 (s:ByteArray) (w:World) (hs:s.size<=maxLen) :
  Calls Tryz.prog 209 #[.string s] w λe w'=>e=.returned (.bool (nameB s))/\Below w.heap.size w w':=by
 unfold maxLen at hs;by_cases h1:1<=s.size
 case neg =>
  go_enter Tryz.func209,Tryz.ntmps209
  go_wp2
  go_ret
  exact⟨D7 (by simp[nameB,h1]),A4 _ _⟩
 by_cases h2:s.size<=8
 case neg =>
  go_enter Tryz.func209,Tryz.ntmps209
  go_wp2
  go_ret
  exact⟨D7 (by simp[nameB,h2]),A4 _ _⟩
 have hn:Hid (nameB s=allB s.data.toList):=by show nameB s=_;simp[nameB,h1,h2]
 go_enter Tryz.func209,Tryz.ntmps209
 go_wp2_with fail
 go_loopw [4] (λ_ w'=>∃pos:Nat,w'=w.iter s pos/\pos<=s.size/\allB (s.data.toList.take pos)=true) (λ_ w'=>s.size-w'.iterPos w.heap.size)
 case atStart=>exact⟨0,rfl,by omega,rfl⟩
 case round =>
  obtain⟨pos,rfl,hle,hal⟩:=hrel;have Hal:Hid (allB (s.data.toList.take pos)=true):=hal;clear hal;by_cases hp:pos<s.size
  ·have hnx:∀ty,(Instr.next (.pointer (some ⟨w.heap.size,0,none⟩)) true ty).run Tryz.prog (w.iter s pos)=_:=λty=>run_next_any w s pos ty hp
   by_cases ha:(s[pos]'hp).toNat<128
   ·rw[decode_ascii s pos hp ha] at hnx
    by_cases hb:nbB (s[pos]'hp).toNat=true
    ·have Hb:Hid (nbB (s[pos]'hp).toNat=true):=hb
     go_wp2_with (go_at_call 176;refine (Aas _ _).mono ?_;rintro e w' ⟨rfl,rfl⟩)
     go_roundw
     case rel=>exact⟨pos+1,rfl,by omega,by rw[Abw s pos hp,Hal.out,Hb.out];rfl⟩
     case measure=>simp;omega
    ·have hb':nbB (s[pos]'hp).toNat=false:=by simpa using hb
     have Hb:Hid (nbB (s[pos]'hp).toNat=false):=hb';clear hb;go_wp2_with (go_at_call 176;refine (Aas _ _).mono ?_;rintro e w' ⟨rfl,rfl⟩)
     go_ret
     exact⟨D7 (by rw[hn.out,AaT s pos hp Hb.out]),AaU _ _ _⟩
   ·have hi:=decode_high s pos hp (by omega)
    have hb':nbB (Utf8.decode s pos).1=false:=AbW _ hi.1;have Hb:Hid (nbB (s[pos]'hp).toNat=false):=AbW _ (by omega);clear hi;go_wp2_with (go_at_call 176;refine (Aas _ _).mono ?_;rintro e w' ⟨rfl,rfl⟩)
    go_ret
    exact⟨D7 (by rw[hn.out,AaT s pos hp Hb.out]),AaU _ _ _⟩
  ·have hnx:∀ty,(Instr.next (.pointer (some ⟨w.heap.size,0,none⟩)) true ty).run Tryz.prog (w.iter s pos)=_:=λty=>run_next_end w s pos ty hp
   go_wp2
   go_ret
   exact⟨D7 (by rw[hn.out,AbX s pos hp Hal.out]),AaU _ _ _⟩
theorem I0 (s:ByteArray) (w:World) (hs:s.size<=maxLen) :
  Calls Tryz.prog 76 #[.string s] w λe w'=>e=.returned (.bool (nameB s))/\w'=w:=by
 unfold maxLen at hs;by_cases h1:1<=s.size/\s.size<=8
 case neg =>
  have h2:inB s.size 1 8=false:=(Aa5 _ _ _).2 (by omega);go_enter Tryz.func76,Tryz.ntmps76
  go_wp2_with (go_at_call 36;refine (I4 _ _ _ _).mono ?_;rintro e w' ⟨rfl,rfl⟩)
  go_ret
  exact⟨D7 (by simp only[nameB];simp;omega),rfl⟩
 have hn:Hid (nameB s=allB s.data.toList):=by show nameB s=_;simp[nameB,h1]
 have h2:inB s.size 1 8=true:=(P9 _ _ _).2 (by omega);go_enter Tryz.func76,Tryz.ntmps76
 go_wp2_with (go_at_call 36;refine (I4 _ _ _ _).mono ?_;rintro e w' ⟨rfl,rfl⟩)
 go_loop [3] (λi=>∃k:Nat,k<=s.size/\i=.int .i64 k/\allB (s.data.toList.take k)=true) (λi=>s.size-(intOf i).toNat)
 case atStart=>exact⟨0,by omega,rfl,rfl⟩
 case round =>
  obtain⟨k,hk,rfl,hal⟩:=hrel;have Hal:Hid (allB (s.data.toList.take k)=true):=hal;clear hal;by_cases hp:k<s.size
  ·have HS:Hid (nbB (s[k]'hp).toNat=true->allB (s.data.toList.take (k+1))=true):=by show _->_;intro hb;rw[Abw s k hp,Hal.out,hb];rfl
   have HN:Hid (nbB (s[k]'hp).toNat=false->allB s.data.toList=false):=AaT s k hp;go_wp2
   all_goals first
    | (go_ret;exact⟨D7 (by rw[hn.out];exact (HN.out (by rw[← Bool.not_eq_true,AaS];go_light;simp at *;omega)).symm),rfl⟩)
    | (go_round
       case rel=>exact⟨k+1,by omega,by go_num,HS.out (by rw[AaS];go_light;simp at *;omega)⟩
       case measure=>simp[intOf];omega)
  ·go_wp2
   go_ret
   exact⟨D7 (by rw[hn.out,AbX s k hp Hal.out]),rfl⟩
theorem K8 (s:ByteArray) (w:World) :
  Calls Tryz.prog 90 #[.string s] w λe w'=>e=.returned (.int .i64 (endN s))/\w'=w:=by
 go_enter Tryz.func90,Tryz.ntmps90
 go_wp2
 all_goals
  go_ret
  exact⟨O3 (by simp[endN, *]),rfl⟩
def Ends (w:World):Prop:=w.cell? ⟨1,0,none⟩=some (.string ⟨#[103,111,111,100]⟩)/\
  w.cell? ⟨1,1,none⟩=some (.string ⟨#[115,97,118,101,100]⟩)/\w.cell? ⟨1,2,none⟩=some (.string ⟨#[115,99,114,97,112,112,101,100]⟩)/\1<w.heap.size
theorem Ends.up {w w':World} (h:Ends w) (b:Below w.heap.size w w'):Ends w' :=
 ⟨(b.cell (p:=⟨1,0,none⟩) h.2.2.2).trans h.1,(b.cell (p:=⟨1,1,none⟩) h.2.2.2).trans h.2.1,(b.cell (p:=⟨1,2,none⟩) h.2.2.2).trans h.2.2.1,A1 h.2.2.2 b.size⟩
theorem L9 (s:ByteArray) (w:World) (hE:Ends w) :
  Calls Tryz.prog 107 #[.string s] w λe w'=>e=.returned (.int .i64 (endN s))/\w'=w:=by
 obtain⟨g0,g1,g2,_⟩:=hE;have i0:∀w,(Instr.index 209 (.agg #[.string ⟨#[103,111,111,100]⟩,.string ⟨#[115,97,118,101,100]⟩,.string ⟨#[115,99,114,97,112,112,101,100]⟩]) (.int .i64 0)).run Tryz.prog w=.ok (.string ⟨#[103,111,111,100]⟩) w:=λ_=>by kernel_rfl
 have i1:∀w,(Instr.index 209 (.agg #[.string ⟨#[103,111,111,100]⟩,.string ⟨#[115,97,118,101,100]⟩,.string ⟨#[115,99,114,97,112,112,101,100]⟩]) (.int .i64 1)).run Tryz.prog w=.ok (.string ⟨#[115,97,118,101,100]⟩) w:=λ_=>by kernel_rfl
 have i2:∀w,(Instr.index 209 (.agg #[.string ⟨#[103,111,111,100]⟩,.string ⟨#[115,97,118,101,100]⟩,.string ⟨#[115,99,114,97,112,112,101,100]⟩]) (.int .i64 2)).run Tryz.prog w=.ok (.string ⟨#[115,99,114,97,112,112,101,100]⟩) w:=λ_=>by kernel_rfl
 go_enter Tryz.func107,Tryz.ntmps107
 go_wp2
 go_rounds 4
 all_goals
  go_ret
  exact⟨O3 (by simp[endN, *]),rfl⟩
end Go.Proofs.YtebfdccbmmpceaaGreatDoor
