/- Plain facts on names, ends and phases: no program in it. -/
import Derived.Laws.RangeAny
import Derived.Below
import Derived.Test.YtgecdacgmehmbaaGreatDoorChecked
import Derived.WalkKit
import Derived.WalkSpells
import Derived.WalkLawsBesides
import Derived.Handy
import Derived.Outline
import Derived.Deep.Light
import Derived.Laws.Bits64
import Derived.BigQuiet
import Derived.Deep.QuietTactic
import Derived.Deep.DeepCutAuto
import Derived.Deep.RegionLaw
import Derived.Deep.RegionHeld
import Derived.Deep.RegionWith
import Derived.Laws.Strings
import Derived.Maps.Views
import Derived.Laws.OwnMore
import Derived.LaidEql
import Derived.Stop.Asserts
import Derived.RowKitTokens
import Derived.Deep.MidRow
set_option maxHeartbeats 2000000
namespace Go.Proofs.YtgecdacgmehmbaaGreatDoor
theorem A0:type_of% @List.getElem?_eq_getElem:=@List.getElem?_eq_getElem
theorem A1:type_of% @Nat.lt_of_lt_of_le:=@Nat.lt_of_lt_of_le
theorem A2:type_of% @List.getElem?_eq_some_iff:=@List.getElem?_eq_some_iff
theorem A3:type_of% @Nat.le_refl:=@Nat.le_refl
theorem A4:type_of% @Go.RowKit.Below.refl:=@Go.RowKit.Below.refl
theorem A5:type_of% @Option.some.inj:=@Option.some.inj
theorem A6:type_of% @List.mem_of_getElem?:=@List.mem_of_getElem?
theorem A7:type_of% @List.take_succ_eq_append_getElem:=@List.take_succ_eq_append_getElem
theorem A8:type_of% @List.length_drop:=@List.length_drop
theorem A9:type_of% @List.length_append:=@List.length_append
theorem B0:type_of% @List.getElem?_map:=@List.getElem?_map
theorem B1:type_of% @Nat.le_trans:=@Nat.le_trans
theorem B2:type_of% @World.ownsRow.stored:=@World.ownsRow.stored
theorem B3:type_of% @List.length_map:=@List.length_map
theorem B4:type_of% @Option.map_eq_some_iff:=@Option.map_eq_some_iff
theorem B5:type_of% @List.getElem_of_mem:=@List.getElem_of_mem
theorem B6:type_of% @List.length_take:=@List.length_take
theorem B7:type_of% @World.ownsRow_nil:=@World.ownsRow_nil
theorem B8:type_of% @World.ownsRow_lit:=@World.ownsRow_lit
theorem B9:type_of% @World.cell?_setCell_other:=@World.cell?_setCell_other
theorem C0:type_of% @World.cell?_of_block:=@World.cell?_of_block
theorem C3:type_of% @Nat.eq_zero_or_pos:=@Nat.eq_zero_or_pos
theorem C4:type_of% @List.length_eq_zero_iff:=@List.length_eq_zero_iff
theorem C5:type_of% @List.mem_iff_getElem?:=@List.mem_iff_getElem?
theorem C6:type_of% @List.getElem?_eq_none:=@List.getElem?_eq_none
theorem C7:type_of% @List.mem_cons_of_mem:=@List.mem_cons_of_mem
theorem C8:type_of% @List.getElem?_append_right:=@List.getElem?_append_right
theorem C9:type_of% @List.getElem?_set_self:=@List.getElem?_set_self
theorem D0:type_of% @List.mem_append:=@List.mem_append
theorem D1:type_of% @List.mem_singleton:=@List.mem_singleton
theorem D2:type_of% @List.take_of_length_le:=@List.take_of_length_le
theorem D3:type_of% @Array.getElem?_eq_some_iff:=@Array.getElem?_eq_some_iff
theorem D4:type_of% @List.drop_eq_getElem_cons:=@List.drop_eq_getElem_cons
def nbB (n:Nat):Bool:=(decide (97<=n)&&decide (n<=122)) || (decide (48<=n)&&decide (n<=57)) || n==45
def allB (l:List UInt8):Bool:=l.all λb=>nbB b.toNat
def nameB (s:ByteArray):Bool:=decide (1<=s.size)&&decide (s.size<=8)&&allB s.data.toList
theorem AaE (n:Nat):nbB n=true↔(97<=n/\n<=122)∨(48<=n/\n<=57)∨n=45:=by
 simp[nbB,or_assoc]
theorem Ab9 (n:Nat) (h:128<=n):nbB n=false:=by
 rw[← Bool.not_eq_true,AaE];omega
theorem AjO (s:ByteArray) (k:Nat) (h:k<s.size):s.data.toList.take (k+1)=s.data.toList.take k++[s[k]]:=by
 rw[A7 (by simpa using h)];rfl
theorem AjP (l:List UInt8) (b:UInt8):allB (l++[b])=(allB l&&nbB b.toNat):=by simp[allB]
theorem AaZ (s:ByteArray) (k:Nat) (h:k<s.size):allB (s.data.toList.take (k+1))=(allB (s.data.toList.take k)&&nbB (s[k]).toNat):=by
 rw[AjO s k h,AjP]
theorem AaF (s:ByteArray) (k:Nat) (h:k<s.size) (hb:nbB (s[k]).toNat=false):allB s.data.toList=false:=by
 rw[← Bool.not_eq_true];intro ha;simp only[allB,List.all_eq_true] at ha;have:=ha (s[k]) (by show s.data[k]∈s.data.toList;simp);rw[hb] at this;cases this
theorem AbA (s:ByteArray) (k:Nat) (h:¬k<s.size) (ha:allB (s.data.toList.take k)=true):allB s.data.toList=true:=by
 rw[D2 (by simp;omega)] at ha;exact ha
def inB (n lo hi:Int):Bool:=decide (lo<=n)&&decide (n<=hi)
theorem P9 (n lo hi:Int):inB n lo hi=true↔lo<=n/\n<=hi:=by simp[inB]
theorem Aax (n lo hi:Int):inB n lo hi=false↔¬(lo<=n/\n<=hi):=by rw[← P9];simp
def endN (s:ByteArray):Int :=
 if s.toList==[103,111,111,100] then 1 else if s.toList==[115,97,118,101,100] then 2 else if s.toList==[115,99,114,97,112,112,101,100] then 3 else 0
def argsB (k:Int) (a b:ByteArray) (n wi:Int):Bool :=
 if k=1 then nameB a&&nameB b&&inB n 1 1000
 else if k=2 then nameB a&&nameB b && !(a.toList==b.toList)&&inB n 1 1000
 else if k=3 then nameB a&&b.toList.isEmpty&&inB n 1 wi
 else if k=4∨k=5 then nameB a&&b.toList.isEmpty&&n==0
 else false
def phaseB (nm:ByteArray) (k:Int) (a b:ByteArray) (n wi:Int) (t e:ByteArray):Bool :=
 nameB nm&&endN nm==0&&inB wi 1 1000&&argsB k a b n wi&&nameB t&&nameB e
end Go.Proofs.YtgecdacgmehmbaaGreatDoor
namespace Go.Proofs.YtgecdacgmehmbaaGreatDoor
open Go.RowKit
theorem D6 {a b:Bool} (h:a=b):Ending.returned (.bool a)=.returned (.bool b):=by rw[h]
theorem O3 {k:IntKind} {a b:Int} (h:a=b):Ending.returned (.int k a)=.returned (.int k b):=by rw[h]
theorem AaG (w:World) (s:ByteArray) (p:Nat):Below w.heap.size w (w.iter s p):=(A4 _ _).alloc (A3 _) _
theorem E2 {W w1:World} (hb:Below W.heap.size W w1):(∀b o,b<W.heap.size->w1.cell? ⟨b,o,none⟩=W.cell? ⟨b,o,none⟩)/\(∀b o,b<W.heap.size->w1.frozen? ⟨b,o,none⟩=W.frozen? ⟨b,o,none⟩) :=
 ⟨λb o h=>hb.cell (p:=⟨b,o,none⟩) h,λb o h=>hb.frozen (p:=⟨b,o,none⟩) h⟩
theorem D5 {a b c:World} (h:Below a.heap.size a b) (k:Below b.heap.size b c):Below a.heap.size a c:=h.trans (k.mono h.size)
theorem E3 {a b c:World} {r:Option Nat} (h:a.grownBy b r) (k:b.grownBy c r):a.grownBy c r :=
 ⟨k.os.trans h.os,k.tape.trans h.tape,k.output.trans h.output,B1 h.size k.size,λi hi hr=>(k.block i (A1 hi h.size) hr).trans (h.block i hi hr)⟩
theorem E1 (a:World) (r:Option Nat):a.grownBy a r:=⟨rfl,rfl,rfl,A3 _,λ_ _ _=>rfl⟩
theorem Z1 {a b:World} {r:Option Nat} (h:a.grownBy b r):a.grownBy b.drew r:=⟨h.os,h.tape,h.output,h.size,h.block⟩
theorem K1 {a b:World} {r:Option Nat} (h:Below a.heap.size a b):a.grownBy b r:=⟨h.os,h.tape,h.output,h.size,λi hi _=>h.block i hi⟩
theorem D9 {a b:World} {rb off:Nat} (h:a.grownBy b (some rb)) (u:Value):a.grownBy (b.setCell ⟨rb,off,none⟩ u) (some rb) :=
 E3 h ⟨rfl,rfl,rfl,by simp,λi _ hr=>Below.heap_setCell _ _ _ _ (λe=>hr (by rw[e]))⟩
def StrsAt (w:World) (g o:Nat) (ss:List ByteArray):Prop:=∀(i:Nat) (s:ByteArray),ss[i]?=some s->w.cell? ⟨g,o+i,none⟩=some (.string s)
theorem Acv (b:Nat):∀(vs:List Value) (o:Nat) (W w':World) (B:Nat),Below B W w'->B<=b->Below B W (w'.setCells b o vs)
 | [],_,_,_,_,h,_=>h
 | v::r,o,W,w',B,h,hB=>by
  rw[World.setCells];exact Acv b r (o+1) W _ B (h.setCell (p:=⟨b,o,none⟩) hB v) hB
theorem World.size_setCells' {b:Nat}:∀{vs:List Value} {o:Nat} {w:World},(w.setCells b o vs).heap.size=w.heap.size
 | [],_,_=>rfl
 | v::r,o,w=>by rw[World.setCells,World.size_setCells'];simp
theorem World.grownBy.refl' (w:World) {r:Option Nat}:w.grownBy w r:=⟨rfl,rfl,rfl,A3 _,λ_ _ _=>rfl⟩
theorem Acw (b:Nat):∀(vs:List Value) (o:Nat) (W w':World) (r:Option Nat),W.grownBy w' r->r=some b->W.grownBy (w'.setCells b o vs) r
 | [],_,_,_,_,h,_=>h
 | v::s,o,W,w',r,h,hr=>by
  rw[World.setCells];refine Acw b s (o+1) W _ r ⟨h.os,h.tape,h.output,B1 h.size (by simp),λi hi hne=>?_⟩ hr;rw[Below.heap_setCell _ _ _ _ (λe=>hne (by rw[hr,e]))];exact h.block i hi hne
def CB (w:World) (b:Nat) (cs:List Value):Prop:=w.rangeAt b 0 cs/\w.there b 0 cs.length/\b<w.heap.size
theorem CB.kept {w w':World} {b:Nat} {cs:List Value} {r:Option Nat} (h:CB w b cs) (hg:w.grownBy w' r) (hne:some b≠r):CB w' b cs:=by
 have hb:=hg.block b h.2.2 hne;refine⟨λj v hv=>?_,λj hj=>?_,A1 h.2.2 hg.size⟩
 ·rw[C0 (w:=w) (a:=⟨b,0+j,none⟩) hb];exact h.1 j v hv
 ·rw[C0 (w:=w) (a:=⟨b,0+j,none⟩) hb,World.frozen?_of_block (w:=w) (a:=⟨b,0+j,none⟩) hb];exact h.2.1 j hj
theorem CB.up {w w':World} {b B:Nat} {cs:List Value} (h:CB w b cs) (hb:Below B w w') (hB:b<B):CB w' b cs:=by
 have hk:=hb.block b hB;refine⟨λj v hv=>?_,λj hj=>?_,A1 h.2.2 hb.size⟩
 ·rw[C0 (w:=w) (a:=⟨b,0+j,none⟩) hk];exact h.1 j v hv
 ·rw[C0 (w:=w) (a:=⟨b,0+j,none⟩) hk,World.frozen?_of_block (w:=w) (a:=⟨b,0+j,none⟩) hk];exact h.2.1 j hj
theorem E8 (w:World) (cs:List Value) (t:TypeId):CB (w.alloc (.cells cs.toArray t)) w.heap.size cs:=by
 have hr:(w.alloc (.cells cs.toArray t)).rangeAt w.heap.size 0 cs:=by
  intro j v hv;rw[Nat.zero_add,World.cell?_alloc_at]
  ·simpa using hv
  ·rfl
 refine⟨hr,λj hj=>⟨hr.isSome j hj,?_⟩,by simp⟩;simp[go_sem]
theorem AfC {w:World} {b:Nat} {cs:List Value} {j:Nat} {u:Value} (h:w.rangeAt b 0 cs) (hj:j<cs.length):(w.setCell ⟨b,j,none⟩ u).rangeAt b 0 (cs.set j u):=by
 intro i x hx;rw[List.getElem?_set] at hx;by_cases e:j=i
 ·subst e
  rw[if_pos rfl,if_pos hj] at hx;obtain rfl:=A5 hx;have hc:=h j cs[j] (by simp);rw[Nat.zero_add] at hc ⊢
  exact World.cell?_setCell_same _ _ _ hc
 ·rw[if_neg e] at hx
  rw[B9 _ _ _ _ (by simp<;>omega)];exact h i x hx
theorem CB.set {w:World} {b j:Nat} {cs:List Value} {u:Value} (h:CB w b cs) (hj:j<cs.length):CB (w.setCell ⟨b,j,none⟩ u) b (cs.set j u):=by
 refine⟨AfC h.1 hj,λi hi=>?_,by simpa using h.2.2⟩;have:=World.there_setCells h.2.1 b j [u] i (by simpa using hi);simpa [World.setCells] using this
theorem CB.other {w:World} {b q j:Nat} {cs:List Value} {u:Value} (h:CB w b cs) (hne:b≠q):CB (w.setCell ⟨q,j,none⟩ u) b cs :=
 h.kept (r:=some q) ⟨rfl,rfl,rfl,by simp,λi _ hr=>Below.heap_setCell _ _ _ _ (λe=>hr (by rw[e]))⟩ (by simpa using hne)
theorem CB.c2 {w:World} {b:Nat} {x0 x1:Value} (h:CB w b [x0,x1]):(w.cell? ⟨b,0,none⟩=some x0/\w.cell? ⟨b,1,none⟩=some x1)/\w.frozen? ⟨b,0,none⟩=false/\w.frozen? ⟨b,1,none⟩=false :=
 ⟨⟨h.1 0 _ rfl,h.1 1 _ rfl⟩,(h.2.1 0 (by simp)).2,(h.2.1 1 (by simp)).2⟩
theorem CB.c3 {w:World} {b:Nat} {x0 x1 x2:Value} (h:CB w b [x0,x1,x2]):(w.cell? ⟨b,0,none⟩=some x0/\w.cell? ⟨b,1,none⟩=some x1/\w.cell? ⟨b,2,none⟩=some x2)/\w.frozen? ⟨b,0,none⟩=false/\w.frozen? ⟨b,1,none⟩=false/\w.frozen? ⟨b,2,none⟩=false :=
 ⟨⟨h.1 0 _ rfl,h.1 1 _ rfl,h.1 2 _ rfl⟩,(h.2.1 0 (by simp)).2,(h.2.1 1 (by simp)).2,(h.2.1 2 (by simp)).2⟩
theorem CB.c8 {w:World} {b:Nat} {x0 x1 x2 x3 x4 x5 x6 x7:Value} (h:CB w b [x0,x1,x2,x3,x4,x5,x6,x7]) :
  (w.cell? ⟨b,0,none⟩=some x0/\w.cell? ⟨b,1,none⟩=some x1/\w.cell? ⟨b,2,none⟩=some x2/\w.cell? ⟨b,3,none⟩=some x3/\w.cell? ⟨b,4,none⟩=some x4/\w.cell? ⟨b,5,none⟩=some x5/\w.cell? ⟨b,6,none⟩=some x6/\w.cell? ⟨b,7,none⟩=some x7)/\
  w.frozen? ⟨b,0,none⟩=false/\w.frozen? ⟨b,1,none⟩=false/\w.frozen? ⟨b,2,none⟩=false/\w.frozen? ⟨b,3,none⟩=false/\w.frozen? ⟨b,4,none⟩=false/\w.frozen? ⟨b,5,none⟩=false/\w.frozen? ⟨b,6,none⟩=false/\w.frozen? ⟨b,7,none⟩=false :=
 ⟨⟨h.1 0 _ rfl,h.1 1 _ rfl,h.1 2 _ rfl,h.1 3 _ rfl,h.1 4 _ rfl,h.1 5 _ rfl,h.1 6 _ rfl,h.1 7 _ rfl⟩,(h.2.1 0 (by simp)).2,(h.2.1 1 (by simp)).2,(h.2.1 2 (by simp)).2,(h.2.1 3 (by simp)).2,(h.2.1 4 (by simp)).2,(h.2.1 5 (by simp)).2,(h.2.1 6 (by simp)).2,(h.2.1 7 (by simp)).2⟩
theorem CB.copy {w:World} {b:Nat} {ys:List Value} (h:CB w b ys) (xs:List Value) (hl:xs.length=ys.length):CB (w.setCells b 0 xs) b xs :=
 ⟨World.rangeAt_setCells_same _ _ _ _ (by rw[hl];exact h.2.1),World.there_setCells (by rw[hl];exact h.2.1) _ _ _,by rw[World.size_setCells'];exact h.2.2⟩
theorem AbB {B:Nat} {a w:World} {b:Nat} (h:Below B a w) (hb:B<=b) (xs:List Value):Below B a (w.setCells b 0 xs):=Acv b xs 0 a w B h hb
theorem CB.copy2 {w:World} {b:Nat} {y0 y1:Value} (h:CB w b [y0,y1]) (x0 x1:Value):CB ((w.setCell ⟨b,0,none⟩ x0).setCell ⟨b,1,none⟩ x1) b [x0,x1]:=h.copy [x0,x1] rfl
theorem CB.copy3 {w:World} {b:Nat} {y0 y1 y2:Value} (h:CB w b [y0,y1,y2]) (x0 x1 x2:Value):CB (((w.setCell ⟨b,0,none⟩ x0).setCell ⟨b,1,none⟩ x1).setCell ⟨b,2,none⟩ x2) b [x0,x1,x2]:=h.copy [x0,x1,x2] rfl
theorem CB.copy8 {w:World} {b:Nat} {y0 y1 y2 y3 y4 y5 y6 y7:Value} (h:CB w b [y0,y1,y2,y3,y4,y5,y6,y7]) (x0 x1 x2 x3 x4 x5 x6 x7:Value) :
  CB ((((((((w.setCell ⟨b,0,none⟩ x0).setCell ⟨b,1,none⟩ x1).setCell ⟨b,2,none⟩ x2).setCell ⟨b,3,none⟩ x3).setCell ⟨b,4,none⟩ x4).setCell ⟨b,5,none⟩ x5).setCell ⟨b,6,none⟩ x6).setCell ⟨b,7,none⟩ x7) b [x0,x1,x2,x3,x4,x5,x6,x7]:=h.copy [x0,x1,x2,x3,x4,x5,x6,x7] rfl
theorem G3 {B:Nat} {a w:World} {b:Nat} (h:Below B a w) (hb:B<=b) (x0 x1:Value):Below B a ((w.setCell ⟨b,0,none⟩ x0).setCell ⟨b,1,none⟩ x1):=AbB h hb [x0,x1]
theorem AdN {B:Nat} {a w:World} {b:Nat} (h:Below B a w) (hb:B<=b) (x0 x1 x2:Value):Below B a (((w.setCell ⟨b,0,none⟩ x0).setCell ⟨b,1,none⟩ x1).setCell ⟨b,2,none⟩ x2):=AbB h hb [x0,x1,x2]
theorem AdO {B:Nat} {a w:World} {b:Nat} (h:Below B a w) (hb:B<=b) (x0 x1 x2 x3 x4 x5 x6 x7:Value) :
  Below B a ((((((((w.setCell ⟨b,0,none⟩ x0).setCell ⟨b,1,none⟩ x1).setCell ⟨b,2,none⟩ x2).setCell ⟨b,3,none⟩ x3).setCell ⟨b,4,none⟩ x4).setCell ⟨b,5,none⟩ x5).setCell ⟨b,6,none⟩ x6).setCell ⟨b,7,none⟩ x7):=AbB h hb [x0,x1,x2,x3,x4,x5,x6,x7]
theorem AdP {P:Program} {fn:Func} {q:Tmp} {T:TypeId} (h:fn.results=#[.cell q T]) {d:TypeDesc} (hu:P.underlying T=some d) (hd:d.isRow=true) {tmps:Array Value} {Z:World} {rk:Nat} {cs:List Value} (hi:(P.info? T).map (·.size)=some cs.length)
  (ht:tmps.getD q undef=.pointer (some ⟨rk,0,none⟩)) (hZ:CB Z rk cs):(results fn tmps).run P Z=.ok (.agg cs.toArray) Z:=by
 have hl:=run_loadVar_mid (P:=P) Z rk 0 T cs d hZ.1 hu hd hi;have ha:(asAddr (.pointer (some ⟨rk,0,none⟩))).run P Z=.ok ⟨rk,0,none⟩ Z:=by simp[go_sem]
 have ht':tmps[q]?.getD undef=.pointer (some ⟨rk,0,none⟩):=by simpa using ht
 simp only[results,h];simp[Sem.run_bind,Result.andThen,ht',ha,hl]
theorem AcQ {P:Program} {fn:Func} {q q2:Tmp} {T:TypeId} (h:fn.results=#[.cell q T,.tmp q2]) {d:TypeDesc} (hu:P.underlying T=some d) (hd:d.isRow=true) {tmps:Array Value} {Z:World} {rk:Nat} {cs:List Value} (hi:(P.info? T).map (·.size)=some cs.length)
  {v:Value} (ht:tmps.getD q undef=.pointer (some ⟨rk,0,none⟩)) (hv:tmps.getD q2 undef=v) (hZ:CB Z rk cs):(results fn tmps).run P Z=.ok (.tuple #[.agg cs.toArray,v]) Z:=by
 have hl:=run_loadVar_mid (P:=P) Z rk 0 T cs d hZ.1 hu hd hi;have ha:(asAddr (.pointer (some ⟨rk,0,none⟩))).run P Z=.ok ⟨rk,0,none⟩ Z:=by simp[go_sem]
 have ht':tmps[q]?.getD undef=.pointer (some ⟨rk,0,none⟩):=by simpa using ht
 have hv':tmps[q2]?.getD undef=v:=by simpa using hv
 simp only[results,h];simp[Sem.run_bind,Result.andThen,ht',hv',ha,hl]
theorem cb1 (w:World) (x:List Value) (t:TypeId):CB (w.alloc (.cells x.toArray t)) w.heap.size x/\Below w.heap.size w (w.alloc (.cells x.toArray t))/\(w.alloc (.cells x.toArray t)).heap.size=w.heap.size+1 :=
 ⟨E8 w x t,(A4 _ _).alloc (A3 _) _,by simp⟩
theorem cb2 (w:World) (x y:List Value) (t u:TypeId):CB ((w.alloc (.cells x.toArray t)).alloc (.cells y.toArray u)) w.heap.size x/\CB ((w.alloc (.cells x.toArray t)).alloc (.cells y.toArray u)) (w.heap.size+1) y/\
  Below w.heap.size w ((w.alloc (.cells x.toArray t)).alloc (.cells y.toArray u))/\((w.alloc (.cells x.toArray t)).alloc (.cells y.toArray u)).heap.size=w.heap.size+2:=by
 obtain⟨h1,hb,hs⟩:=cb1 w x t;obtain⟨h2,hb2,hs2⟩:=cb1 (w.alloc (.cells x.toArray t)) y u;refine⟨h1.up hb2 (by rw[hs];omega),by rw[hs] at h2;exact h2,hb.trans (hb2.mono (by rw[hs];omega)),by rw[hs2,hs]⟩
theorem cb3 (w:World) (x y z:List Value) (t u v:TypeId):CB (((w.alloc (.cells x.toArray t)).alloc (.cells y.toArray u)).alloc (.cells z.toArray v)) w.heap.size x/\CB (((w.alloc (.cells x.toArray t)).alloc (.cells y.toArray u)).alloc (.cells z.toArray v)) (w.heap.size+1) y/\
  CB (((w.alloc (.cells x.toArray t)).alloc (.cells y.toArray u)).alloc (.cells z.toArray v)) (w.heap.size+2) z/\
  Below w.heap.size w (((w.alloc (.cells x.toArray t)).alloc (.cells y.toArray u)).alloc (.cells z.toArray v))/\(((w.alloc (.cells x.toArray t)).alloc (.cells y.toArray u)).alloc (.cells z.toArray v)).heap.size=w.heap.size+3:=by
 obtain⟨h1,h2,hb,hs⟩:=cb2 w x y t u;obtain⟨h3,hb3,hs3⟩:=cb1 ((w.alloc (.cells x.toArray t)).alloc (.cells y.toArray u)) z v;refine⟨h1.up hb3 (by rw[hs];omega),h2.up hb3 (by rw[hs];omega),by rw[hs] at h3;exact h3,hb.trans (hb3.mono (by rw[hs];omega)),by rw[hs3,hs]⟩
theorem K6 (w:World) (x:List Value) (t:TypeId):∃W,w.alloc (.cells x.toArray t)=W/\CB W w.heap.size x/\Below w.heap.size w W/\W.heap.size=w.heap.size+1:=⟨_,rfl,cb1 w x t⟩
theorem L8 (w:World) (x:List Value) (t:TypeId) (y:List Value) (u:TypeId):∃W,(w.alloc (.cells x.toArray t)).alloc (.cells y.toArray u)=W/\CB W w.heap.size x/\CB W (w.heap.size+1) y/\Below w.heap.size w W/\W.heap.size=w.heap.size+2:=⟨_,rfl,cb2 w x y t u⟩
theorem Adv (w:World) (x:List Value) (t:TypeId) (y:List Value) (u:TypeId) (z:List Value) (v:TypeId):∃W,((w.alloc (.cells x.toArray t)).alloc (.cells y.toArray u)).alloc (.cells z.toArray v)=W/\CB W w.heap.size x/\CB W (w.heap.size+1) y/\CB W (w.heap.size+2) z/\Below w.heap.size w W/\W.heap.size=w.heap.size+3:=⟨_,rfl,cb3 w x y z t u v⟩
theorem Am9 {w:World} {base e size n:Nat} {v:Value} {xs:List Value} (h:w.ownsRow base e size v n xs) (hn:0<n):∃g cap,v=.slice (some ⟨g,0,none⟩) n cap:=by
 rcases h.2 with⟨_,h0⟩|⟨g,cap,_,hv,_⟩
 ·omega
 ·exact⟨g,cap,hv⟩
theorem E0 {W w':World} {base e size n:Nat} {v:Value} {xs:List Value} (h:W.ownsRow base e size v n xs) (hb:Below W.heap.size W w'):w'.ownsRow base e size v n xs:=by
 refine⟨h.1,?_⟩;rcases h.2 with h0|⟨g,cap,cur,hv,hg,hh,r⟩
 ·exact .inl h0
 ·refine .inr ⟨g,cap,cur,hv,hg,?_,r⟩
  rw[hb.block g (D3.1 hh).1];exact hh
theorem new2 (w:World) (a b:Value) (ty:TypeId) {j:Nat} {u:Value} (h:[a,b][j]?=some u):(w.alloc (.cells #[a,b] ty)).cell? ((⟨w.heap.size,0,none⟩:Addr).add j)=some u:=by
 match j,h with
 | 0,h=>simp at h;subst h;simp[Addr.add]
 | 1,h=>simp at h;subst h;simp[Addr.add]
theorem one2 {s:ByteArray} {x u:Value} (hx:x.oneCell'=true) (h:u∈[Value.string s,x]):u.oneCell'=true:=by
 simp at h;rcases h with rfl|rfl
 ·rfl
 ·exact hx
theorem Acx {a b:World} {r:Option Nat} {pb off:Nat} (h:a.grownBy b r) (hp:a.heap.size<=pb) (u:Value):a.grownBy (b.setCell ⟨pb,off,none⟩ u) r :=
 ⟨h.os,h.tape,h.output,by simpa using h.size,λi hi hr=>(Below.heap_setCell _ _ _ _ (by simp;omega)).trans (h.block i hi hr)⟩
theorem L9:(Tryz.prog.info? 9).map (λi=>(i.zero,i.size,i.bytes))=some (some (.string ⟨#[]⟩),1,16):=by kernel_rfl
theorem StrsAt.alloc {w:World} {g o:Nat} {ss:List ByteArray} (h:StrsAt w g o ss) (ob:Obj):StrsAt (w.alloc ob) g o ss:=λi s hs=>by
 have:=h i s hs;rw[World.cell?_alloc_lt _ _ _ (World.block_lt_of_cell? w _ this)];exact this
theorem J5 {w:World} {g o:Nat} {ss:List ByteArray} (h:StrsAt w g o ss):∀(j:Nat) (u:Value),(ss.map Value.string)[j]?=some u->w.cell? ((⟨g,o,none⟩:Addr).add j)=some u:=λj u hu=>by
 rw[B0,B4] at hu;obtain⟨s,hs,rfl⟩:=hu;rw[Addr.add_mid];exact h j s hs
theorem Z2 (ss:List ByteArray):∀u∈ss.map Value.string,u.oneCell'=true:=λu hu=>by
 obtain⟨s,_,rfl⟩:=List.mem_map.1 hu;rfl
theorem F2 {w:World} {base e size n:Nat} {v:Value} {xs:List Value} (h:w.ownsRow base e size v n xs) (hn:0<n):∃g cap,v=.slice (some ⟨g,0,none⟩) n cap:=by
 rcases h.2 with⟨_,h0⟩|⟨g,cap,_,hv,_⟩
 ·omega
 ·exact⟨g,cap,hv⟩
theorem AgY {w:World} {base e g n cap:Nat} {ss:List ByteArray} (h:w.ownsRow base e 1 (.slice (some ⟨g,0,none⟩) n cap) n (ss.map Value.string)) (hn:ss.length=n):StrsAt w g 0 ss:=λi s hs=>by
 have hi:i<ss.length:=(A2.1 hs).1;rw[Nat.zero_add,h.cellAt i (by omega),B0,hs];rfl
theorem F4 {P:Program} {ops:Array Oper} {o:Oper} {a:Act} {w:World} {K:Act->World->Prop} {Q:Exit->Act->World->Prop} {E:Prop}
  (hg:o.guard=none) (s x:Operand) (t:TypeId) (hop:o.op=Op.call {callee:=Callee.builtin Builtin.append,args:=#[s,x],argTypes:=#[t,t]})
  (base:Nat) (e:TypeId) (i:TypeInfo) (z:Value) (size bytes:Nat) (ht:P.underlying t=some (.slice e)) (hi:P.info? e=some i) (hz:i.zero=some z)
  (hsize:i.size=size) (hby:i.bytes=bytes) (hzs:z.cells.size=size) (hsz:0<size)
  (v:Value) (n:Nat) (xs:List Value) (hs:a.eval s=v) (hown:w.ownsRow base e size v n xs)
  (ad:Addr) (m c:Nat) (news:List Value) (hx:a.eval x=.slice (some ad) m c) (hl:news.length=m*size) (hnews:∀j u,news[j]?=some u->w.cell? (ad.add j)=some u) (h1:∀u∈news,u.oneCell'=true)
  (h63:n+m<=maxLen) (hbytes:(n+m)*bytes<=140737488355328) (hbase:base<=w.heap.size)
  (hK:∀v' w',w'.ownsRow base e size v' (n+m) (xs++news)->w.grownBy w' v.ownBlock->K (a.put o.dst v') w') :
  if Region.wanted o (yielded ops a.tmps)=true then Oper.wp P o a w K Q else E:=by
 have hw:Region.wanted o (yielded ops a.tmps)=true:=by simp[Region.wanted,hg]
 rw[if_pos hw];obtain⟨v',w',hr,h2,h3,_⟩:=run_append_own (P:=P) w base t o.type e i z size bytes ht hi hz hsize hby hzs hsz v n xs hown ad m c news hl hnews h1 h63 hbytes hbase;unfold Oper.wp;simp[execOp,hop,resolve,invoke,builtin,hs,hx,hr,Result.andThen];exact hK v' w' h2 h3
theorem E6 {w w':World} {base e size n rb:Nat} {v:Value} {xs:List Value} (h:w.ownsRow base e size v n xs) (hg:w.grownBy w' (some rb)) (hrb:rb<base):w'.ownsRow base e size v n xs:=by
 refine⟨h.1,?_⟩;rcases h.2 with h0|⟨g,cap,cur,hv,hb,hh,r⟩
 ·exact .inl h0
 ·refine .inr ⟨g,cap,cur,hv,hb,?_,r⟩
  rw[hg.block g (D3.1 hh).1 (by simp;omega)];exact hh
theorem F9 {w:World} {base base' e size n:Nat} {v:Value} {xs:List Value} (h:w.ownsRow base e size v n xs) (hb:base'<=base):w.ownsRow base' e size v n xs:=by
 refine⟨h.1,?_⟩;rcases h.2 with h0|⟨g,cap,cur,hv,hg,r⟩
 ·exact .inl h0
 ·exact .inr ⟨g,cap,cur,hv,B1 hb hg,r⟩
theorem Z3 {w:World} {base e size n b:Nat} {v:Value} {xs:List Value} (h:w.ownsRow base e size v n xs) (hb:b<base):some b≠v.ownBlock:=λe=>by
 have:=(h.lt b e.symm).1;omega
theorem StrsAt.own {w w':World} {g o base e size n:Nat} {u:Value} {xs:List Value} {ss:List ByteArray} (h:StrsAt w g o ss) (hown:w.ownsRow base e size u n xs) (hg:w.grownBy w' u.ownBlock) (hk:g<base):StrsAt w' g o ss :=
 λi s hs=>hg.cell (h i s hs) (Z3 hown hk)
theorem StrsAt.drop {w:World} {g o:Nat} {ss:List ByteArray} (h:StrsAt w g o ss) (k:Nat):StrsAt w g (o+k) (ss.drop k):=λi s hs=>by
 rw[List.getElem?_drop] at hs;rw[Nat.add_assoc];exact h (k+i) s hs
theorem StrsAt.take {w:World} {g o:Nat} {ss:List ByteArray} (h:StrsAt w g o ss) (k:Nat):StrsAt w g o (ss.take k):=λi s hs=>by
 rw[List.getElem?_take] at hs;split at hs
 ·exact h i s hs
 ·cases hs
def Txt (w:World) (v:Value) (ss:List ByteArray):Prop:=∃g c,v=.slice (some ⟨g,0,none⟩) ss.length c/\StrsAt w g 0 ss/\g<w.heap.size/\ss.length<=c/\c<=maxLen
theorem Txt.up {w w':World} {v:Value} {ss:List ByteArray} (h:Txt w v ss) (hb:Below w.heap.size w w'):Txt w' v ss:=by
 obtain⟨g,c,rfl,hS,hg,r⟩:=h;exact⟨g,c,rfl,λi s hs=>(hb.cell (p:=⟨g,0+i,none⟩) hg).trans (hS i s hs),A1 hg hb.size,r⟩
theorem Txt.own {w:World} {base e n:Nat} {v:Value} {ss:List ByteArray} (h:w.ownsRow base e 1 v n (ss.map Value.string)) (hn:ss.length=n) (hv:∃g c,v=.slice (some ⟨g,0,none⟩) n c):Txt w v ss:=by
 obtain⟨g,c,rfl⟩:=hv;refine⟨g,c,by rw[hn],AgY h hn,(h.lt g rfl).2,?_,?_⟩
 ·rcases h.2 with⟨h0,_⟩|⟨g',cap',cur,h',_,_,hc,_⟩
  ·cases h0
  ·cases h';omega
 ·rcases h.2 with⟨h0,_⟩|⟨g',cap',cur,h',_,_,_,hc,_⟩
  ·cases h0
  ·cases h';exact hc
theorem G4 {w W W':World} {base e size n:Nat} {v:Value} {xs:List Value} (h:Below w.heap.size w W) (hown:W.ownsRow base e size v n xs) (hg:W.grownBy W' v.ownBlock) (hk:w.heap.size<=base):Below w.heap.size w W' :=
 {os:=hg.os.trans h.os,tape:=hg.tape.trans h.tape,output:=hg.output.trans h.output,size:=B1 h.size hg.size,block:=λi hi=>(hg.block i (A1 hi h.size) (Z3 hown (by omega))).trans (h.block i hi)}
theorem S1 (w:World) (s:ByteArray) (t:TypeId):∀(j:Nat) (u:Value),[Value.string s][j]?=some u->(w.alloc (.cells #[.string s] t)).cell? ((⟨w.heap.size,0,none⟩:Addr).add j)=some u:=λj u hj=>by
 match j,hj with
 | 0,hj=>simp at hj;subst hj;simp[Addr.add]
theorem AcR {w:World} {b:Nat} {s:ByteArray} (h:w.cell? ⟨b,0,none⟩=some (.string s)):∀(j:Nat) (u:Value),[Value.string s][j]?=some u->w.cell? ((⟨b,0,none⟩:Addr).add j)=some u:=λj u hj=>by
 match j,hj with
 | 0,hj=>simp at hj;subst hj;rw[Addr.add_mid];exact h
theorem Abp (s:ByteArray):∀u∈[Value.string s],u.oneCell'=true:=λu hu=>by simp at hu;subst hu;rfl
def Lst (w:World) (v:Value) (ss:List ByteArray):Prop:=(v=.slice none 0 0/\ss=[])∨Txt w v ss
theorem Lst.up {w w':World} {v:Value} {ss:List ByteArray} (h:Lst w v ss) (hb:Below w.heap.size w w'):Lst w' v ss:=by
 rcases h with h|h
 ·exact .inl h
 ·exact .inr (h.up hb)
theorem Lst.shape {w:World} {v:Value} {ss:List ByteArray} (h:Lst w v ss):∃a c,v=.slice a ss.length c:=by
 rcases h with⟨rfl,rfl⟩|⟨g,c,rfl,_⟩
 ·exact⟨none,0,rfl⟩
 ·exact⟨_,_,rfl⟩
def OwnT (w:World) (base:Nat) (u:Value) (ss:List ByteArray):Prop:=w.ownsRow base 9 1 u ss.length (ss.map Value.string)
theorem OwnT.lst {w:World} {base:Nat} {u:Value} {ss:List ByteArray} (h:OwnT w base u ss):Lst w u ss:=by
 rcases h.2 with⟨h0,h1⟩|⟨g,cap,cur,hv,_⟩
 ·exact .inl ⟨h0,C4.1 h1⟩
 ·exact .inr (Txt.own h rfl ⟨g,cap,hv⟩)
theorem S7 {w a b:World} {x:Nat} (h:Below w.heap.size w a) (hg:a.grownBy b (some x)) (hx:w.heap.size<=x):Below w.heap.size w b :=
 {os:=hg.os.trans h.os,tape:=hg.tape.trans h.tape,output:=hg.output.trans h.output,size:=B1 h.size hg.size,block:=λi hi=>(hg.block i (A1 hi h.size) (by simp;omega)).trans (h.block i hi)}
theorem OwnT.up {w w':World} {base:Nat} {u:Value} {ss:List ByteArray} (h:OwnT w base u ss) (hb:Below w.heap.size w w'):OwnT w' base u ss:=E0 h hb
theorem M0 (b:Nat):∀(vs:List Value) (o:Nat) (W w':World) (B:Nat),Below B W w'->B<=b->Below B W (w'.setCells b o vs)
 | [],_,_,_,_,h,_=>h
 | v::r,o,W,w',B,h,hB=>by
  rw[World.setCells];exact M0 b r (o+1) W _ B (h.setCell (p:=⟨b,o,none⟩) hB v) hB
theorem AfD (w:World) (C:Array Value) (t:TypeId) (j:Nat) (hj:j<C.size):((w.alloc (.cells C t)).cell? ⟨w.heap.size,j,none⟩).isSome=true/\(w.alloc (.cells C t)).frozen? ⟨w.heap.size,j,none⟩=false:=by
 constructor
 ·simp[hj,go_sem]
 ·simp[go_sem]
theorem S2 (w:World) (C:Array Value) (t:TypeId):(w.alloc (.cells C t)).there w.heap.size 0 C.size:=λj hj=>by
 simpa using AfD w C t j hj
theorem I3 {w w':World} {b o n B:Nat} (h:w.there b o n) (hb:Below B w w') (hB:b<B):w'.there b o n:=λj hj=>by
 rw[hb.cell (p:=⟨b,o+j,none⟩) hB,hb.frozen (p:=⟨b,o+j,none⟩) hB];exact h j hj
theorem R8 (w1:World) (b o:Nat) (vs:List Value):w1.heap.size<=(w1.setCells b o vs).heap.size:=(M0 b vs o w1 w1 0 (A4 _ _) (Nat.zero_le _)).size
theorem Z4 {W w0 w1:World} {b o:Nat} {x:Value} (hb:b<W.heap.size) (h:Below W.heap.size W w0/\w0.cell? ⟨b,o,none⟩=some x) (hB:Below w0.heap.size w0 w1):Below W.heap.size W w1/\w1.cell? ⟨b,o,none⟩=some x :=
 ⟨D5 h.1 hB,(hB.cell (p:=⟨b,o,none⟩) (A1 hb h.1.size)).trans h.2⟩
theorem E7 {a b:World} {B:Nat} (h:Below B a b) (n:Nat):Below B a (b.drewN n):={os:=h.os,tape:=h.tape,output:=h.output,size:=h.size,block:=h.block}
theorem Aam (n:Nat) (w:World) :
  Calls Tryz.prog 167 #[.int .i32 n] w λe w'=>e=.returned (.bool (nbB n))/\w'=w:=by
 go_enter Tryz.func167,Tryz.ntmps167
 go_wp2
 all_goals
  go_ret
  exact⟨D6 (by rw[Bool.eq_iff_iff,AaE];simp;omega),rfl⟩
theorem G7 (n lo hi:Int) (w:World) :
  Calls Tryz.prog 57 #[.int .i64 n,.int .i64 lo,.int .i64 hi] w λe w'=>e=.returned (.bool (inB n lo hi))/\w'=w:=by
 by_cases h1:lo<=n<;>by_cases h2:n<=hi
 all_goals
  go_enter Tryz.func57,Tryz.ntmps57
  go_wp2
  go_ret
  exact⟨D6 (by simp[inB,h1,h2]),rfl⟩
theorem K5 (s:ByteArray) (w:World) (hs:s.size<=maxLen) :
  Calls Tryz.prog 182 #[.string s] w λe w'=>e=.returned (.bool (nameB s))/\Below w.heap.size w w':=by
 unfold maxLen at hs;by_cases h1:1<=s.size
 case neg =>
  go_enter Tryz.func182,Tryz.ntmps182
  go_wp2
  go_ret
  exact⟨D6 (by simp[nameB,h1]),A4 _ _⟩
 by_cases h2:s.size<=8
 case neg =>
  go_enter Tryz.func182,Tryz.ntmps182
  go_wp2
  go_ret
  exact⟨D6 (by simp[nameB,h2]),A4 _ _⟩
 have hn:Hid (nameB s=allB s.data.toList):=by show nameB s=_;simp[nameB,h1,h2]
 go_enter Tryz.func182,Tryz.ntmps182
 go_wp2_with fail
 go_loopw [4] (λ_ w'=>∃pos:Nat,w'=w.iter s pos/\pos<=s.size/\allB (s.data.toList.take pos)=true) (λ_ w'=>s.size-w'.iterPos w.heap.size)
 case atStart=>exact⟨0,rfl,by omega,rfl⟩
 case round =>
  obtain⟨pos,rfl,hle,hal⟩:=hrel;have Hal:Hid (allB (s.data.toList.take pos)=true):=hal;clear hal;by_cases hp:pos<s.size
  ·have hnx:∀ty,(Instr.next (.pointer (some ⟨w.heap.size,0,none⟩)) true ty).run Tryz.prog (w.iter s pos)=_:=λty=>run_next_any w s pos ty hp
   by_cases ha:(s[pos]'hp).toNat<128
   ·rw[decode_ascii s pos hp ha] at hnx
    by_cases hb:nbB (s[pos]'hp).toNat=true
    ·have Hb:Hid (nbB (s[pos]'hp).toNat=true):=hb
     go_wp2_with (go_at_call 167;refine (Aam _ _).mono ?_;rintro e w' ⟨rfl,rfl⟩)
     go_roundw
     case rel=>exact⟨pos+1,rfl,by omega,by rw[AaZ s pos hp,Hal.out,Hb.out];rfl⟩
     case measure=>simp;omega
    ·have hb':nbB (s[pos]'hp).toNat=false:=by simpa using hb
     have Hb:Hid (nbB (s[pos]'hp).toNat=false):=hb';clear hb;go_wp2_with (go_at_call 167;refine (Aam _ _).mono ?_;rintro e w' ⟨rfl,rfl⟩)
     go_ret
     exact⟨D6 (by rw[hn.out,AaF s pos hp Hb.out]),AaG _ _ _⟩
   ·have hi:=decode_high s pos hp (by omega)
    have hb':nbB (Utf8.decode s pos).1=false:=Ab9 _ hi.1;have Hb:Hid (nbB (s[pos]'hp).toNat=false):=Ab9 _ (by omega);clear hi;go_wp2_with (go_at_call 167;refine (Aam _ _).mono ?_;rintro e w' ⟨rfl,rfl⟩)
    go_ret
    exact⟨D6 (by rw[hn.out,AaF s pos hp Hb.out]),AaG _ _ _⟩
  ·have hnx:∀ty,(Instr.next (.pointer (some ⟨w.heap.size,0,none⟩)) true ty).run Tryz.prog (w.iter s pos)=_:=λty=>run_next_end w s pos ty hp
   go_wp2
   go_ret
   exact⟨D6 (by rw[hn.out,AbA s pos hp Hal.out]),AaG _ _ _⟩
theorem G6 (s:ByteArray) (w:World) (hs:s.size<=maxLen) :
  Calls Tryz.prog 28 #[.string s] w λe w'=>e=.returned (.bool (nameB s))/\w'=w:=by
 unfold maxLen at hs;by_cases h1:1<=s.size/\s.size<=8
 case neg =>
  have h2:inB s.size 1 8=false:=(Aax _ _ _).2 (by omega);go_enter Tryz.func28,Tryz.ntmps28
  go_wp2_with (go_at_call 57;refine (G7 _ _ _ _).mono ?_;rintro e w' ⟨rfl,rfl⟩)
  go_ret
  exact⟨D6 (by simp only[nameB];simp;omega),rfl⟩
 have hn:Hid (nameB s=allB s.data.toList):=by show nameB s=_;simp[nameB,h1]
 have h2:inB s.size 1 8=true:=(P9 _ _ _).2 (by omega);go_enter Tryz.func28,Tryz.ntmps28
 go_wp2_with (go_at_call 57;refine (G7 _ _ _ _).mono ?_;rintro e w' ⟨rfl,rfl⟩)
 go_loop [3] (λi=>∃k:Nat,k<=s.size/\i=.int .i64 k/\allB (s.data.toList.take k)=true) (λi=>s.size-(intOf i).toNat)
 case atStart=>exact⟨0,by omega,rfl,rfl⟩
 case round =>
  obtain⟨k,hk,rfl,hal⟩:=hrel;have Hal:Hid (allB (s.data.toList.take k)=true):=hal;clear hal;by_cases hp:k<s.size
  ·have HS:Hid (nbB (s[k]'hp).toNat=true->allB (s.data.toList.take (k+1))=true):=by show _->_;intro hb;rw[AaZ s k hp,Hal.out,hb];rfl
   have HN:Hid (nbB (s[k]'hp).toNat=false->allB s.data.toList=false):=AaF s k hp;go_wp2
   all_goals first
    | (go_ret;exact⟨D6 (by rw[hn.out];exact (HN.out (by rw[← Bool.not_eq_true,AaE];go_light;simp at *;omega)).symm),rfl⟩)
    | (go_round
       case rel=>exact⟨k+1,by omega,by go_num,HS.out (by rw[AaE];go_light;simp at *;omega)⟩
       case measure=>simp[intOf];omega)
  ·go_wp2
   go_ret
   exact⟨D6 (by rw[hn.out,AbA s k hp Hal.out]),rfl⟩
theorem L1 (s:ByteArray) (w:World) :
  Calls Tryz.prog 66 #[.string s] w λe w'=>e=.returned (.int .i64 (endN s))/\w'=w:=by
 go_enter Tryz.func66,Tryz.ntmps66
 go_wp2
 all_goals
  go_ret
  exact⟨O3 (by simp[endN, *]),rfl⟩
def Ends (w:World):Prop:=w.cell? ⟨1,0,none⟩=some (.string ⟨#[103,111,111,100]⟩)/\
  w.cell? ⟨1,1,none⟩=some (.string ⟨#[115,97,118,101,100]⟩)/\w.cell? ⟨1,2,none⟩=some (.string ⟨#[115,99,114,97,112,112,101,100]⟩)/\1<w.heap.size
theorem Ends.up {w w':World} (h:Ends w) (b:Below w.heap.size w w'):Ends w' :=
 ⟨(b.cell (p:=⟨1,0,none⟩) h.2.2.2).trans h.1,(b.cell (p:=⟨1,1,none⟩) h.2.2.2).trans h.2.1,(b.cell (p:=⟨1,2,none⟩) h.2.2.2).trans h.2.2.1,A1 h.2.2.2 b.size⟩
theorem N7 (s:ByteArray) (w:World) (hE:Ends w) :
  Calls Tryz.prog 175 #[.string s] w λe w'=>e=.returned (.int .i64 (endN s))/\w'=w:=by
 obtain⟨g0,g1,g2,_⟩:=hE;have i0:∀w,(Instr.index 242 (.agg #[.string ⟨#[103,111,111,100]⟩,.string ⟨#[115,97,118,101,100]⟩,.string ⟨#[115,99,114,97,112,112,101,100]⟩]) (.int .i64 0)).run Tryz.prog w=.ok (.string ⟨#[103,111,111,100]⟩) w:=λ_=>by kernel_rfl
 have i1:∀w,(Instr.index 242 (.agg #[.string ⟨#[103,111,111,100]⟩,.string ⟨#[115,97,118,101,100]⟩,.string ⟨#[115,99,114,97,112,112,101,100]⟩]) (.int .i64 1)).run Tryz.prog w=.ok (.string ⟨#[115,97,118,101,100]⟩) w:=λ_=>by kernel_rfl
 have i2:∀w,(Instr.index 242 (.agg #[.string ⟨#[103,111,111,100]⟩,.string ⟨#[115,97,118,101,100]⟩,.string ⟨#[115,99,114,97,112,112,101,100]⟩]) (.int .i64 2)).run Tryz.prog w=.ok (.string ⟨#[115,99,114,97,112,112,101,100]⟩) w:=λ_=>by kernel_rfl
 go_enter Tryz.func175,Tryz.ntmps175
 go_wp2
 go_rounds 4
 all_goals
  go_ret
  exact⟨O3 (by simp[endN, *]),rfl⟩
end Go.Proofs.YtgecdacgmehmbaaGreatDoor
namespace Go.Proofs.YtgecdacgmehmbaaGreatDoor
structure Ba where
 nm:ByteArray
 has:List ByteArray
 needs:List ByteArray
structure Bk where
 things:List ByteArray
 bs:List Ba
noncomputable def pB (p:Prop):Bool:=@decide p (Classical.propDecidable p)
theorem G9 {p:Prop} (h:p):pB p=true:=by unfold pB;simp[h]
theorem F1 {p:Prop} (h:¬p):pB p=false:=by unfold pB;simp[h]
theorem F7 {p:Prop}:pB p=true↔p:=by unfold pB;simp
theorem J0 {p:Prop}:pB p=false↔¬p:=by unfold pB;simp
def ltS (a b:ByteArray):Bool:=Op.bytesLess a.toList b.toList
def memS (l:List ByteArray) (s:ByteArray):Bool:=l.any λx=>x.toList==s.toList
def shareB (a b:List ByteArray):Bool:=a.any λs=>memS b s
theorem Z5 {a b:ByteArray} (h:a.toList=b.toList):a=b:=by
 rw[Go.ByteArray.toList_eq,Go.ByteArray.toList_eq] at h;cases a;cases b;simp at h;rw[h]
theorem J8 (l:List ByteArray) (s:ByteArray):memS l s=true↔s∈l:=by
 simp only[memS,List.any_eq_true,beq_iff_eq];constructor
 ·rintro⟨x,hx,h⟩;rwa [← Z5 h]
 ·exact λh=>⟨s,h,rfl⟩
theorem S3 (l:List ByteArray) (s:ByteArray):memS l s=false↔s∉l:=by rw[← J8];simp
theorem AbC (a b:List ByteArray):shareB a b=true↔∃s,s∈a/\s∈b:=by
 simp only[shareB,List.any_eq_true,J8]
theorem N8 (a b:List ByteArray):shareB a b=false↔∀s,s∈a->s∉b:=by
 rw[← Bool.not_eq_true,AbC];simp
theorem Aay {l:List ByteArray} {s:ByteArray} {k:Nat} (hk:k<l.length) (h:memS (l.take k) s=false) (hq:((l[k]).toList==s.toList)=false):memS (l.take (k+1)) s=false:=by
 rw[A7 hk,memS,List.any_append];rw[memS] at h;simp[h,hq]
theorem AbD {l:List ByteArray} {s:ByteArray} {k:Nat} (hk:k<l.length) (hq:((l[k]).toList==s.toList)=true):memS l s=true:=by
 rw[memS,List.any_eq_true];exact⟨l[k],List.getElem_mem hk,hq⟩
theorem AaJ {l:List ByteArray} {s:ByteArray} {k:Nat} (hk:¬k<l.length) (h:memS (l.take k) s=false):memS l s=false:=by
 rwa [D2 (by omega)] at h
theorem AgZ {a b:List ByteArray} {k:Nat} (hk:k<a.length) (h:shareB (a.take k) b=false) (hq:memS b a[k]=false):shareB (a.take (k+1)) b=false:=by
 rw[A7 hk,shareB,List.any_append];rw[shareB] at h;simp[h,hq]
theorem AfE {a b:List ByteArray} {k:Nat} (hk:k<a.length) (hq:memS b a[k]=true):shareB a b=true:=by
 rw[shareB,List.any_eq_true];exact⟨a[k],List.getElem_mem hk,hq⟩
theorem Ai4 {a b:List ByteArray} {k:Nat} (hk:¬k<a.length) (h:shareB (a.take k) b=false):shareB a b=false:=by
 rwa [D2 (by omega)] at h
def AscTo (l:List ByteArray) (k:Nat):Prop:=∀(i:Nat) (a b:ByteArray),i+1<k->l[i]?=some a->l[i+1]?=some b->ltS a b=true
def NamesTo (l:List ByteArray) (k:Nat):Prop:=∀(i:Nat) (a:ByteArray),i<k->l[i]?=some a->nameB a=true
def PartTo (l all:List ByteArray) (k:Nat):Prop:=∀(i:Nat) (a:ByteArray),i<k->l[i]?=some a->memS all a=true
def Asc (l:List ByteArray):Prop:=AscTo l l.length
def Names (l:List ByteArray):Prop:=NamesTo l l.length
def Part (l all:List ByteArray):Prop:=PartTo l all l.length
def PartOk (l all:List ByteArray):Prop:=Part l all/\Asc l
def ThingsOk (l:List ByteArray):Prop:=l.length<=8/\Names l/\Asc l
theorem AscTo.zero (l:List ByteArray):AscTo l 0:=λi _ _ h=>by omega
theorem AscTo.one (l:List ByteArray):AscTo l 1:=λi _ _ h=>by omega
theorem NamesTo.zero (l:List ByteArray):NamesTo l 0:=λi _ h=>by omega
theorem PartTo.zero (l all:List ByteArray):PartTo l all 0:=λi _ h=>by omega
theorem AscTo.step {l:List ByteArray} {k:Nat} (h:AscTo l (k+1)) (hk:k+1<l.length) (hl:ltS l[k] l[k+1]=true):AscTo l (k+2):=λi a b hi ha hb=>by
 by_cases e:i=k
 ·subst e
  rw[A0 (by omega)] at ha hb;obtain rfl:=A5 ha;obtain rfl:=A5 hb;exact hl
 ·exact h i a b (by omega) ha hb
theorem NamesTo.step {l:List ByteArray} {k:Nat} (h:NamesTo l k) (hk:k<l.length) (hl:nameB l[k]=true):NamesTo l (k+1):=λi a hi ha=>by
 by_cases e:i=k
 ·subst e
  rw[A0 hk] at ha;obtain rfl:=A5 ha;exact hl
 ·exact h i a (by omega) ha
theorem PartTo.step {l all:List ByteArray} {k:Nat} (h:PartTo l all k) (hk:k<l.length) (hl:memS all l[k]=true):PartTo l all (k+1):=λi a hi ha=>by
 by_cases e:i=k
 ·subst e
  rw[A0 hk] at ha;obtain rfl:=A5 ha;exact hl
 ·exact h i a (by omega) ha
theorem AcS {l:List ByteArray} {k:Nat} (h:AscTo l k) (hk:¬k<l.length):Asc l:=λi a b hi ha hb=>h i a b (by omega) ha hb
theorem Acy {l:List ByteArray} {k:Nat} (h:NamesTo l k) (hk:¬k<l.length):Names l:=λi a hi ha=>h i a (by omega) ha
theorem Adw {l all:List ByteArray} {k:Nat} (h:PartTo l all k) (hk:¬k<l.length):Part l all:=λi a hi ha=>h i a (by omega) ha
theorem AfF {l:List ByteArray} (h:Asc l) {k:Nat} (hk:k+1<l.length):ltS l[k] l[k+1]=true:=h k _ _ hk (by rw[A0]) (by rw[A0])
theorem AfG {l:List ByteArray} (h:Names l) {k:Nat} (hk:k<l.length):nameB l[k]=true:=h k _ hk (by rw[A0])
theorem AcT {l all:List ByteArray} (h:Part l all) {k:Nat} (hk:k<l.length):memS all l[k]=true:=h k _ hk (by rw[A0])
theorem AbE {l all:List ByteArray} (h:Part l all) {s:ByteArray} (hs:s∈l):s∈all:=by
 obtain⟨i,hi,rfl⟩:=B5 hs;exact (J8 _ _).1 (AcT h hi)
def BaOk (things:List ByteArray) (x:Ba):Prop:=PartOk x.needs things/\PartOk x.has x.needs
def BasTo (things:List ByteArray) (bs:List Ba) (k:Nat):Prop:=∀(i:Nat) (x:Ba),i<k->bs[i]?=some x->BaOk things x
def ApartTo (bs:List Ba) (n m:Nat):Prop:=∀(i j:Nat) (x y:Ba),j<i->(i<n∨i=n/\j<m)->bs[i]?=some x->bs[j]?=some y->shareB x.has y.has=false
def nms (bs:List Ba):List ByteArray:=bs.map (·.nm)
def Apart (bs:List Ba):Prop:=ApartTo bs bs.length 0
def BookOk (b:Bk):Prop:=ThingsOk b.things/\b.bs.length<=5/\Names (nms b.bs)/\Asc (nms b.bs)/\BasTo b.things b.bs b.bs.length/\Apart b.bs
noncomputable def bookB (b:Bk):Bool:=pB (BookOk b)
theorem I0 (bs:List Ba):(nms bs).length=bs.length:=by simp[nms]
theorem Q8 (bs:List Ba) (k:Nat) (hk:k<bs.length):(nms bs)[k]'(by rw[I0];exact hk)=(bs[k]).nm:=by simp[nms]
theorem AfH (bs:List Ba) (k:Nat):nms (bs.take k)=(nms bs).take k:=by simp[nms]
theorem BasTo.zero (things:List ByteArray) (bs:List Ba):BasTo things bs 0:=λi _ h=>by omega
theorem BasTo.step {things:List ByteArray} {bs:List Ba} {k:Nat} (h:BasTo things bs k) (hk:k<bs.length) (hl:BaOk things bs[k]):BasTo things bs (k+1):=λi a hi ha=>by
 by_cases e:i=k
 ·subst e
  rw[A0 hk] at ha;obtain rfl:=A5 ha;exact hl
 ·exact h i a (by omega) ha
theorem BasTo.at {things:List ByteArray} {bs:List Ba} {n k:Nat} (h:BasTo things bs n) (hn:k<n) (hk:k<bs.length):BaOk things bs[k]:=h k _ hn (by rw[A0])
theorem AhU {things:List ByteArray} {bs:List Ba} {k:Nat} (h:BasTo things bs k) (hk:¬k<bs.length):BasTo things bs bs.length:=λi a hi ha=>h i a (by omega) ha
theorem ApartTo.zero (bs:List Ba):ApartTo bs 0 0:=λi j _ _ _ h=>by omega
theorem ApartTo.step {bs:List Ba} {n m:Nat} (h:ApartTo bs n m) (hn:n<bs.length) (hm:m<n) (hq:shareB (bs[n]).has (bs[m]).has=false):ApartTo bs n (m+1):=λi j x y hji hi hx hy=>by
 by_cases e:i=n/\j=m
 ·obtain⟨rfl,rfl⟩:=e
  rw[A0 (by omega)] at hx hy;obtain rfl:=A5 hx;obtain rfl:=A5 hy;exact hq
 ·exact h i j x y hji (by omega) hx hy
theorem ApartTo.next {bs:List Ba} {n m:Nat} (h:ApartTo bs n m) (hm:¬m<n):ApartTo bs (n+1) 0:=λi j x y hji hi hx hy=>h i j x y hji (by omega) hx hy
theorem AjQ {bs:List Ba} {n:Nat} (h:ApartTo bs n 0) (hn:¬n<bs.length):Apart bs:=λi j x y hji hi hx hy=>h i j x y hji (by
 have:=(A2.1 hx).1;omega) hx hy
theorem Apart.at {bs:List Ba} (h:Apart bs) {n m:Nat} (hn:n<bs.length) (hm:m<n):shareB (bs[n]).has (bs[m]).has=false:=h n m _ _ hm (by omega) (by rw[A0]) (by rw[A0])
def whoB (bs:List Ba) (s:ByteArray):ByteArray:=((bs.find? λx=>memS x.has s).map (·.nm)).getD ⟨#[]⟩
noncomputable def whoS (b:Bk) (s:ByteArray):ByteArray:=if bookB b=true then whoB b.bs s else ⟨#[]⟩
def FreeTo (bs:List Ba) (s:ByteArray) (k:Nat):Prop:=∀(i:Nat) (x:Ba),i<k->bs[i]?=some x->memS x.has s=false
theorem AhV {bs:List Ba} {s:ByteArray} {k:Nat} (hk:k<bs.length) (h:FreeTo bs s k) (hl:memS (bs[k]).has s=true):whoB bs s=(bs[k]).nm:=by
 have:bs.find? (λx=>memS x.has s)=some bs[k]:=by
  rw[List.find?_eq_some_iff_getElem];exact⟨hl,k,hk,rfl,λj hj=>by rw[h j _ hj (by rw[A0 (by omega)])];rfl⟩
 rw[whoB,this];rfl
theorem AjR {bs:List Ba} {s:ByteArray} {k:Nat} (hk:¬k<bs.length) (h:FreeTo bs s k):whoB bs s=⟨#[]⟩:=by
 have:bs.find? (λx=>memS x.has s)=none:=by
  rw[List.find?_eq_none];intro x hx;obtain⟨i,hi,rfl⟩:=B5 hx;rw[h i _ (by omega) (by rw[A0])];simp
 rw[whoB,this];rfl
def idxI (l:List ByteArray) (s:ByteArray):Int:=if memS l s=true then (l.findIdx λx=>x.toList==s.toList:Nat) else -1
theorem U0 {l:List ByteArray} {s:ByteArray} {k:Nat} (hk:k<l.length) (h:memS (l.take k) s=false) (hq:((l[k]).toList==s.toList)=true):idxI l s=(k:Int):=by
 have hf:l.findIdx (λx=>x.toList==s.toList)=k:=by
  rw[List.findIdx_eq hk];refine⟨hq,λj hj=>?_⟩;rw[memS,List.any_eq_false] at h;have:=h (l[j]) (by rw[List.mem_take_iff_getElem];exact⟨j,by omega,rfl⟩);simpa using this
 rw[idxI,if_pos (AbD hk hq),hf]
theorem R3 {l:List ByteArray} {s:ByteArray} (h:memS l s=false):idxI l s=-1:=by rw[idxI,h];simp
theorem Adx (l:List ByteArray) (s:ByteArray):decide (0<=idxI l s)=memS l s:=by
 cases h:memS l s
 ·rw[R3 h];rfl
 ·rw[idxI,if_pos h];simp
theorem AbF (a b:List UInt8):(a==b)=(b==a):=by
 rw[Bool.eq_iff_iff,beq_iff_eq,beq_iff_eq];exact eq_comm
end Go.Proofs.YtgecdacgmehmbaaGreatDoor
namespace Go.Proofs.YtgecdacgmehmbaaGreatDoor
open Go.RowKit
def Ls (w:World) (v:Value) (ss:List ByteArray):Prop :=
 ∃a c,v=.slice a ss.length c/\ss.length<=maxLen/\(∀s∈ss,s.size<=maxLen)/\(0<ss.length->∃b o,a=some ⟨b,o,none⟩/\StrsAt w b o ss/\b<w.heap.size)
theorem StrsAt.up {w w':World} {g o:Nat} {ss:List ByteArray} (h:StrsAt w g o ss) (hb:Below w.heap.size w w') (hg:g<w.heap.size):StrsAt w' g o ss :=
 λi s hs=>(hb.cell (p:=⟨g,o+i,none⟩) hg).trans (h i s hs)
theorem StrsAt.cell {w:World} {g o:Nat} {ss:List ByteArray} (h:StrsAt w g o ss) {k:Nat} (hk:k<ss.length):w.cell? ⟨g,o+k,none⟩=some (.string ss[k]):=h k _ (by rw[A0])
theorem Ls.up {w w':World} {v:Value} {ss:List ByteArray} (h:Ls w v ss) (hb:Below w.heap.size w w'):Ls w' v ss:=by
 obtain⟨a,c,rfl,h1,h2,h3⟩:=h;refine⟨a,c,rfl,h1,h2,λhp=>?_⟩;obtain⟨b,o,rfl,hS,hlt⟩:=h3 hp;exact⟨b,o,rfl,hS.up hb hlt,A1 hlt hb.size⟩
theorem Ls.inv {w:World} {a:Option Addr} {n c:Nat} {ss:List ByteArray} (h:Ls w (.slice a n c) ss):ss.length<=maxLen/\(∀s∈ss,s.size<=maxLen)/\(0<ss.length->∃b o,a=some ⟨b,o,none⟩/\StrsAt w b o ss/\b<w.heap.size):=by
 obtain⟨a',c',e,h1⟩:=h;obtain⟨rfl,-,rfl⟩:=Value.slice.inj e;exact h1
theorem Ls.drewN {w:World} {v:Value} {ss:List ByteArray} (h:Ls w v ss) {n:Nat}:Ls (w.drewN n) v ss:=h
theorem Ls.nil (w:World) (a:Option Addr) (c:Nat):Ls w (.slice a 0 c) []:=⟨a,c,rfl,by simp,λs hs=>by simp at hs,λh=>by simp at h⟩
theorem Lst.ls {w:World} {v:Value} {ss:List ByteArray} (h:Lst w v ss) (hz:∀s∈ss,s.size<=maxLen):Ls w v ss:=by
 rcases h with⟨rfl,rfl⟩|⟨g,c,rfl,hS,hg,h1,h2⟩
 ·exact Ls.nil _ _ _
 ·exact⟨_,c,rfl,by omega,hz,λ_=>⟨g,0,rfl,hS,hg⟩⟩
def BaAt (w:World) (b o:Nat) (x:Ba):Prop:=∃hv nv,w.rangeAt b o [.string x.nm,hv,nv]/\Ls w hv x.has/\Ls w nv x.needs/\x.nm.size<=maxLen
theorem BaAt.up {w w':World} {b o:Nat} {x:Ba} (h:BaAt w b o x) (hb:Below w.heap.size w w') (hlt:b<w.heap.size):BaAt w' b o x:=by
 obtain⟨hv,nv,hr,h1,h2,h3⟩:=h;exact⟨hv,nv,λj v hv=>(hb.cell (p:=⟨b,o+j,none⟩) hlt).trans (hr j v hv),h1.up hb,h2.up hb,h3⟩
def BsAt (w:World) (b o:Nat) (bs:List Ba):Prop:=∀(i:Nat) (x:Ba),bs[i]?=some x->BaAt w b (o+i*3) x
theorem BsAt.up {w w':World} {b o:Nat} {bs:List Ba} (h:BsAt w b o bs) (hb:Below w.heap.size w w') (hlt:b<w.heap.size):BsAt w' b o bs:=λi x hx=>(h i x hx).up hb hlt
theorem BsAt.at {w:World} {b o:Nat} {bs:List Ba} (h:BsAt w b o bs) {k:Nat} (hk:k<bs.length):BaAt w b (o+k*3) bs[k]:=h k _ (by rw[A0])
theorem BaAt.cells {w:World} {b o:Nat} {x:Ba} (h:BaAt w b o x):∃a1 c1 a2 c2,w.cell? ⟨b,o,none⟩=some (.string x.nm)/\w.cell? ⟨b,o+1,none⟩=some (.slice a1 x.has.length c1)/\w.cell? ⟨b,o+2,none⟩=some (.slice a2 x.needs.length c2)/\
  Ls w (.slice a1 x.has.length c1) x.has/\Ls w (.slice a2 x.needs.length c2) x.needs/\x.nm.size<=maxLen:=by
 obtain⟨hv,nv,hr,h1,h2,h3⟩:=h;obtain⟨a1,c1,rfl,-⟩:=id h1;obtain⟨a2,c2,rfl,-⟩:=id h2;exact⟨a1,c1,a2,c2,hr 0 _ rfl,hr 1 _ rfl,hr 2 _ rfl,h1,h2,h3⟩
def Bs (w:World) (v:Value) (bs:List Ba):Prop:=∃a c,v=.slice a bs.length c/\bs.length<=maxLen/\(0<bs.length->∃b o,a=some ⟨b,o,none⟩/\BsAt w b o bs/\b<w.heap.size)
theorem Bs.up {w w':World} {v:Value} {bs:List Ba} (h:Bs w v bs) (hb:Below w.heap.size w w'):Bs w' v bs:=by
 obtain⟨a,c,rfl,h1,h3⟩:=h;refine⟨a,c,rfl,h1,λhp=>?_⟩;obtain⟨b,o,rfl,hS,hlt⟩:=h3 hp;exact⟨b,o,rfl,hS.up hb hlt,A1 hlt hb.size⟩
def BkV (w:World) (v:Value) (b:Bk):Prop:=∃tv bv,v=.agg #[tv,bv]/\Ls w tv b.things/\Bs w bv b.bs
theorem BkV.up {w w':World} {v:Value} {b:Bk} (h:BkV w v b) (hb:Below w.heap.size w w'):BkV w' v b:=by
 obtain⟨tv,bv,rfl,h1,h2⟩:=h;exact⟨tv,bv,rfl,h1.up hb,h2.up hb⟩
theorem BkV.parts {w:World} {v:Value} {b:Bk} (h:BkV w v b):∃a1 c1 a2 c2,v=.agg #[.slice a1 b.things.length c1,.slice a2 b.bs.length c2]/\Ls w (.slice a1 b.things.length c1) b.things/\Bs w (.slice a2 b.bs.length c2) b.bs:=by
 obtain⟨tv,bv,rfl,h1,h2⟩:=h;obtain⟨a1,c1,rfl,-⟩:=id h1;obtain⟨a2,c2,rfl,-⟩:=id h2;exact⟨a1,c1,a2,c2,rfl,h1,h2⟩
theorem CB.c2' {w:World} {b:Nat} {x0 x1:Value} (h:CB w b [x0,x1]):w.cell? ⟨b,0,none⟩=some x0/\w.cell? ⟨b,1,none⟩=some x1:=h.c2.1
theorem Bs.at {w:World} {a:Option Addr} {n c:Nat} {bs:List Ba} (h:Bs w (.slice a n c) bs):bs.length<=maxLen/\(0<bs.length->∃b o,a=some ⟨b,o,none⟩/\BsAt w b o bs/\b<w.heap.size):=by
 obtain⟨a',c',e,h1⟩:=h;obtain⟨rfl,-,rfl⟩:=Value.slice.inj e;exact h1
theorem M6 (s:ByteArray) (w:World) (hs:s.size<=maxLen) :
  Calls Tryz.prog 144 #[.string s] w λe w'=>e=.returned (.bool (nameB s))/\Below w.heap.size w w':=by
 unfold maxLen at hs;by_cases h1:1<=s.size
 case neg =>
  go_enter Tryz.func144,Tryz.ntmps144
  go_wp2
  go_ret
  exact⟨D6 (by simp[nameB,h1]),A4 _ _⟩
 by_cases h2:s.size<=8
 case neg =>
  go_enter Tryz.func144,Tryz.ntmps144
  go_wp2
  go_ret
  exact⟨D6 (by simp[nameB,h2]),A4 _ _⟩
 have hn:Hid (nameB s=allB s.data.toList):=by show nameB s=_;simp[nameB,h1,h2]
 go_enter Tryz.func144,Tryz.ntmps144
 go_wp2_with fail
 go_loopw [4] (λ_ w'=>∃pos:Nat,w'=w.iter s pos/\pos<=s.size/\allB (s.data.toList.take pos)=true) (λ_ w'=>s.size-w'.iterPos w.heap.size)
 case atStart=>exact⟨0,rfl,by omega,rfl⟩
 case round =>
  obtain⟨pos,rfl,hle,hal⟩:=hrel;have Hal:Hid (allB (s.data.toList.take pos)=true):=hal;clear hal;by_cases hp:pos<s.size
  ·have hnx:∀ty,(Instr.next (.pointer (some ⟨w.heap.size,0,none⟩)) true ty).run Tryz.prog (w.iter s pos)=_:=λty=>run_next_any w s pos ty hp
   by_cases ha:(s[pos]'hp).toNat<128
   ·rw[decode_ascii s pos hp ha] at hnx
    by_cases hb:nbB (s[pos]'hp).toNat=true
    ·have Hb:Hid (nbB (s[pos]'hp).toNat=true):=hb
     go_wp2_with (go_at_call 167;refine (Aam _ _).mono ?_;rintro e w' ⟨rfl,rfl⟩)
     go_roundw
     case rel=>exact⟨pos+1,rfl,by omega,by rw[AaZ s pos hp,Hal.out,Hb.out];rfl⟩
     case measure=>simp;omega
    ·have hb':nbB (s[pos]'hp).toNat=false:=by simpa using hb
     have Hb:Hid (nbB (s[pos]'hp).toNat=false):=hb';clear hb;go_wp2_with (go_at_call 167;refine (Aam _ _).mono ?_;rintro e w' ⟨rfl,rfl⟩)
     go_ret
     exact⟨D6 (by rw[hn.out,AaF s pos hp Hb.out]),AaG _ _ _⟩
   ·have hi:=decode_high s pos hp (by omega)
    have hb':nbB (Utf8.decode s pos).1=false:=Ab9 _ hi.1;have Hb:Hid (nbB (s[pos]'hp).toNat=false):=Ab9 _ (by omega);clear hi;go_wp2_with (go_at_call 167;refine (Aam _ _).mono ?_;rintro e w' ⟨rfl,rfl⟩)
    go_ret
    exact⟨D6 (by rw[hn.out,AaF s pos hp Hb.out]),AaG _ _ _⟩
  ·have hnx:∀ty,(Instr.next (.pointer (some ⟨w.heap.size,0,none⟩)) true ty).run Tryz.prog (w.iter s pos)=_:=λty=>run_next_end w s pos ty hp
   go_wp2
   go_ret
   exact⟨D6 (by rw[hn.out,AbA s pos hp Hal.out]),AaG _ _ _⟩
end Go.Proofs.YtgecdacgmehmbaaGreatDoor
namespace Go.Proofs.YtgecdacgmehmbaaGreatDoor
open Go.Maps
theorem bl_eq:∀(x y:List UInt8),Op.bytesLess x y=decide (x<y)
 | [],[]=>by simp[Op.bytesLess]
 | _::_,[]=>by simp[Op.bytesLess]
 | [],_::_=>by simp[Op.bytesLess]
 | a::x,b::y=>by
  rw[Op.bytesLess,bl_eq x y];simp only[List.cons_lt_cons_iff];by_cases h1:a<b<;>by_cases h2:a=b<;>by_cases h3:x<y<;>simp[h1,h2,h3]
theorem Ae3 (a b:ByteArray):ltS a b=true↔a.toList<b.toList:=by rw[ltS,bl_eq];simp
theorem Aaz {a b c:ByteArray} (h:ltS a b=true) (k:ltS b c=true):ltS a c=true:=by
 rw[Ae3] at *;exact List.lt_trans h k
theorem O5 (a:ByteArray):ltS a a=false:=by
 rw[← Bool.not_eq_true,Ae3];exact List.lt_irrefl _
theorem R9 {l:List ByteArray} (h:Asc l):∀(d i:Nat) (a b:ByteArray),l[i]?=some a->l[i+1+d]?=some b->ltS a b=true
 | 0,i,a,b,ha,hb=>h i a b (A2.1 hb).1 ha hb
 | d+1,i,a,b,ha,hb=>by
  have hl:i+1+(d+1)<l.length:=(A2.1 hb).1;have hm:l[i+1]?=some l[i+1]:=A0 (by omega);exact Aaz (h i a _ (by omega) ha hm) (R9 h d (i+1) _ b hm (by rw[show i+1+1+d=i+1+(d+1) by omega];exact hb))
theorem Abx {l:List ByteArray} (h:Asc l) {i j:Nat} {a:ByteArray} (hi:l[i]?=some a) (hj:l[j]?=some a):i=j:=by
 rcases Nat.lt_trichotomy i j with h1|h1|h1
 ·have:=R9 h (j-i-1) i a a hi (by rw[show i+1+(j-i-1)=j by omega];exact hj)
  rw[O5] at this;cases this
 ·exact h1
 ·have:=R9 h (i-j-1) j a a hj (by rw[show j+1+(i-j-1)=i by omega];exact hi)
  rw[O5] at this;cases this
theorem AfI:∀(l m:List ByteArray),(∀(i j:Nat) (a:ByteArray),l[i]?=some a->l[j]?=some a->i=j)->(∀s∈l,s∈m)->l.length<=m.length
 | [],m,_,_=>by simp
 | x::r,m,hd,hs=>by
  have hx:x∈m:=hs x (by simp);obtain⟨m1,m2,rfl⟩:=List.append_of_mem hx
  have:=AfI r (m1++m2) (λi j a hi hj=>by
   have:=hd (i+1) (j+1) a (by simpa using hi) (by simpa using hj);omega) (λs h=>by
   have h1:=hs s (by simp[h]);rcases D0.1 h1 with h2|h2
   ·simp[h2]
   ·rcases List.mem_cons.1 h2 with h3|h3
    ·subst h3
     obtain⟨i,hi,e⟩:=B5 h;have:=hd 0 (i+1) s (by simp) (by simp[A0 hi,e]);omega
    ·simp[h3])
  simp at this ⊢;omega
theorem L5 {l all:List ByteArray} (h:PartOk l all):l.length<=all.length:=AfI l all (λ_ _ _ hi hj=>Abx h.2 hi hj) (λ_ hs=>AbE h.1 hs)
def kl (s:ByteArray):Lit:=.string s.data.toList
theorem AjS {a b:ByteArray} (h:kl a=kl b):a=b:=by
 simp only[kl,Lit.string.injEq] at h;cases a;cases b;simp at h;rw[h]
theorem AfJ (s:ByteArray):WideAt.IsKeyLit (kl s):=trivial
def HadBy (bs:List Ba) (k m:Nat) (s:ByteArray) (i:Nat):Prop:=∃x,bs[i]?=some x/\(i<k/\s∈x.has∨i=k/\s∈x.has.take m)
def HoldD (D:DataW Unit) (bs:List Ba) (k m:Nat):Prop:=IsMap D/\(∀s,Maps.has D (kl s)=true->∃i,HadBy bs k m s i)/\(∀s i,HadBy bs k m s i->Maps.has D (kl s)=true/\∀z,D.atKey (kl s) z=.lit (.int .i64 (i:Int)))
theorem HoldD.start (bs:List Ba):HoldD (.map []) bs 0 0:=by
 refine⟨isMap_empty,λs h=>by simp[Maps.has] at h,λs i h=>?_⟩;obtain⟨x,_,h|h⟩:=h
 ·omega
 ·simp at h
theorem HadBy.up {bs:List Ba} {k m i:Nat} {s:ByteArray} (h:HadBy bs k m s i):HadBy bs k (m+1) s i:=by
 obtain⟨x,hx,h|⟨h1,h2⟩⟩:=h
 ·exact⟨x,hx,.inl h⟩
 ·refine⟨x,hx,.inr ⟨h1,?_⟩⟩
  rw[List.mem_take_iff_getElem] at h2 ⊢
  obtain⟨j,hj,e⟩:=h2;exact⟨j,by omega,e⟩
theorem HadBy.new {bs:List Ba} {k m:Nat} (hk:k<bs.length) (hm:m<(bs[k]).has.length):HadBy bs k (m+1) ((bs[k]).has[m]) k :=
 ⟨bs[k],A0 hk,.inr ⟨rfl,by rw[List.mem_take_iff_getElem];exact⟨m,by omega,rfl⟩⟩⟩
theorem HadBy.split {bs:List Ba} {k m i:Nat} {s:ByteArray} (hk:k<bs.length) (hm:m<(bs[k]).has.length) (h:HadBy bs k (m+1) s i):HadBy bs k m s i∨(i=k/\s=(bs[k]).has[m]):=by
 obtain⟨x,hx,h|⟨rfl,h2⟩⟩:=h
 ·exact .inl ⟨x,hx,.inl h⟩
 ·rw[A0 hk] at hx
  obtain rfl:=A5 hx;rw[A7 hm] at h2;rcases D0.1 h2 with h3|h3
  ·exact .inl ⟨_,A0 hk,.inr ⟨rfl,h3⟩⟩
  ·exact .inr ⟨rfl,by simpa using h3⟩
theorem HoldD.step {D:DataW Unit} {bs:List Ba} {k m:Nat} (h:HoldD D bs k m) (hk:k<bs.length) (hm:m<(bs[k]).has.length) (hn:Maps.has D (kl ((bs[k]).has[m]))=false) :
  HoldD (D.put (kl ((bs[k]).has[m])) (.lit (.int .i64 (k:Int)))) bs k (m+1):=by
 obtain⟨h1,h2,h3⟩:=h;refine⟨h1.put _ _,λs hs=>?_,λs i hi=>?_⟩
 ·by_cases e:kl s=kl ((bs[k]).has[m])
  ·obtain rfl:=AjS e
   exact⟨k,HadBy.new hk hm⟩
  ·rw[has_put_other e] at hs
   obtain⟨i,hi⟩:=h2 s hs;exact⟨i,hi.up⟩
 ·rcases hi.split hk hm with h4|⟨rfl,rfl⟩
  ·have e:kl s≠kl ((bs[k]).has[m]):=λe=>by
    have:=(h3 s i h4).1;rw[e,hn] at this;cases this
   exact⟨by rw[has_put_other e];exact (h3 s i h4).1,λz=>by rw[atKey_put_other e];exact (h3 s i h4).2 z⟩
  ·exact⟨has_put_same h1 (AfJ _) _,λz=>atKey_put_same h1 (AfJ _) _ z⟩
theorem HadBy.next {bs:List Ba} {k m i:Nat} {s:ByteArray} (hk:k<bs.length) (hm:¬m<(bs[k]).has.length):HadBy bs k m s i↔HadBy bs (k+1) 0 s i:=by
 constructor
 ·rintro⟨x,hx,h|⟨rfl,h2⟩⟩
  ·exact⟨x,hx,.inl ⟨by omega,h.2⟩⟩
  ·exact⟨x,hx,.inl ⟨by omega,List.mem_of_mem_take h2⟩⟩
 ·rintro⟨x,hx,h|⟨_,h2⟩⟩
  ·by_cases e:i=k
   ·subst e
    rw[A0 hk] at hx;obtain rfl:=A5 hx;exact⟨_,A0 hk,.inr ⟨rfl,by rw[D2 (by omega)];exact h.2⟩⟩
   ·exact⟨x,hx,.inl ⟨by omega,h.2⟩⟩
  ·simp at h2
theorem HoldD.next {D:DataW Unit} {bs:List Ba} {k m:Nat} (h:HoldD D bs k m) (hk:k<bs.length) (hm:¬m<(bs[k]).has.length):HoldD D bs (k+1) 0 :=
 ⟨h.1,λs hs=>by obtain⟨i,hi⟩:=h.2.1 s hs;exact⟨i,(HadBy.next hk hm).1 hi⟩,λs i hi=>h.2.2 s i ((HadBy.next hk hm).2 hi)⟩
theorem HoldD.twice {D:DataW Unit} {bs:List Ba} {k m:Nat} (h:HoldD D bs k m) (hk:k<bs.length) (hm:m<(bs[k]).has.length) (hd:Asc (bs[k]).has) (hn:Maps.has D (kl ((bs[k]).has[m]))=true):¬Apart bs:=λha=>by
 obtain⟨i,x,hx,h4|⟨rfl,h4⟩⟩:=h.2.1 _ hn
 ·have hi:i<bs.length:=(A2.1 hx).1
  have:=ha.at hk h4.1;rw[N8] at this;rw[A0 hi] at hx;obtain rfl:=A5 hx;exact this _ (List.getElem_mem hm) h4.2
 ·rw[A0 hk] at hx
  obtain rfl:=A5 hx;rw[List.mem_take_iff_getElem] at h4;obtain⟨j,hj,e⟩:=h4;have:=Abx hd (i:=j) (j:=m) (A0 (by omega)) (by rw[e];exact A0 hm);omega
theorem HoldD.apart {D:DataW Unit} {bs:List Ba} {k:Nat} (h:HoldD D bs k 0) (hk:¬k<bs.length):Apart bs:=λi j x y hji hi hx hy=>by
 have li:=(A2.1 hx).1;have lj:=(A2.1 hy).1;rw[N8];intro s h1 h2;have e1:=(h.2.2 s i ⟨x,hx,.inl ⟨by omega,h1⟩⟩).2 .nil;have e2:=(h.2.2 s j ⟨y,hy,.inl ⟨by omega,h2⟩⟩).2 .nil;rw[e1] at e2;simp at e2;omega
theorem HoldD.who {D:DataW Unit} {bs:List Ba} {k:Nat} (h:HoldD D bs k 0) {s:ByteArray} (hs:Maps.has D (kl s)=true):∃(i:Nat) (hi:i<bs.length),(∀z,D.atKey (kl s) z=.lit (.int .i64 (i:Int)))/\whoB bs s=(bs[i]).nm:=by
 obtain⟨i,hi⟩:=h.2.1 s hs;have hz:=(h.2.2 s i hi).2;obtain⟨x,hx,h4|⟨_,h4⟩⟩:=hi
 ·have li:=(A2.1 hx).1
  refine⟨i,li,hz,AhV li (λj y hj hy=>?_) ?_⟩
  ·rw[S3]
   intro h5;have:=(h.2.2 s j ⟨y,hy,.inl ⟨by omega,h5⟩⟩).2 .nil;rw[hz] at this;simp at this;omega
  ·rw[J8]
   rw[A0 li] at hx;obtain rfl:=A5 hx;exact h4.2
 ·simp at h4
theorem HoldD.whoNone {D:DataW Unit} {bs:List Ba} {k:Nat} (h:HoldD D bs k 0) (hk:¬k<bs.length) {s:ByteArray} (hs:Maps.has D (kl s)=false):whoB bs s=⟨#[]⟩ :=
 AjR hk λi x hi hx=>by
  rw[S3];intro h5;have:=(h.2.2 s i ⟨x,hx,.inl ⟨hi,h5⟩⟩).1;rw[hs] at this;cases this
end Go.Proofs.YtgecdacgmehmbaaGreatDoor
namespace Go.Proofs.YtgecdacgmehmbaaGreatDoor
open Go.RowKit
def LsO (w:World) (base:Nat) (v:Value) (ss:List ByteArray):Prop:=∃b,v=.slice (some ⟨b,0,none⟩) ss.length ss.length/\StrsAt w b 0 ss/\w.there b 0 ss.length/\base<=b/\b<w.heap.size/\ss.length<=maxLen/\∀s∈ss,s.size<=maxLen
theorem LsO.ls {w:World} {base:Nat} {v:Value} {ss:List ByteArray} (h:LsO w base v ss):Ls w v ss:=by
 obtain⟨b,rfl,h1,-,-,h2,h3,h4⟩:=h;exact⟨_,_,rfl,h3,h4,λ_=>⟨b,0,rfl,h1,h2⟩⟩
theorem LsO.up {w w':World} {base:Nat} {v:Value} {ss:List ByteArray} (h:LsO w base v ss) (hb:Below w.heap.size w w'):LsO w' base v ss:=by
 obtain⟨b,rfl,h1,ht,h0,h2,h3⟩:=h;exact⟨b,rfl,h1.up hb h2,I3 ht hb h2,h0,A1 h2 hb.size,h3⟩
theorem AdQ {w w':World} {b o n:Nat} {r:Option Nat} (h:w.there b o n) (hg:w.grownBy w' r) (hb:b<w.heap.size) (hne:some b≠r):w'.there b o n:=λj hj=>by
 have hk:=hg.block b hb hne;rw[C0 (w:=w) (a:=⟨b,o+j,none⟩) hk,World.frozen?_of_block (w:=w) (a:=⟨b,o+j,none⟩) hk];exact h j hj
theorem LsO.kept {w w':World} {base r:Nat} {v:Value} {ss:List ByteArray} (h:LsO w base v ss) (hg:w.grownBy w' (some r)) (hr:r<base):LsO w' base v ss:=by
 obtain⟨b,rfl,h1,ht,h0,h2,h3⟩:=h;exact⟨b,rfl,λi s hs=>hg.cell (h1 i s hs) (by simp;omega),AdQ ht hg h2 (by simp;omega),h0,A1 h2 hg.size,h3⟩
theorem LsO.low {w:World} {base base':Nat} {v:Value} {ss:List ByteArray} (h:LsO w base v ss) (hb:base'<=base):LsO w base' v ss:=by
 obtain⟨b,rfl,h1,ht,h0,h2⟩:=h;exact⟨b,rfl,h1,ht,by omega,h2⟩
def BaO (w:World) (b o:Nat) (x:Ba):Prop:=∃hv nv,w.rangeAt b o [.string x.nm,hv,nv]/\LsO w (b+1) hv x.has/\LsO w (b+1) nv x.needs/\x.nm.size<=maxLen
theorem BaO.up {w w':World} {b o:Nat} {x:Ba} (h:BaO w b o x) (hb:Below w.heap.size w w') (hlt:b<w.heap.size):BaO w' b o x:=by
 obtain⟨hv,nv,hr,h1,h2,h3⟩:=h;exact⟨hv,nv,λj v hv=>(hb.cell (p:=⟨b,o+j,none⟩) hlt).trans (hr j v hv),h1.up hb,h2.up hb,h3⟩
theorem BaO.at {w:World} {b o:Nat} {x:Ba} (h:BaO w b o x):BaAt w b o x:=by
 obtain⟨hv,nv,hr,h1,h2,h3⟩:=h;exact⟨hv,nv,hr,h1.ls,h2.ls,h3⟩
def BsOAt (w:World) (b:Nat) (bs:List Ba):Prop:=∀(i:Nat) (x:Ba),bs[i]?=some x->BaO w b (i*3) x
theorem BsOAt.up {w w':World} {b:Nat} {bs:List Ba} (h:BsOAt w b bs) (hb:Below w.heap.size w w') (hlt:b<w.heap.size):BsOAt w' b bs:=λi x hx=>(h i x hx).up hb hlt
theorem AjT {w1:World} {b k:Nat} {bs:List Ba} {hv nv:Value} (hk:k<bs.length) (h:BsOAt w1 b (bs.take k)) (ht:w1.there b 0 (bs.length*3)) (h1:LsO w1 (b+1) hv (bs[k]).has) (h2:LsO w1 (b+1) nv (bs[k]).needs) (h3:(bs[k]).nm.size<=maxLen) :
  BsOAt (w1.setCells b (k*3) [.string (bs[k]).nm,hv,nv]) b (bs.take (k+1)):=by
 have hg:w1.grownBy (w1.setCells b (k*3) [.string (bs[k]).nm,hv,nv]) (some b):=Acw b _ _ w1 w1 (some b) (World.grownBy.refl' w1) rfl;intro i p hp;by_cases hi:i<k
 ·obtain⟨hv',nv',hr,g1,g2,g3⟩:=h i p (by rw[List.getElem?_take] at hp ⊢;rw[if_pos (by omega)] at hp;rw[if_pos hi];exact hp)
  refine⟨hv',nv',World.rangeAt_setCells_apart hr b (k*3) _ (.inr (.inl ?_)),g1.kept hg (by omega),g2.kept hg (by omega),g3⟩;simp;omega
 ·have hik:i=k:=by
   rw[List.getElem?_take] at hp;split at hp
   ·omega
   ·cases hp
  subst hik;rw[List.getElem?_take,if_pos (by omega),A0 hk] at hp;obtain rfl:=A5 hp;refine⟨hv,nv,World.rangeAt_setCells_same _ _ _ _ (λj hj=>?_),h1.kept hg (by omega),h2.kept hg (by omega),h3⟩;have:=ht (i*3+j) (by simp at hj;omega);simpa using this
def BsO (w:World) (base:Nat) (v:Value) (bs:List Ba):Prop:=∃b,v=.slice (some ⟨b,0,none⟩) bs.length bs.length/\BsOAt w b bs/\w.there b 0 (bs.length*3)/\base<=b/\b<w.heap.size/\bs.length<=maxLen
theorem BsO.bs {w:World} {base:Nat} {v:Value} {bs:List Ba} (h:BsO w base v bs):Bs w v bs:=by
 obtain⟨b,rfl,h1,-,-,h2,h3⟩:=h;exact⟨_,_,rfl,h3,λ_=>⟨b,0,rfl,λi x hx=>by rw[Nat.zero_add];exact (h1 i x hx).at,h2⟩⟩
theorem BsO.up {w w':World} {base:Nat} {v:Value} {bs:List Ba} (h:BsO w base v bs) (hb:Below w.heap.size w w'):BsO w' base v bs:=by
 obtain⟨b,rfl,h1,ht,h0,h2,h3⟩:=h;exact⟨b,rfl,h1.up hb h2,I3 ht hb h2,h0,A1 h2 hb.size,h3⟩
def BkO (w:World) (base:Nat) (v:Value) (b:Bk):Prop:=∃tv bv mid,v=.agg #[tv,bv]/\LsO w base tv b.things/\BsO w mid bv b.bs/\base<=mid/\∀g,tv.ownBlock=some g->g<mid
theorem O6 {P:Program} {w:World} (base:Nat) (t ty e:TypeId) (i:TypeInfo) (size:Nat) (ht:P.underlying t=some (.slice e)) (hi:P.info? e=some i)
  (v:Value) (n:Nat) (xs:List Value) (hown:w.ownsRow base e size v n xs) (a:Option Addr) (c:Nat):(Builtin.append_ #[t,t] ty #[v,.slice a 0 c]).run P w=.ok v w:=by
 rcases hown.2 with⟨rfl,rfl⟩|⟨g,cap,cur,rfl,_,_,hnc,_⟩
 ·cases a<;>simp[Builtin.append_,run_underlying ht,sizeOf,typeInfo,hi,Builtin.lenOf,Builtin.firstCells,loadCells,loadCellsFrom,Result.andThen]
 ·cases a<;>simp[Builtin.append_,run_underlying ht,sizeOf,typeInfo,hi,Builtin.lenOf,Builtin.firstCells,hnc,storeCells,loadCells,loadCellsFrom,Result.andThen]
theorem Acz {P:Program} (w:World) {ops:Array Oper} {rest:List Oper} {o:Oper} {ac:Act} {Q:Exit->Act->World->Prop} (hg:o.guard=none) (s x:Operand) (t:TypeId) (hop:o.op=.call {callee:=.builtin .append,args:=#[s,x],argTypes:=#[t,t]})
  (base:Nat) (e:TypeId) (i:TypeInfo) (size:Nat) (ht:P.underlying t=some (.slice e)) (hi:P.info? e=some i) (v:Value) (n:Nat) (xs:List Value) (hs:ac.eval s=v) (hown:w.ownsRow base e size v n xs) (a:Option Addr) (c:Nat) (hx:ac.eval x=.slice a 0 c)
  (h:wpList P ops Q rest (ac.put o.dst v) w):wpList P ops Q (o::rest) ac w:=by
 refine wpList_plain hg λK hK=>?_;have hr:=O6 (P:=P) base t o.type e i size ht hi v n xs hown a c;unfold Oper.wp;simp[execOp,hop,resolve,invoke,builtin,hs,hx,hr,Result.andThen];exact hK _ _ h
def NN (u:Value):Prop:=∃g n c,u=.slice (some ⟨g,0,none⟩) n c
theorem Ac0 (w:World):OwnT (w.alloc (.cells #[] 9)) w.heap.size (.slice (some ⟨w.heap.size,0,none⟩) 0 0) []:=B8 w #[] 0 (A3 _) (by unfold maxLen;omega) rfl
theorem AhW {P:Program} {fn:Func} {q:Tmp} {T:TypeId} (h:fn.results=#[.cell q T]) {d:TypeDesc} (hu:P.underlying T=some d) (hd:d.isRow=true) (hi:(P.info? T).map (·.size)=some 3) {R:Ending->World->Prop} {tmps:Array Value} {w:World} {rk:Nat} {y0 y1 y2 x0 x1 x2:Value}
  (k:CB w rk [y0,y1,y2]) (ht:tmps.getD q undef=.pointer (some ⟨rk,0,none⟩)) (hR:R (.returned (.agg #[x0,x1,x2])) (((w.setCell ⟨rk,0,none⟩ x0).setCell ⟨rk,1,none⟩ x1).setCell ⟨rk,2,none⟩ x2)) :
  bodyPost P fn R .ret {tmps:=tmps,defers:=[]} (((w.setCell ⟨rk,0,none⟩ x0).setCell ⟨rk,1,none⟩ x1).setCell ⟨rk,2,none⟩ x2) :=
 bodyPost_ret (AdP (cs:=[x0,x1,x2]) h hu hd hi ht (k.copy3 x0 x1 x2)) rfl hR
theorem Aby {P:Program} {fn:Func} {q:Tmp} {T:TypeId} (h:fn.results=#[.cell q T]) {d:TypeDesc} (hu:P.underlying T=some d) (hd:d.isRow=true) (hi:(P.info? T).map (·.size)=some 2) {R:Ending->World->Prop} {tmps:Array Value} {w:World} {rk:Nat} {y0 y1 x0 x1:Value}
  (k:CB w rk [y0,y1]) (ht:tmps.getD q undef=.pointer (some ⟨rk,0,none⟩)) (hR:R (.returned (.agg #[x0,x1])) ((w.setCell ⟨rk,0,none⟩ x0).setCell ⟨rk,1,none⟩ x1)) :
  bodyPost P fn R .ret {tmps:=tmps,defers:=[]} ((w.setCell ⟨rk,0,none⟩ x0).setCell ⟨rk,1,none⟩ x1) :=
 bodyPost_ret (AdP (cs:=[x0,x1]) h hu hd hi ht (k.copy2 x0 x1)) rfl hR
theorem Aan:(Tryz.prog.info? 118).map (λi=>(i.zero,i.size,i.bytes))=some (some (.agg #[.string ⟨#[]⟩,.slice none 0 0,.slice none 0 0]),3,64):=by kernel_rfl
abbrev Bv:=Ba×Value×Value
def rowB (p:Bv):List Value:=[.string p.1.nm,p.2.1,p.2.2]
def rowsB:List Bv->List Value
 | []=>[]
 | p::r=>rowB p++rowsB r
theorem J3:∀ps:List Bv,(rowsB ps).length=ps.length*3
 | []=>rfl
 | p::r=>by rw[rowsB,A9,J3 r,List.length_cons];simp[rowB];omega
theorem Aa4 (p:Bv):∀ps:List Bv,rowsB (ps++[p])=rowsB ps++rowB p
 | []=>by simp[rowsB]
 | q::r=>by rw[List.cons_append,rowsB,rowsB,Aa4 p r,List.append_assoc]
def BsW (w:World) (base:Nat) (v:Value) (ps:List Bv):Prop:=w.ownsRow base 118 3 v ps.length (rowsB ps)/\∀p∈ps,OwnT w base p.2.1 p.1.has/\OwnT w base p.2.2 p.1.needs/\p.1.nm.size<=maxLen
theorem BsW.up {w w':World} {base:Nat} {v:Value} {ps:List Bv} (h:BsW w base v ps) (hb:Below w.heap.size w w'):BsW w' base v ps :=
 ⟨E0 h.1 hb,λp hp=>⟨(h.2 p hp).1.up hb,(h.2 p hp).2.1.up hb,(h.2 p hp).2.2⟩⟩
theorem E5 {w:World} {base base' e e' s s' n n':Nat} {v v':Value} {xs xs':List Value} (h:w.ownsRow base e s v n xs) (h':w.ownsRow base' e' s' v' n' xs') (hne:e≠e'):∀g,v.ownBlock=some g->some g≠v'.ownBlock:=λg hg hg'=>by
 rcases h.2 with⟨rfl,_⟩|⟨g1,cap,cur,rfl,_,hh,_⟩
 ·simp[Value.ownBlock] at hg
 ·rcases h'.2 with⟨rfl,_⟩|⟨g2,cap',cur',rfl,_,hh',_⟩
  ·simp[Value.ownBlock] at hg'
  ·simp[Value.ownBlock] at hg hg'
   subst hg hg';rw[hh] at hh';simp at hh';exact hne hh'.2
theorem E4 {w w':World} {base e s n:Nat} {v:Value} {xs:List Value} {r:Option Nat} (h:w.ownsRow base e s v n xs) (hg:w.grownBy w' r) (hne:∀g,v.ownBlock=some g->some g≠r):w'.ownsRow base e s v n xs:=by
 refine⟨h.1,?_⟩;rcases h.2 with h0|⟨g,cap,cur,hv,hb,hh,q⟩
 ·exact .inl h0
 ·refine .inr ⟨g,cap,cur,hv,hb,?_,q⟩
  rw[hg.block g (D3.1 hh).1 (hne g (by rw[hv];rfl))];exact hh
theorem AmA {wr Wl w':World} {base:Nat} {xv v' hu nu:Value} {ps:List Bv} {x:Ba} {o':Obj} (hW:BsW wr base xv ps) (hb:Below wr.heap.size wr Wl) (hoh:OwnT Wl base hu x.has) (hon:OwnT Wl base nu x.needs) (hz:x.nm.size<=maxLen)
  (hgr:(Wl.alloc o').grownBy w' xv.ownBlock) (hown:w'.ownsRow base 118 3 v' (ps.length+1) (rowsB ps++[.string x.nm,hu,nu])):BsW w' base v' (ps++[(x,hu,nu)]):=by
 have ha:Below Wl.heap.size Wl (Wl.alloc o'):=(A4 _ _).alloc (A3 _) _;have hrow:=E0 (E0 hW.1 hb) ha;refine⟨by rw[A9,Aa4];exact hown,λp hp=>?_⟩;rcases D0.1 hp with h|h
 ·obtain⟨q1,q2,q3⟩:=hW.2 p h
  have r1:=(q1.up hb).up ha;have r2:=(q2.up hb).up ha;exact⟨E4 r1 hgr (E5 r1 hrow (by decide)),E4 r2 hgr (E5 r2 hrow (by decide)),q3⟩
 ·obtain rfl:p=(x,hu,nu):=by simpa using h
  have r1:=hoh.up ha;have r2:=hon.up ha;exact⟨E4 r1 hgr (E5 r1 hrow (by decide)),E4 r2 hgr (E5 r2 hrow (by decide)),hz⟩
theorem Af7 (w:World) (x y z:Value) (ty:TypeId) {j:Nat} {v:Value} (h:[x,y,z][j]?=some v):(w.alloc (.cells #[x,y,z] ty)).cell? ((⟨w.heap.size,0,none⟩:Addr).add j)=some v:=by
 have:=(E8 w [x,y,z] ty).1 j v h;rw[Addr.add_mid];exact this
end Go.Proofs.YtgecdacgmehmbaaGreatDoor
namespace Go.Proofs.YtgecdacgmehmbaaGreatDoor
def bitsN:List ByteArray->(ByteArray->Bool)->Nat
 | [],_=>0
 | t::r,P=>(if P t=true then 1 else 0)+2*bitsN r P
theorem AdR (P:ByteArray->Bool) (t:ByteArray):∀l:List ByteArray,bitsN (l++[t]) P=bitsN l P+(if P t=true then 2 ^ l.length else 0)
 | []=>by simp[bitsN]
 | x::r=>by
  rw[List.cons_append,bitsN,bitsN,AdR P t r,List.length_cons,Nat.pow_succ];split<;>split<;>omega
theorem AfK (P:ByteArray->Bool):∀l:List ByteArray,bitsN l P<2 ^ l.length
 | []=>by simp[bitsN]
 | x::r=>by
  have:=AfK P r;rw[bitsN,List.length_cons,Nat.pow_succ];split<;>omega
theorem L2 {l:List ByteArray} (h:l.length<=8) (P:ByteArray->Bool):bitsN l P<256 :=
 A1 (AfK P l) (Nat.pow_le_pow_right (by omega) h)
theorem V6 {P Q:ByteArray->Bool}:∀{l:List ByteArray},(∀t∈l,P t=Q t)->bitsN l P=bitsN l Q
 | [],_=>rfl
 | x::r,h=>by rw[bitsN,bitsN,h x (by simp),V6 λt ht=>h t (by simp[ht])]
theorem Aba {P Q:ByteArray->Bool}:∀{l:List ByteArray},(∀t∈l,P t=true->Q t=false)->bitsN l P+bitsN l Q=bitsN l λt=>P t || Q t
 | [],_=>rfl
 | x::r,h=>by
  have h1:=Aba (P:=P) (Q:=Q) (l:=r) λt ht=>h t (by simp[ht]);have h2:=h x (by simp);rw[bitsN,bitsN,bitsN,← h1];cases hp:P x<;>cases hq:Q x<;>simp_all<;>omega
theorem AjU {P Q:ByteArray->Bool} {l:List ByteArray} (h:∀t∈l,Q t=true->P t=true):bitsN l P=bitsN l Q+bitsN l λt=>P t && !Q t:=by
 rw[Aba (λt _ hq=>by simp[hq])];refine V6 λt ht=>?_;cases hq:Q t
 ·simp
 ·simp[h t ht hq]
theorem Z6 (P:ByteArray->Bool):∀(l:List ByteArray) (i:Nat),(bitsN l P).testBit i=(l[i]?.map P).getD false
 | [],i=>by simp[bitsN]
 | x::r,0=>by
  rw[bitsN,Nat.testBit_zero];have e:((if P x=true then 1 else 0)+2*bitsN r P) % 2=(if P x=true then 1 else 0):=by split<;>omega
  rw[e];cases h:P x<;>simp[h]
 | x::r,i+1=>by
  rw[bitsN,Nat.testBit_succ,List.getElem?_cons_succ,← Z6 P r i];congr 1
  split<;>omega
theorem AjV {P Q:ByteArray->Bool} {l:List ByteArray} (hl:l.length<=8):(bitsN l P &&& (18446744073709551615-bitsN l Q)=0)↔∀t∈l,P t=true->Q t=true:=by
 have hQ:=L2 hl Q;have e:18446744073709551615-bitsN l Q=2 ^ 64-(bitsN l Q+1):=by omega
 constructor
 ·intro h t ht hp
  obtain⟨i,hi,rfl⟩:=B5 ht;have h1:=congrArg (Nat.testBit · i) h;simp only[Nat.testBit_and,Nat.zero_testBit] at h1;rw[e,Nat.testBit_two_pow_sub_succ (by omega),Z6,Z6,A0 hi] at h1;simp[hp] at h1;exact h1 (by omega)
 ·intro h
  refine Nat.eq_of_testBit_eq λi=>?_;rw[Nat.testBit_and,Nat.zero_testBit,e,Nat.testBit_two_pow_sub_succ (by omega),Z6,Z6];rcases Nat.lt_or_ge i l.length with hi|hi
  ·rw[A0 hi]
   have:=h l[i] (List.getElem_mem hi);cases hp:P l[i]<;>simp_all
  ·rw[C6 hi];simp
def CanTo (bs:List Ba) (at':Nat) (gone:List ByteArray) (k:Nat):Prop:=∀(i:Nat) (x y:Ba),i<k->i≠at'->bs[i]?=some x->bs[at']?=some y->memS gone x.nm=false->shareB x.has y.needs=false
def Can (bs:List Ba) (at':Nat) (gone:List ByteArray):Prop:=CanTo bs at' gone bs.length
theorem CanTo.zero (bs:List Ba) (a:Nat) (gone:List ByteArray):CanTo bs a gone 0:=λi _ _ h=>by omega
theorem AmB {bs:List Ba} {a:Nat} {gone:List ByteArray} {k:Nat} (h:CanTo bs a gone k) (hk:¬k<bs.length):Can bs a gone:=λi x y hi hne hx hy hm=>h i x y (by omega) hne hx hy hm
theorem CanTo.step {bs:List Ba} {a:Nat} {gone:List ByteArray} {k:Nat} (h:CanTo bs a gone k) (hk:k<bs.length) (ha:a<bs.length) (h1:k=a∨memS gone (bs[k]).nm=true∨shareB (bs[k]).has (bs[a]).needs=false):CanTo bs a gone (k+1):=λi x y hi hne hx hy hm=>by
 by_cases e:i=k
 ·subst e
  rw[A0 hk] at hx;rw[A0 ha] at hy;obtain rfl:=A5 hx;obtain rfl:=A5 hy;rcases h1 with h1|h1|h1
  ·exact absurd h1 hne
  ·rw[hm] at h1;cases h1
  ·exact h1
 ·exact h i x y (by omega) hne hx hy hm
theorem can_no {bs:List Ba} {a:Nat} {gone:List ByteArray} {k:Nat} (hk:k<bs.length) (ha:a<bs.length) (hne:k≠a) (hm:memS gone (bs[k]).nm=false) (hs:shareB (bs[k]).has (bs[a]).needs=true):¬Can bs a gone:=λh=>by
 have:=h k _ _ hk hne (A0 hk) (A0 ha) hm;rw[hs] at this;cases this
def freeB (bs:List Ba) (G:Nat->Bool) (k:Nat) (t:ByteArray):Bool:=(List.range k).all λi=>G i || !((bs[i]?.map λx=>memS x.has t).getD false)
theorem Ac1 (bs:List Ba) (G:Nat->Bool) (k:Nat) (t:ByteArray):freeB bs G k t=true↔∀(i:Nat) (x:Ba),i<k->bs[i]?=some x->G i=false->memS x.has t=false:=by
 simp only[freeB,List.all_eq_true,List.mem_range];constructor
 ·intro h i x hi hx hg
  have:=h i hi;rw[hx,hg] at this;simpa using this
 ·intro h i hi
  cases hg:G i
  ·cases hx:bs[i]? with
   | none=>simp
   | some x=>simp[h i x hi hx hg]
  ·rfl
theorem Al0 {b:Bk} (hok:BookOk b) {a:Nat} (ha:a<b.bs.length) {gone:List ByteArray} {G:Nat->Bool} (hG:∀(i:Nat) (hi:i<b.bs.length),G i=memS gone (b.bs[i]).nm) (hga:G a=false) :
  (∀t∈b.things,memS (b.bs[a]).needs t=true->(freeB b.bs G b.bs.length t || memS (b.bs[a]).has t)=true)↔Can b.bs a gone:=by
 have hb:=hok.2.2.2.2.1.at ha ha;constructor
 ·intro h i x y hi hne hx hy hm
  rw[A0 hi] at hx;rw[A0 ha] at hy;obtain rfl:=A5 hx;obtain rfl:=A5 hy;rw[N8];intro s h1 h2;have h3:=h s (AbE hb.1.1 h2) ((J8 _ _).2 h2);rcases Bool.or_eq_true_iff.1 h3 with h4|h4
  ·have:=(Ac1 _ _ _ _).1 h4 i _ hi (A0 hi) (by rw[hG i hi];exact hm)
   rw[S3] at this;exact this h1
  ·have h5:=(J8 _ _).1 h4
   rcases Nat.lt_or_gt_of_ne hne with h6|h6
   ·have:=hok.2.2.2.2.2.at ha h6
    rw[N8] at this;exact this s h5 h1
   ·have:=hok.2.2.2.2.2.at hi h6
    rw[N8] at this;exact this s h1 h5
 ·intro h t ht hn
  cases hh:memS (b.bs[a]).has t
  ·rw[Bool.or_false,Ac1]
   intro i x hi hx hg;rw[A0 hi] at hx;obtain rfl:=A5 hx;by_cases e:i=a
   ·subst e;exact hh
   ·have:=h i _ _ hi e (A0 hi) (A0 ha) (by rw[← hG i hi];exact hg)
    rw[N8] at this;rw[S3];exact λh1=>this t h1 ((J8 _ _).1 hn)
  ·simp
theorem AhX {l:List ByteArray} {s:ByteArray} (h:0<=idxI l s):∃k:Nat,idxI l s=(k:Int)/\∃hk:k<l.length,l[k]=s:=by
 rw[idxI] at h ⊢
 split at h
 ·rename_i hm
  rw[if_pos hm];refine⟨_,rfl,?_⟩
  have hl:l.findIdx (λx=>x.toList==s.toList)<l.length:=by
   rw[List.findIdx_lt_length];rw[memS,List.any_eq_true] at hm;exact hm
  refine⟨hl,?_⟩;have:=List.findIdx_getElem (w:=hl);exact Z5 (by simpa using this)
 ·omega
abbrev Tr:=Ba×Bool
def rowC (things:List ByteArray) (p:Tr):List Value:=[.string p.1.nm,.int .u64 (bitsN things (memS p.1.has):Nat),.int .u64 (bitsN things (memS p.1.needs):Nat),.bool p.2]
def rowsL (things:List ByteArray):List Tr->List Value
 | []=>[]
 | p::r=>rowC things p++rowsL things r
theorem AfL (things:List ByteArray):∀ts:List Tr,(rowsL things ts).length=ts.length*4
 | []=>rfl
 | p::r=>by rw[rowsL,A9,AfL things r,List.length_cons];simp[rowC];omega
theorem AdS (things:List ByteArray) (p:Tr):∀ts:List Tr,rowsL things (ts++[p])=rowsL things ts++rowC things p
 | []=>by simp[rowsL]
 | q::r=>by rw[List.cons_append,rowsL,rowsL,AdS things p r,List.append_assoc]
theorem Aa0 (things:List ByteArray):∀(ts:List Tr) (i j:Nat) (p:Tr),ts[i]?=some p->j<4->(rowsL things ts)[i*4+j]?=(rowC things p)[j]?
 | [],i,j,p,h,_=>by simp at h
 | q::r,0,j,p,h,hj=>by
  simp at h;subst h
  rw[rowsL,List.getElem?_append_left (by simp[rowC];omega)];simp
 | q::r,i+1,j,p,h,hj=>by
  rw[rowsL,C8 (by simp[rowC];omega)];have e:(i+1)*4+j-(rowC things q).length=i*4+j:=by simp[rowC];omega
  rw[e];exact Aa0 things r i j p (by simpa using h) hj
theorem AeJ (things:List ByteArray):∀(ts:List Tr) (i:Nat) (p:Tr),ts[i]?=some p->(rowsL things ts).set (i*4+3) (.bool true)=rowsL things (ts.set i (p.1,true))
 | [],i,p,h=>by simp at h
 | q::r,0,p,h=>by
  simp at h;subst h
  simp[rowsL,rowC]
 | q::r,i+1,p,h=>by
  rw[rowsL,List.set_append_right _ _ (by simp[rowC];omega)];have e:(i+1)*4+3-(rowC things q).length=i*4+3:=by simp[rowC];omega
  rw[e,AeJ things r i p (by simpa using h)];simp[rowsL]
def freeL (ts:List Tr) (t:ByteArray):Bool:=ts.all λp=>p.2 || !memS p.1.has t
theorem Y2 (ts:List Tr) (t:ByteArray):freeL ts t=true↔∀(i:Nat) (p:Tr),ts[i]?=some p->p.2=false->memS p.1.has t=false:=by
 simp only[freeL,List.all_eq_true,Bool.or_eq_true,Bool.not_eq_true'];constructor
 ·intro h i p hp h2
  rcases h p (A6 hp) with h3|h3
  ·rw[h2] at h3;cases h3
  ·exact h3
 ·intro h p hp
  obtain⟨i,hi,rfl⟩:=B5 hp;cases h2:ts[i].2
  ·exact .inr (h i _ (A0 hi) h2)
  ·exact .inl rfl
theorem AfM {bs:List Ba} {ts:List Tr} (h:ts.map (·.1)=bs) (t:ByteArray):freeL ts t=freeB bs (λi=>(ts[i]?.map (·.2)).getD false) bs.length t:=by
 rw[Bool.eq_iff_iff,Y2,Ac1];subst h;constructor
 ·intro h i x hi hx hg
  rw[B0,B4] at hx;obtain⟨p,hp,rfl⟩:=hx;exact h i p hp (by rw[hp] at hg;simpa using hg)
 ·intro h i p hp h2
  exact h i p.1 (by simpa using (A2.1 hp).1) (by rw[B0,hp];rfl) (by rw[hp];simpa using h2)
theorem Ai5 (ts:List Tr) (p:Tr) (t:ByteArray):freeL (ts++[p]) t=(freeL ts t&&(p.2 || !memS p.1.has t)):=by simp[freeL]
theorem V7 {bs:List Ba} {ts:List Tr} (h:ts.map (·.1)=bs) {i:Nat} {p:Tr} (hp:ts[i]?=some p):bs[i]?=some p.1:=by subst h;rw[B0,hp];rfl
theorem AjW {bs:List Ba} (ha:Apart bs) {ts:List Tr} {k:Nat} (hk:k<bs.length) (h:ts.map (·.1)=bs.take k) (things:List ByteArray) :
  bitsN things (freeL ts)=bitsN things (memS (bs[k]).has)+bitsN things (freeL (ts++[(bs[k],false)])):=by
 rw[AjU (P:=freeL ts) (Q:=memS (bs[k]).has)]
 ·congr 1
  refine V6 λt _=>?_;rw[Ai5];simp
 ·intro t _ hm
  rw[Y2];intro i p hp _;have h1:=V7 h hp;rw[List.getElem?_take] at h1;split at h1
  ·rename_i hi
   rw[A0 (by omega)] at h1;obtain h1:=A5 h1;have:=ha.at hk hi;rw[N8] at this;rw[S3,← h1];exact this t ((J8 _ _).1 hm)
  ·cases h1
theorem Ai6 {bs:List Ba} (ha:Apart bs) {ts:List Tr} {i:Nat} {p:Tr} (h:ts.map (·.1)=bs) (hp:ts[i]?=some p) (hg:p.2=false) (things:List ByteArray) :
  bitsN things (freeL ts)+bitsN things (memS p.1.has)=bitsN things (freeL (ts.set i (p.1,true))):=by
 have hi:=(A2.1 hp).1;have hb:=V7 h hp;have hib:i<bs.length:=by rw[← h];simpa using hi
 rw[Aba]
 ·refine V6 λt _=>?_
  rw[Bool.eq_iff_iff,Bool.or_eq_true,Y2,Y2];constructor
  ·rintro (h1|h1) j q hq hg2
   ·rw[List.getElem?_set] at hq
    split at hq
    ·obtain rfl:=A5 hq;cases hg2
    ·exact h1 j q hq hg2
   ·rw[List.getElem?_set] at hq
    split at hq
    ·obtain rfl:=A5 hq;cases hg2
    ·rename_i hne
     have hq':=V7 h hq;have hjb:=(A2.1 hq').1;rw[S3];intro h5;have h6:=(J8 _ _).1 h1;rw[A0 hjb] at hq';rw[A0 hib] at hb;have hq2:=A5 hq';have hb2:=A5 hb;rcases Nat.lt_or_gt_of_ne hne with h7|h7
     ·have:=ha.at hjb h7
      rw[N8,hq2,hb2] at this;exact this t h5 h6
     ·have:=ha.at hib h7
      rw[N8,hq2,hb2] at this;exact this t h6 h5
  ·intro h1
   cases hm:memS p.1.has t
   ·refine .inl λj q hq hg2=>?_
    by_cases e:i=j
    ·subst e;rw[hp] at hq;obtain rfl:=A5 hq;exact hm
    ·exact h1 j q (by rw[List.getElem?_set,if_neg e];exact hq) hg2
   ·exact .inr rfl
 ·intro t _ h1
  exact (Y2 _ _).1 h1 i p hp hg
theorem AhY {b:Bk} (hok:BookOk b) {ts:List Tr} (h:ts.map (·.1)=b.bs) {gone:List ByteArray} (hG:∀(i:Nat) (p:Tr),ts[i]?=some p->p.2=memS gone p.1.nm) {a:Nat} {p:Tr} (hp:ts[a]?=some p) (hg:p.2=false) :
  (bitsN b.things (memS p.1.needs) &&& (18446744073709551615-(bitsN b.things (freeL ts)+bitsN b.things (memS p.1.has)))=0)↔Can b.bs a gone:=by
 have hb:=V7 h hp;have hab:a<b.bs.length:=(A2.1 hb).1;have hb2:b.bs[a]=p.1:=by rw[A0 hab] at hb;exact A5 hb
 rw[Aba (λt _ h1=>(Y2 _ _).1 h1 a p hp hg),AjV hok.1.1,
  ← Al0 hok hab (gone:=gone) (G:=λi=>(ts[i]?.map (·.2)).getD false) (λi hi=>?_) (by simp[hp,hg]),hb2]
 ·constructor
  ·intro h1 t ht hn;rw[← AfM h];exact h1 t ht hn
  ·intro h1 t ht hn;have:=h1 t ht hn;rwa [← AfM h] at this
 ·have hi':i<ts.length:=by rw[← h] at hi;simpa using hi
  have e:=V7 h (A0 hi');rw[A0 hi] at e;rw[A0 hi'];simp only[Option.map_some,Option.getD_some];rw[hG i _ (A0 hi'),A5 e]
def Good (bs:List Ba) (gone:List ByteArray) (k:Nat):Prop:=∃x,bs[k]?=some x/\memS gone x.nm=false/\Can bs k gone
def NextIs (bs:List Ba) (gone:List ByteArray) (n:Int):Prop:=(n=-1/\∀k,k<bs.length->¬Good bs gone k)∨∃k:Nat,n=(k:Int)/\k<bs.length/\Good bs gone k/\∀j,j<k->¬Good bs gone j
theorem NextIs.uniq {bs:List Ba} {gone:List ByteArray} {m n:Int} (h:NextIs bs gone m) (h':NextIs bs gone n):m=n:=by
 rcases h with⟨rfl,h1⟩|⟨k,rfl,hk,hg,hl⟩<;>rcases h' with⟨rfl,h2⟩|⟨j,rfl,hj,gg,gl⟩
 ·rfl
 ·exact absurd gg (h1 j hj)
 ·exact absurd hg (h2 k hk)
 ·rcases Nat.lt_trichotomy k j with h3|h3|h3
  ·exact absurd hg (gl k h3)
  ·rw[h3]
  ·exact absurd gg (hl j h3)
inductive Goes (bs:List Ba):Nat->List ByteArray->Prop
 | none:Goes bs 0 []
 | more {n:Nat} {gone:List ByteArray} {k:Nat} {x:Ba}:Goes bs n gone->NextIs bs gone (k:Int)->bs[k]?=some x->Goes bs (n+1) (gone++[x.nm])
theorem Goes.length {bs:List Ba} {n:Nat} {gone:List ByteArray} (h:Goes bs n gone):gone.length=n:=by
 induction h with
 | none=>rfl
 | more _ _ _ ih=>simp[ih]
theorem Goes.uniq {bs:List Ba} {n:Nat} {g g':List ByteArray} (h:Goes bs n g) (h':Goes bs n g'):g=g':=by
 induction h generalizing g' with
 | none=>cases h';rfl
 | more h1 h2 h3 ih =>
  cases h' with
  | more k1 k2 k3 =>
   obtain rfl:=ih k1;have e:=h2.uniq k2;obtain rfl:_=_:=Int.ofNat.inj e;rw[h3] at k3;obtain rfl:=A5 k3;rfl
theorem Goes.part {bs:List Ba} {n:Nat} {gone:List ByteArray} (h:Goes bs n gone):∀m,m<=n->Goes bs m (gone.take m):=by
 induction h with
 | none=>intro m hm;obtain rfl:m=0:=(by omega);exact .none
 | @more n gone k x h1 h2 h3 ih =>
  intro m hm;have hl:=h1.length;by_cases e:m=n+1
  ·subst e
   rw[D2 (by simp[hl])];exact .more h1 h2 h3
  ·rw[List.take_append_of_le_length (by omega)]
   exact ih m (by omega)
def OrderIs (b:Bk) (ss:List ByteArray) (ok:Bool):Prop:=(ok=true/\BookOk b/\Goes b.bs b.bs.length ss)∨(ok=false/\ss=[]/\(¬BookOk b∨∃n gone,n<b.bs.length/\Goes b.bs n gone/\NextIs b.bs gone (-1)))
theorem OrderIs.uniq {b:Bk} {ss ss':List ByteArray} {ok ok':Bool} (h:OrderIs b ss ok) (h':OrderIs b ss' ok'):ss=ss'/\ok=ok':=by
 have no:∀{t},BookOk b->Goes b.bs b.bs.length t->¬(¬BookOk b∨∃n gone,n<b.bs.length/\Goes b.bs n gone/\NextIs b.bs gone (-1)):=by
  rintro t hb hg (h1|⟨n,gone,hn,h2,h3⟩)
  ·exact h1 hb
  ·have h4:=hg.part (n+1) (by omega)
   have hl:=hg.length;generalize hq:t.take (n+1)=q at h4;cases h4 with
   | more k1 k2 k3 =>
    obtain rfl:=h2.uniq k1;have:=h3.uniq k2;omega
 rcases h with⟨rfl,h1,h2⟩|⟨rfl,rfl,h2⟩<;>rcases h' with⟨rfl,g1,g2⟩|⟨rfl,rfl,g2⟩
 ·exact⟨h2.uniq g2,rfl⟩
 ·exact absurd g2 (no h1 h2)
 ·exact absurd h2 (no g1 g2)
 ·exact⟨rfl,rfl⟩
theorem Abq {bs:List Ba} {gone:List ByteArray} {k:Nat} (h:∀j,j<k->¬Good bs gone j) (h1:¬Good bs gone k):∀j,j<k+1->¬Good bs gone j:=λj hj=>by
 by_cases e:j=k
 ·subst e;exact h1
 ·exact h j (by omega)
theorem Al1 {bs:List Ba} {gone:List ByteArray} {k:Nat} (hk:k<bs.length):Good bs gone k↔memS gone (bs[k]).nm=false/\Can bs k gone:=by
 constructor
 ·rintro⟨x,hx,h⟩
  rw[A0 hk] at hx;obtain rfl:=A5 hx;exact h
 ·exact λh=>⟨_,A0 hk,h⟩
def Szb (b:Bk):Prop:=(∀s∈b.things,s.size<=maxLen)/\∀x∈b.bs,(∀s∈x.has,s.size<=maxLen)/\(∀s∈x.needs,s.size<=maxLen)
def nobody:Bk:=⟨[],[]⟩
theorem AbG:Szb nobody:=⟨λs hs=>by simp[nobody] at hs,λx hx=>by simp[nobody] at hx⟩
def plN (b:Bk) (nm:ByteArray):Nat:=(idxI (nms b.bs) nm).toNat
theorem AaK {b:Bk} {nm:ByteArray} (h:memS (nms b.bs) nm=true):idxI (nms b.bs) nm=(plN b nm:Int)/\plN b nm<b.bs.length:=by
 have h0:=Adx (nms b.bs) nm;rw[h,decide_eq_true_eq] at h0;refine⟨by unfold plN;omega,?_⟩;rw[plN,idxI,if_pos h]
 have:(nms b.bs).findIdx (λx=>x.toList==nm.toList)<(nms b.bs).length:=List.findIdx_lt_length.2 (by
  rw[memS,List.any_eq_true] at h;exact h)
 rw[I0] at this;simpa using this
def inN (b:Bk) (nm:ByteArray):Nat:=(b.bs.takeWhile λx=>ltS x.nm nm).length
noncomputable def enterC (b:Bk) (nm:ByteArray) (needs:List ByteArray):Int :=
 if bookB b=false then 1 else if (nameB nm&&pB (PartOk needs b.things))=false then 2 else if memS (nms b.bs) nm=true then 3 else if 5<=b.bs.length then 4 else 0
noncomputable def enterB (b:Bk) (nm:ByteArray) (needs:List ByteArray):Bk :=
 if bookB b=false then nobody else if enterC b nm needs=0 then ⟨b.things,b.bs.take (inN b nm)++⟨nm,[],needs⟩::b.bs.drop (inN b nm)⟩ else b
def lowB (b:Bk) (nm:ByteArray) (k:Nat):Prop:=∀(j:Nat) (x:Ba),j<k->b.bs[j]?=some x->ltS x.nm nm=true
theorem AfN {α:Type} (p:α->Bool):∀(l:List α) (k:Nat),k<=l.length->(∀j x,j<k->l[j]?=some x->p x=true)->(∀x,l[k]?=some x->p x=false)->(l.takeWhile p).length=k
 | [],k,hk,_,_=>by simp at hk;subst hk;rfl
 | x::r,0,_,_,h2=>by
  rw[List.takeWhile_cons,h2 x (by simp)];rfl
 | x::r,k+1,hk,h1,h2=>by
  rw[List.takeWhile_cons,h1 0 x (by omega) (by simp)];simp only[if_true,List.length_cons];rw[AfN p r k (by simpa using hk) (λj y hj hy=>h1 (j+1) y (by omega) (by simpa using hy)) (λy hy=>h2 y (by simpa using hy))]
theorem AjX {b:Bk} {nm:ByteArray} {k:Nat} (hk:k<=b.bs.length) (hl:lowB b nm k) (hn:∀x,b.bs[k]?=some x->ltS x.nm nm=false):inN b nm=k:=AfN _ _ _ hk hl hn
theorem AfO {b:Bk} {nm:ByteArray} {needs:List ByteArray} (h:bookB b=false):enterC b nm needs=1/\enterB b nm needs=nobody:=by simp[enterC,enterB,h]
theorem Ac2 {b:Bk} {nm:ByteArray} {needs:List ByteArray} (h:bookB b=true) (h2:(nameB nm&&pB (PartOk needs b.things))=false):enterC b nm needs=2/\enterB b nm needs=b:=by simp[enterC,enterB,h,h2]
theorem Ade {b:Bk} {nm:ByteArray} {needs:List ByteArray} (h:bookB b=true) (h2:(nameB nm&&pB (PartOk needs b.things))=true) (h3:memS (nms b.bs) nm=true):enterC b nm needs=3/\enterB b nm needs=b:=by simp[enterC,enterB,h,h2,h3]
theorem AdT {b:Bk} {nm:ByteArray} {needs:List ByteArray} (h:bookB b=true) (h2:(nameB nm&&pB (PartOk needs b.things))=true) (h3:memS (nms b.bs) nm=false) (h4:5<=b.bs.length):enterC b nm needs=4/\enterB b nm needs=b:=by simp[enterC,enterB,h,h2,h3,h4]
theorem AeK {b:Bk} {nm:ByteArray} {needs:List ByteArray} (h:bookB b=true) (h2:(nameB nm&&pB (PartOk needs b.things))=true) (h3:memS (nms b.bs) nm=false) (h4:¬5<=b.bs.length) :
  enterC b nm needs=0/\enterB b nm needs=⟨b.things,b.bs.take (inN b nm)++⟨nm,[],needs⟩::b.bs.drop (inN b nm)⟩:=by
 have hc:enterC b nm needs=0:=by simp[enterC,h,h2,h3,h4]
 exact⟨hc,by rw[enterB,h,if_neg (by simp),if_pos hc]⟩
theorem M1 {b:Bk} (h:BookOk b):b.things.length<=8/\b.bs.length<=5/\∀x∈b.bs,x.has.length<=8/\x.needs.length<=8:=by
 refine⟨h.1.1,h.2.1,λx hx=>?_⟩;obtain⟨i,hi,rfl⟩:=B5 hx;have ho:=h.2.2.2.2.1.at (k:=i) hi hi;have h1:=L5 ho.1;have h2:=L5 ho.2;have h0:=h.1.1;omega
theorem O4 {b:Bk} (h:bookB b=true):BookOk b:=F7.1 h
end Go.Proofs.YtgecdacgmehmbaaGreatDoor
namespace Go.Proofs.YtgecdacgmehmbaaGreatDoor
open Go.RowKit
def lessB (a b:ByteArray):Bool:=Op.bytesLess a.toList b.toList
def sameB (a b:ByteArray):Bool:=a.toList==b.toList
def insL:List ByteArray->ByteArray->List ByteArray
 | [],x=>[x]
 | y::r,x=>if lessB y x=true then y::insL r x else if sameB y x=true then y::r else x::y::r
def lowL (ss:List ByteArray) (x:ByteArray) (k:Nat):Prop:=∀(j:Nat) (s:ByteArray),j<k->ss[j]?=some s->lessB s x=true
theorem AeL {ss:List ByteArray} {x:ByteArray} {k:Nat} (h:lowL ss x k) (hk:k<ss.length) (hl:lessB (ss[k]) x=true):lowL ss x (k+1):=λj s hj hs=>by
 rcases Nat.lt_or_ge j k with h'|h'
 ·exact h j s h' hs
 ·obtain rfl:j=k:=by omega
  obtain⟨_,rfl⟩:=A2.1 hs;exact hl
theorem AaL:∀(ss:List ByteArray) (x:ByteArray) (k:Nat),lowL ss x k->k<=ss.length->(∀s,ss[k]?=some s->lessB s x=false/\sameB s x=false)->insL ss x=ss.take k++x::ss.drop k
 | [],x,0,_,_,_=>rfl
 | [],x,k+1,_,h,_=>by simp at h
 | y::r,x,0,_,_,h=>by
  obtain⟨h1,h2⟩:=h y rfl;rw[insL,h1,h2];rfl
 | y::r,x,k+1,hl,hk,h=>by
  have h0:=hl 0 y (by omega) rfl;rw[insL,if_pos h0,AaL r x k (λj s hj hs=>hl (j+1) s (by omega) (by simpa using hs)) (by simpa using hk) (λs hs=>h s (by simpa using hs))];rfl
theorem Ady:∀(ss:List ByteArray) (x:ByteArray) (k:Nat),lowL ss x k->(∃s,ss[k]?=some s/\lessB s x=false/\sameB s x=true)->insL ss x=ss
 | [],x,k,_,⟨s,hs,_⟩=>by simp at hs
 | y::r,x,0,_,⟨s,hs,h1,h2⟩=>by
  obtain rfl:y=s:=by simpa using hs
  rw[insL,h1,h2];rfl
 | y::r,x,k+1,hl,⟨s,hs,h1,h2⟩=>by
  have h0:=hl 0 y (by omega) rfl;rw[insL,if_pos h0,Ady r x k (λj s hj hs=>hl (j+1) s (by omega) (by simpa using hs)) ⟨s,by simpa using hs,h1,h2⟩]
theorem AbH (ss:List ByteArray) (x:ByteArray):(insL ss x).length<=ss.length+1:=by
 induction ss with
 | nil=>simp[insL]
 | cons y r ih =>
  rw[insL];split
  ·simp;omega
  ·split<;>simp
def Ow (w W:World) (g:Nat) (ss:List ByteArray) (v:Value) (n:Nat) (xs:List Value):Prop:=W.ownsRow w.heap.size 9 1 v n xs/\StrsAt W g 0 ss/\Below w.heap.size w W
theorem Ow.grow {w W W':World} {g n n':Nat} {ss:List ByteArray} {v v':Value} {xs ys:List Value} (h:Ow w W g ss v n xs) (hg:g<w.heap.size) (hgr:W.grownBy W' v.ownBlock) (ho:W'.ownsRow w.heap.size 9 1 v' n' ys):Ow w W' g ss v' n' ys :=
 ⟨ho,h.2.1.own h.1 hgr hg,G4 h.2.2 h.1 hgr (A3 _)⟩
theorem Ow.alloc {w W:World} {g n:Nat} {ss:List ByteArray} {v:Value} {xs:List Value} (h:Ow w W g ss v n xs) (o:Obj):Ow w (W.alloc o) g ss v n xs :=
 ⟨h.1.alloc o,h.2.1.alloc o,h.2.2.alloc h.2.2.size o⟩
theorem Ow.drew {w W:World} {g n:Nat} {ss:List ByteArray} {v:Value} {xs:List Value} (h:Ow w W g ss v n xs):Ow w W.drew g ss v n xs:=⟨h.1,h.2.1,h.2.2.drew⟩
theorem S0 {w W:World} {g:Nat} {ss:List ByteArray} (hS:StrsAt W g 0 ss) (hB:Below w.heap.size w W):Ow w (W.alloc (.cells #[] 9)) g ss (.slice (some ⟨W.heap.size,0,none⟩) 0 0) 0 [] :=
 ⟨B8 W #[] 0 hB.size (Nat.zero_le _) rfl,hS.alloc _,hB.alloc hB.size _⟩
theorem Abb {W:World} {g o2 k c:Nat} {ss:List ByteArray} (h:StrsAt W g 0 ss) (ho:(if c=k then some (⟨g,0,none⟩:Addr) else some ⟨g,k,none⟩)=some ⟨g,o2,none⟩) (hc:ss.length<=c):StrsAt W g o2 (ss.drop k):=by
 by_cases h7:c=k
 ·intro i s hs
  have:=(A2.1 hs).1;simp at this;omega
 ·rw[if_neg h7] at ho
  obtain rfl:k=o2:=by simpa using ho
  have:=h.drop k;simpa using this
end Go.Proofs.YtgecdacgmehmbaaGreatDoor
namespace Go.Proofs.YtgecdacgmehmbaaGreatDoor
def chg (b:Bk) (p:Nat) (f:Ba->Ba):Bk:=match b.bs[p]? with
 | some x=>⟨b.things,b.bs.set p (f x)⟩
 | none=>b
theorem AdU {b:Bk} {p:Nat} {f:Ba->Ba} {x:Ba} (h:b.bs[p]?=some x):chg b p f=⟨b.things,b.bs.set p (f x)⟩:=by simp[chg,h]
def needsAt (b:Bk) (nm:ByteArray):List ByteArray:=((b.bs[plN b nm]?).map (·.needs)).getD []
theorem Z7 {b:Bk} {nm:ByteArray} {x:Ba} (h:b.bs[plN b nm]?=some x):needsAt b nm=x.needs:=by simp[needsAt,h]
def insAll (has things:List ByteArray):List ByteArray:=things.foldl insL has
def askF (things:List ByteArray) (x:Ba):Ba:=⟨x.nm,insAll x.has things,x.needs⟩
theorem Aha (has things:List ByteArray) (k:Nat) (hk:k<things.length):insAll has (things.take (k+1))=insL (insAll has (things.take k)) things[k]:=by
 unfold insAll;rw[A7 hk,List.foldl_append];rfl
theorem AbI (has:List ByteArray):∀things:List ByteArray,(insAll has things).length<=has.length+things.length:=by
 intro things;induction things generalizing has with
 | nil=>simp[insAll]
 | cons x r ih =>
  have h1:=ih (insL has x);have h2:=AbH has x;simp only[insAll,List.foldl_cons,List.length_cons] at *;omega
theorem Al2 (ss:List ByteArray) (x:ByteArray):∀s∈insL ss x,s∈ss∨s=x:=by
 induction ss with
 | nil=>intro s hs;simp[insL] at hs;exact .inr hs
 | cons y r ih =>
  intro s hs;simp only[insL] at hs;split at hs
  ·rcases List.mem_cons.1 hs with h|h
   ·exact .inl (by simp[h])
   ·rcases ih s h with h|h
    ·exact .inl (by simp[h])
    ·exact .inr h
  ·split at hs
   ·exact .inl hs
   ·rcases List.mem_cons.1 hs with h|h
    ·exact .inr h
    ·exact .inl h
theorem AbJ (has:List ByteArray):∀things:List ByteArray,∀s∈insAll has things,s∈has∨s∈things:=by
 intro things;induction things generalizing has with
 | nil=>intro s hs;exact .inl hs
 | cons x r ih =>
  intro s hs;rcases ih (insL has x) s hs with h|h
  ·rcases Al2 has x s h with h|h
   ·exact .inl h
   ·exact .inr (by simp[h])
  ·exact .inr (by simp[h])
end Go.Proofs.YtgecdacgmehmbaaGreatDoor
namespace Go.Proofs.YtgecdacgmehmbaaGreatDoor
open Go.RowKit Go.Extern.Stop Go.Stop Go.Extern
theorem AjY (t:Value) (w:World):Calls Tryz.prog 81 #[.nilIface,t] w λe w'=>e=.returned (.bool false)/\w'=w:=by
 go_enter Tryz.func81,Tryz.ntmps81
 go_wp2
 go_ret
 exact⟨rfl,rfl⟩
theorem Abc (t:Addr) (w:World):(ReflectliteValue.unpack (.iface 132 (.pointer (some t)))).run Tryz.prog w=.ok (Value.agg #[(Value.pointer (some ⟨2,132,none⟩)),.pointer (some ⟨w.heap.size,0,none⟩),.int .u64 150]) (w.alloc (.cells #[.pointer (some t)] 132)):=by kernel_rfl
theorem AbK (a:Addr) (w:World):(ReflectliteValue.methodAny (ReflectliteValue.valueError "reflectlite.Value.Type" 0) (λt _ _ _=>ReflectliteType.toType t) #[(Value.agg #[(Value.pointer (some ⟨2,132,none⟩)),.pointer (some a),.int .u64 150])]).run Tryz.prog w=.ok (Value.iface 187 (.agg #[(Value.pointer (some ⟨2,132,none⟩))])) w:=by kernel_rfl
theorem AbL (h:Value) (w:World):(Go.method 161 187 (.agg #[h]) "Kind").run Tryz.prog w=.ok (241,h) w:=by kernel_rfl
theorem AbM (h:Value) (w:World):(Go.method 161 187 (.agg #[h]) "Elem").run Tryz.prog w=.ok (255,.agg #[h]) w:=by kernel_rfl
theorem AbN (h:Value) (w:World):(Go.method 161 187 (.agg #[h]) "Implements").run Tryz.prog w=.ok (256,.agg #[h]) w:=by kernel_rfl
theorem Aa5 (h:Value) (w:World):(Go.method 161 187 (.agg #[h]) "AssignableTo").run Tryz.prog w=.ok (253,.agg #[h]) w:=by kernel_rfl
theorem AbO (w:World):((ReflectliteType.abiMethod λt=>(λa:Nat=>Value.int IntKind.u8 (a:Int)) <$> Rtype.kind t) #[(Value.pointer (some ⟨2,132,none⟩))]).run Tryz.prog w=.ok (.int .u8 22) w:=by kernel_rfl
theorem AbP (w:World):((ReflectliteType.abiMethod λt=>(λa:Nat=>Value.int IntKind.u8 (a:Int)) <$> Rtype.kind t) #[(Value.pointer (some ⟨2,130,none⟩))]).run Tryz.prog w=.ok (.int .u8 25) w:=by kernel_rfl
theorem AbQ (w:World):(ReflectliteType.method ReflectliteType.elem #[.agg #[(Value.pointer (some ⟨2,132,none⟩))]]).run Tryz.prog w=.ok (Value.iface 187 (.agg #[(Value.pointer (some ⟨2,130,none⟩))])) w:=by kernel_rfl
theorem AbR (w:World):(ReflectliteType.relation "Implements" ReflectliteType.implements_ #[.agg #[(Value.pointer (some ⟨2,130,none⟩))],(Value.iface 187 (.agg #[(Value.pointer (some ⟨2,86,none⟩))]))]).run Tryz.prog w=.ok (.bool true) w:=by kernel_rfl
theorem AbS (v:Value) (w:World):(ReflectliteType.typeOf #[.iface 130 v]).run Tryz.prog w=.ok (Value.iface 187 (.agg #[(Value.pointer (some ⟨2,130,none⟩))])) w:=by kernel_rfl
theorem AfP (v:Value) (w:World):(ReflectliteType.typeOf #[.iface 236 v]).run Tryz.prog w=.ok (Value.iface 187 (.agg #[(Value.pointer (some ⟨2,236,none⟩))])) w:=by kernel_rfl
theorem Aa6 (w:World):(ReflectliteType.relation "AssignableTo" ReflectliteType.assignableTo #[.agg #[(Value.pointer (some ⟨2,130,none⟩))],(Value.iface 187 (.agg #[(Value.pointer (some ⟨2,130,none⟩))]))]).run Tryz.prog w=.ok (.bool true) w:=by kernel_rfl
theorem AdV (w:World):(ReflectliteType.relation "AssignableTo" ReflectliteType.assignableTo #[.agg #[(Value.pointer (some ⟨2,236,none⟩))],(Value.iface 187 (.agg #[(Value.pointer (some ⟨2,130,none⟩))]))]).run Tryz.prog w=.ok (.bool false) w:=by kernel_rfl
theorem Abd (c:Int) (w:World):(ReflectliteValue.unpack (.iface 130 (.agg #[.int .i64 c]))).run Tryz.prog w=.ok (.agg #[(Value.pointer (some ⟨2,130,none⟩)),.pointer (some ⟨w.heap.size,0,none⟩),.int .u64 153]) (w.alloc (.cells #[.int .i64 c] 130)):=by kernel_rfl
theorem AjZ (w:World):(Rtype.elem? 132).run Tryz.prog w=.ok (some 130) w:=by kernel_rfl
theorem ea_mkR (p:Addr) (w:World):(ReflectliteValue.mk 130 p ReflectliteValue.flagAddr).run Tryz.prog w=.ok (.agg #[(Value.pointer (some ⟨2,130,none⟩)),.pointer (some p),.int .u64 409]) w:=by kernel_rfl
theorem AeM (a:Addr) (w:World):(ReflectliteValue.parts (Value.agg #[(Value.pointer (some ⟨2,132,none⟩)),.pointer (some a),.int .u64 150])).run Tryz.prog w=.ok (some (132,a,150)) w:=by kernel_rfl
theorem Aka (a:Addr) (w:World):(ReflectliteValue.parts (.agg #[(Value.pointer (some ⟨2,130,none⟩)),.pointer (some a),.int .u64 409])).run Tryz.prog w=.ok (some (130,a,409)) w:=by kernel_rfl
theorem Akb (a:Addr) (w:World):(ReflectliteValue.parts (.agg #[(Value.pointer (some ⟨2,130,none⟩)),.pointer (some a),.int .u64 153])).run Tryz.prog w=.ok (some (130,a,153)) w:=by kernel_rfl
theorem Akc (w:World):(Rtype.directlyAssignable 130 130).run Tryz.prog w=.ok true w:=by kernel_rfl
end Go.Proofs.YtgecdacgmehmbaaGreatDoor
namespace Go.Proofs.YtgecdacgmehmbaaGreatDoor
open Go.RowKit
structure Ph where
 nm:ByteArray
 k:Int
 a:ByteArray
 b:ByteArray
 n:Int
 wi:Int
 t:ByteArray
 e:ByteArray
def Ph.cells (p:Ph):List Value:=[.string p.nm,.int .i64 p.k,.string p.a,.string p.b,.int .i64 p.n,.int .i64 p.wi,.string p.t,.string p.e]
def Ph.okB (p:Ph):Bool:=phaseB p.nm p.k p.a p.b p.n p.wi p.t p.e
def RecAt (w:World) (b o:Nat) (ps:List Ph):Prop:=∀(i:Nat) (p:Ph),ps[i]?=some p->w.rangeAt b (o+i*8) p.cells
def Sized (ps:List Ph):Prop:=∀p∈ps,p.nm.size<=maxLen/\p.a.size<=maxLen/\p.b.size<=maxLen/\p.t.size<=maxLen/\p.e.size<=maxLen
def hasB (ps:List Ph) (nm:ByteArray):Bool:=ps.any λp=>p.nm.toList==nm.toList
def atI (ps:List Ph) (nm:ByteArray):Int:=match ps.findIdx? λp=>p.nm.toList==nm.toList with
 | some i=>i
 | none=>-1
theorem RecAt.cells {w:World} {b o:Nat} {ps:List Ph} (h:RecAt w b o ps) (i:Nat) (hi:i<ps.length) :
  w.cell? ⟨b,o+i*8,none⟩=some (.string (ps[i]).nm)/\w.cell? ⟨b,o+i*8+1,none⟩=some (.int .i64 (ps[i]).k)/\w.cell? ⟨b,o+i*8+2,none⟩=some (.string (ps[i]).a)/\w.cell? ⟨b,o+i*8+3,none⟩=some (.string (ps[i]).b)/\
  w.cell? ⟨b,o+i*8+4,none⟩=some (.int .i64 (ps[i]).n)/\w.cell? ⟨b,o+i*8+5,none⟩=some (.int .i64 (ps[i]).wi)/\w.cell? ⟨b,o+i*8+6,none⟩=some (.string (ps[i]).t)/\w.cell? ⟨b,o+i*8+7,none⟩=some (.string (ps[i]).e):=by
 have hr:=h i ps[i] (by simp[hi]);exact⟨hr 0 _ rfl,hr 1 _ rfl,hr 2 _ rfl,hr 3 _ rfl,hr 4 _ rfl,hr 5 _ rfl,hr 6 _ rfl,hr 7 _ rfl⟩
theorem RecAt.drop {w:World} {b o:Nat} {ps:List Ph} (h:RecAt w b o ps) (i:Nat):RecAt w b (o+i*8) (ps.drop i):=λj p hp=>by
 have:=h (i+j) p (by simpa [List.getElem?_drop] using hp);rwa [show o+i*8+j*8=o+(i+j)*8 by omega]
theorem RecAt.up {w w':World} {b o B:Nat} {ps:List Ph} (h:RecAt w b o ps) (hb:Below B w w') (hB:b<B):RecAt w' b o ps:=λi p hp j v hv=>by
 rw[hb.cell (p:=⟨b,o+i*8+j,none⟩) hB];exact h i p hp j v hv
theorem AeN (ps:List Ph) (nm:ByteArray) (k:Nat) (h:k<ps.length):hasB (ps.take (k+1)) nm=(hasB (ps.take k) nm || ((ps[k]).nm.toList==nm.toList)):=by
 unfold hasB;rw[A7 h,List.any_append];simp
theorem Adz (ps:List Ph) (nm:ByteArray) (k:Nat) (h:¬k<ps.length) (hn:hasB (ps.take k) nm=false):hasB ps nm=false:=by
 rwa [D2 (by omega)] at hn
theorem Al3 (ps:List Ph) (nm:ByteArray) (k:Nat) (h:k<ps.length) (he:((ps[k]).nm.toList==nm.toList)=true):hasB ps nm=true:=by
 unfold hasB;rw[List.any_eq_true];exact⟨ps[k],by simp,he⟩
theorem S8 (ps:List Ph) (nm:ByteArray):hasB ps nm=true↔∃(j:Nat) (q:Ph),ps[j]?=some q/\(q.nm.toList==nm.toList)=true:=by
 unfold hasB;rw[List.any_eq_true];constructor
 ·rintro⟨q,hq,he⟩
  obtain⟨j,hj,rfl⟩:=B5 hq;exact⟨j,ps[j],by simp[hj],he⟩
 ·rintro⟨j,q,hq,he⟩
  exact⟨q,A6 hq,he⟩
theorem Ad0 (ps:List Ph) (nm:ByteArray) (h:hasB ps nm=false):atI ps nm=-1:=by
 have:(ps.findIdx? λp=>p.nm.toList==nm.toList)=none:=by
  rw[List.findIdx?_eq_none_iff];simpa [hasB] using h
 simp only[atI,this]
theorem AeO (ps:List Ph) (nm:ByteArray) (k:Nat) (h:k<ps.length) (hn:hasB (ps.take k) nm=false) (he:((ps[k]).nm.toList==nm.toList)=true):atI ps nm=k:=by
 have:(ps.findIdx? λp=>p.nm.toList==nm.toList)=some k:=by
  rw[List.findIdx?_eq_some_iff_getElem];refine⟨h,he,λj hj=>?_⟩;intro hc
  have:hasB (ps.take k) nm=true:=by
   rw[S8];exact⟨j,ps[j],by simp[hj,Nat.lt_trans hj h],hc⟩
  rw[hn] at this;cases this
 simp only[atI,this]
def goesB (later:List Ph) (nm:ByteArray):Bool:=endN nm != 0 || hasB later nm
end Go.Proofs.YtgecdacgmehmbaaGreatDoor
namespace Go.Proofs.YtgecdacgmehmbaaGreatDoor
def stepI (ps:List Ph) (i:Nat) (p:Ph):Bool:=p.okB && !hasB (ps.drop (i+1)) p.nm&&goesB (ps.drop (i+1)) p.t&&goesB (ps.drop (i+1)) p.e
def stepS (ps:List Ph) (i:Nat) (p:Ph):Bool:=p.okB&&atI ps p.nm==(i:Int) && !(endN p.t==0&&decide (atI ps p.t<=(i:Int))) && !(endN p.e==0&&decide (atI ps p.e<=(i:Int)))
def allI (ps:List Ph) (k:Nat):Prop:=∀(i:Nat) (p:Ph),i<k->ps[i]?=some p->stepI ps i p=true
def allS (ps:List Ph) (k:Nat):Prop:=∀(i:Nat) (p:Ph),i<k->ps[i]?=some p->stepS ps i p=true
def recB (ps:List Ph):Bool:=decide (1<=ps.length)&&decide (ps.length<=12)&&(List.range ps.length).all λi=>(ps[i]?.map (stepI ps i)).getD true
theorem I4 (ps:List Ph):recB ps=true↔1<=ps.length/\ps.length<=12/\allI ps ps.length:=by
 simp only[recB,Bool.and_eq_true,decide_eq_true_eq,List.all_eq_true,List.mem_range,allI,and_assoc];refine and_congr_right λ_=>and_congr_right λ_=>⟨λh i p hi hp=>?_,λh i hi=>?_⟩
 ·have:=h i hi;simpa [hp] using this
 ·have hg:ps[i]?=some ps[i]:=by simp[hi]
  rw[hg];simpa using h i ps[i] hi hg
theorem Y3 (ps:List Ph) (nm:ByteArray) (i:Nat):hasB (ps.drop i) nm=true↔∃(j:Nat) (q:Ph),i<=j/\ps[j]?=some q/\(q.nm.toList==nm.toList)=true:=by
 rw[S8];constructor
 ·rintro⟨j,q,hq,he⟩
  exact⟨i+j,q,by omega,by simpa [List.getElem?_drop] using hq,he⟩
 ·rintro⟨j,q,hj,hq,he⟩
  exact⟨j-i,q,by rw[List.getElem?_drop,show i+(j-i)=j by omega];exact hq,he⟩
theorem Y4 (ps:List Ph) (nm:ByteArray):(hasB ps nm=false/\atI ps nm=-1)∨∃(j:Nat) (q:Ph),ps[j]?=some q/\(q.nm.toList==nm.toList)=true/\atI ps nm=(j:Int)/\∀(l:Nat) (r:Ph),l<j->ps[l]?=some r->(r.nm.toList==nm.toList)=false:=by
 cases h:ps.findIdx? λp=>p.nm.toList==nm.toList with
 | none =>
  left
  rw[List.findIdx?_eq_none_iff] at h;exact⟨by simpa [hasB] using h,by simp only[atI,List.findIdx?_eq_none_iff.2 h]⟩
 | some j =>
  right
  have h':=h;rw[List.findIdx?_eq_some_iff_getElem] at h;obtain⟨hj,he,hl⟩:=h;refine⟨j,ps[j],by simp[hj],he,by simp only[atI,h'],λl r hlj hr=>?_⟩;obtain⟨hl',rfl⟩:=A2.1 hr;simpa using hl l hlj
theorem AdW {a b c:List UInt8} (h1:(a==b)=true) (h2:(c==b)=true):(a==c)=true:=by
 rw[beq_iff_eq] at *;rw[h1,h2]
theorem Afs (ps:List Ph):allI ps ps.length↔allS ps ps.length:=by
 have lt_of:∀{i:Nat} {p:Ph},ps[i]?=some p->i<ps.length:=λh=>(A2.1 h).1
 have key:∀(i:Nat) (nm:ByteArray),(∀(l j:Nat) (r q:Ph),ps[l]?=some r->ps[j]?=some q->(r.nm.toList==q.nm.toList)=true->l=j)->
   (goesB (ps.drop (i+1)) nm=true↔(!(endN nm==0&&decide (atI ps nm<=(i:Int))))=true):=by
  intro i nm hu;unfold goesB;by_cases h0:endN nm=0
  ·simp only[h0,bne_self_eq_false,Bool.false_or,beq_self_eq_true,Bool.true_and,Bool.not_eq_true',decide_eq_false_iff_not]
   rw[Y3];rcases Y4 ps nm with⟨hn,ha⟩|⟨j,q,hq,he,ha,_⟩
   ·rw[ha]
    constructor
    ·rintro⟨l,r,_,hr,hre⟩
     have:hasB ps nm=true:=(S8 _ _).2 ⟨l,r,hr,hre⟩;rw[hn] at this;cases this
    ·intro h;omega
   ·rw[ha]
    constructor
    ·rintro⟨l,r,hl,hr,hre⟩
     have:=hu l j r q hr hq (AdW hre he);omega
    ·intro h
     exact⟨j,q,by omega,hq,he⟩
  ·have:(endN nm==0)=false:=by simpa using h0
   simp[this,bne]
 constructor
 ·intro h i p hi hp
  have hu:∀(l j:Nat) (r q:Ph),ps[l]?=some r->ps[j]?=some q->(r.nm.toList==q.nm.toList)=true->l=j:=by
   intro l j r q hr hq he;rcases Nat.lt_trichotomy l j with hlj|rfl|hlj
   ·have hs:=h l r (lt_of hr) hr
    simp only[stepI,Bool.and_eq_true,Bool.not_eq_true'] at hs;have:hasB (ps.drop (l+1)) r.nm=true:=(Y3 _ _ _).2 ⟨j,q,hlj,hq,by rw[Bool.beq_comm];exact he⟩;rw[hs.1.1.2] at this;cases this
   ·rfl
   ·have hs:=h j q (lt_of hq) hq
    simp only[stepI,Bool.and_eq_true,Bool.not_eq_true'] at hs;have:hasB (ps.drop (j+1)) q.nm=true:=(Y3 _ _ _).2 ⟨l,r,hlj,hr,he⟩;rw[hs.1.1.2] at this;cases this
  have hs:=h i p hi hp;simp only[stepI,Bool.and_eq_true] at hs;simp only[stepS,Bool.and_eq_true];refine⟨⟨⟨hs.1.1.1,?_⟩,(key i p.t hu).1 hs.1.2⟩,(key i p.e hu).1 hs.2⟩;rcases Y4 ps p.nm with⟨hn,_⟩|⟨j,q,hq,he,ha,_⟩
  ·have:hasB ps p.nm=true:=(S8 _ _).2 ⟨i,p,hp,by simp⟩
   rw[hn] at this;cases this
  ·rw[ha,hu j i q p hq hp he];simp
 ·intro h i p hi hp
  have hu:∀(l j:Nat) (r q:Ph),ps[l]?=some r->ps[j]?=some q->(r.nm.toList==q.nm.toList)=true->l=j:=by
   intro l j r q hr hq he;have h1:=h l r (lt_of hr) hr;have h2:=h j q (lt_of hq) hq;simp only[stepS,Bool.and_eq_true,beq_iff_eq] at h1 h2
   have:atI ps r.nm=atI ps q.nm:=by
    have e:r.nm.toList=q.nm.toList:=by simpa using he
    simp only[atI,e]
   have:=h1.1.1.2.symm.trans (this.trans h2.1.1.2);omega
  have hs:=h i p hi hp;simp only[stepS,Bool.and_eq_true] at hs;simp only[stepI,Bool.and_eq_true];refine⟨⟨⟨hs.1.1.1,?_⟩,(key i p.t hu).2 hs.1.2⟩,(key i p.e hu).2 hs.2⟩;rw[Bool.not_eq_true',← Bool.not_eq_true];intro hc;obtain⟨j,q,hj,hq,he⟩:=(Y3 _ _ _).1 hc;have:=hu j i q p hq hp he;omega
theorem Ac3 (ps:List Ph):recB ps=true↔1<=ps.length/\ps.length<=12/\allS ps ps.length:=by rw[I4,Afs]
theorem AhZ {x:Bool} {Q:Prop} [Decidable Q] (h:¬(x=true/\Q)):(!(x&&decide Q))=true:=by cases x<;>simp_all
theorem Al4 (ps:List Ph) (k:Nat) (hk:k<ps.length) (h:stepS ps k ps[k]=false):recB ps=false:=by
 rw[← Bool.not_eq_true,Ac3];rintro⟨_,_,ha⟩;have:=ha k ps[k] hk (by simp[hk]);rw[h] at this;cases this
theorem Al5 (ps:List Ph) (k:Nat) (hk:k<ps.length) (h:stepI ps k ps[k]=false):recB ps=false:=by
 rw[← Bool.not_eq_true,I4];rintro⟨_,_,ha⟩;have:=ha k ps[k] hk (by simp[hk]);rw[h] at this;cases this
theorem Ad1 (ps:List Ph) (h:¬(1<=ps.length/\ps.length<=12)):recB ps=false:=by
 rw[← Bool.not_eq_true,I4];rintro⟨h1,h2,_⟩;exact h ⟨h1,h2⟩
theorem Akd {ps:List Ph} {k:Nat} (h:allS ps k) (hk:k<ps.length) (hs:stepS ps k ps[k]=true):allS ps (k+1):=λi p hi hp=>by
 rcases Nat.lt_or_ge i k with h'|h'
 ·exact h i p h' hp
 ·obtain rfl:i=k:=by omega
  obtain⟨_,rfl⟩:=A2.1 hp;exact hs
theorem Ake {ps:List Ph} {k:Nat} (h:allI ps k) (hk:k<ps.length) (hs:stepI ps k ps[k]=true):allI ps (k+1):=λi p hi hp=>by
 rcases Nat.lt_or_ge i k with h'|h'
 ·exact h i p h' hp
 ·obtain rfl:i=k:=by omega
  obtain⟨_,rfl⟩:=A2.1 hp;exact hs
theorem Akf (ps:List Ph):allS ps 0:=λ_ _ h=>by omega
theorem Akg (ps:List Ph):allI ps 0:=λ_ _ h=>by omega
theorem Akh (ps:List Ph) (k:Nat) (h1:1<=ps.length/\ps.length<=12) (hk:k<=ps.length) (hk':¬k<ps.length) (ha:allS ps k):recB ps=true:=by
 obtain rfl:k=ps.length:=by omega
 exact (Ac3 ps).2 ⟨h1.1,h1.2,ha⟩
theorem Aki (ps:List Ph) (k:Nat) (h1:1<=ps.length/\ps.length<=12) (hk:k<=ps.length) (hk':¬k<ps.length) (ha:allI ps k):recB ps=true:=by
 obtain rfl:k=ps.length:=by omega
 exact (I4 ps).2 ⟨h1.1,h1.2,ha⟩
def bothL (a:List ByteArray) (b:List ByteArray):List ByteArray:=b.foldl insL a
theorem Ai7 (a b:List ByteArray) (k:Nat) (hk:k<b.length):bothL a (b.take (k+1))=insL (bothL a (b.take k)) b[k]:=by
 unfold bothL;rw[A7 hk,List.foldl_append];rfl
theorem Abe (a:List ByteArray):∀b:List ByteArray,(bothL a b).length<=a.length+b.length
 | []=>by simp[bothL]
 | x::r=>by
  have h1:=Abe (insL a x) r;have h2:=AbH a x;simp only[bothL,List.foldl_cons,List.length_cons] at *;omega
def ofL (p:Ph):List ByteArray:=if p.k=2 then insL [p.a] p.b else [p.a]
end Go.Proofs.YtgecdacgmehmbaaGreatDoor
namespace Go.Proofs.YtgecdacgmehmbaaGreatDoor
open Go.RowKit
theorem V8 (s:ByteArray) (w:World) (hs:s.size<=maxLen) :
  Calls Tryz.prog 101 #[.string s] w λe w'=>e=.returned (.bool (nameB s&&endN s==0))/\w'=w:=by
 cases hn:nameB s
 all_goals
  go_enter Tryz.func101,Tryz.ntmps101
  go_wp2_with (first|(go_at_call 28;refine (G6 _ _ (by assumption)).mono ?_;rintro e w' ⟨rfl,rfl⟩)|(go_at_call 66;refine (L1 _ _).mono ?_;rintro e w' ⟨rfl,rfl⟩))
  go_ret
  exact⟨D6 (by simp),rfl⟩
theorem AbT (nm:ByteArray) (k:Int) (a b:ByteArray) (n wi:Int) (t e:ByteArray) (w:World) (ha:a.size<=maxLen) (hb:b.size<=maxLen) :
  Calls Tryz.prog 102 #[.agg #[.string nm,.int .i64 k,.string a,.string b,.int .i64 n,.int .i64 wi,.string t,.string e]] w
   λe w'=>e=.returned (.bool (argsB k a b n wi))/\Below w.heap.size w w':=by
 by_cases h1:k=1
 ·subst h1
  cases hA:nameB a<;>cases hB:nameB b
  all_goals
   go_enter Tryz.func102,Tryz.ntmps102
   go_wp2_with (first|(go_at_call 28;refine (G6 _ _ (by assumption)).mono ?_;rintro e w' ⟨rfl,rfl⟩)|(go_at_call 57;refine (G7 _ _ _ _).mono ?_;rintro e w' ⟨rfl,rfl⟩))
   go_ret
   exact⟨D6 (by simp[argsB,hA,hB]),(A4 _ _).alloc (A3 _) _⟩
 by_cases h2:k=2
 ·subst h2
  cases hA:nameB a<;>cases hB:nameB b<;>cases hE:(a.toList==b.toList)
  all_goals
   go_enter Tryz.func102,Tryz.ntmps102
   go_wp2_with (first|(go_at_call 28;refine (G6 _ _ (by assumption)).mono ?_;rintro e w' ⟨rfl,rfl⟩)|(go_at_call 57;refine (G7 _ _ _ _).mono ?_;rintro e w' ⟨rfl,rfl⟩))
   go_ret
   exact⟨D6 (by simp[argsB,hA,hB,hE]),(A4 _ _).alloc (A3 _) _⟩
 by_cases h3:k=3
 ·subst h3
  cases hA:nameB a<;>cases hE:b.toList.isEmpty
  all_goals
   go_enter Tryz.func102,Tryz.ntmps102
   go_wp2_with (first|(go_at_call 28;refine (G6 _ _ (by assumption)).mono ?_;rintro e w' ⟨rfl,rfl⟩)|(go_at_call 57;refine (G7 _ _ _ _).mono ?_;rintro e w' ⟨rfl,rfl⟩))
   go_ret
   exact⟨D6 (by simp[argsB,hA,hE]),(A4 _ _).alloc (A3 _) _⟩
 by_cases h4:k=4
 ·subst h4
  cases hA:nameB a<;>cases hE:b.toList.isEmpty
  all_goals
   go_enter Tryz.func102,Tryz.ntmps102
   go_wp2_with (first|(go_at_call 28;refine (G6 _ _ (by assumption)).mono ?_;rintro e w' ⟨rfl,rfl⟩)|(go_at_call 57;refine (G7 _ _ _ _).mono ?_;rintro e w' ⟨rfl,rfl⟩))
   go_ret
   exact⟨D6 (by simp[argsB,hA,hE]),(A4 _ _).alloc (A3 _) _⟩
 by_cases h5:k=5
 ·subst h5
  cases hA:nameB a<;>cases hE:b.toList.isEmpty
  all_goals
   go_enter Tryz.func102,Tryz.ntmps102
   go_wp2_with (first|(go_at_call 28;refine (G6 _ _ (by assumption)).mono ?_;rintro e w' ⟨rfl,rfl⟩)|(go_at_call 57;refine (G7 _ _ _ _).mono ?_;rintro e w' ⟨rfl,rfl⟩))
   go_ret
   exact⟨D6 (by simp[argsB,hA,hE]),(A4 _ _).alloc (A3 _) _⟩
 have hr:Hid (argsB k a b n wi=false):=by show _=_;simp[argsB,h1,h2,h3,h4,h5]
 have e1:(k==1)=false:=by simpa using h1
 have e2:(k==2)=false:=by simpa using h2
 have e3:(k==3)=false:=by simpa using h3
 have e4:(k==4)=false:=by simpa using h4
 have e5:(k==5)=false:=by simpa using h5
 clear h1 h2 h3 h4 h5;go_enter Tryz.func102,Tryz.ntmps102
 go_wp2_with (first|(go_at_call 28;refine (G6 _ _ (by assumption)).mono ?_;rintro e w' ⟨rfl,rfl⟩)|(go_at_call 57;refine (G7 _ _ _ _).mono ?_;rintro e w' ⟨rfl,rfl⟩))
 go_ret
 exact⟨D6 hr.out.symm,(A4 _ _).alloc (A3 _) _⟩
theorem K9 (nm:ByteArray) (k:Int) (a b:ByteArray) (n wi:Int) (t e:ByteArray) (w:World) (hnm:nm.size<=maxLen) (ha:a.size<=maxLen) (hb:b.size<=maxLen) (ht:t.size<=maxLen) (he:e.size<=maxLen) :
  Calls Tryz.prog 64 #[.agg #[.string nm,.int .i64 k,.string a,.string b,.int .i64 n,.int .i64 wi,.string t,.string e]] w
   λe' w'=>e'=.returned (.bool (phaseB nm k a b n wi t e))/\Below w.heap.size w w':=by
 cases h1:(nameB nm&&endN nm==0)
 ·go_enter Tryz.func64,Tryz.ntmps64
  go_wp2_with (go_at_call 101;refine (V8 _ _ (by assumption)).mono ?_;rintro e w' ⟨rfl,rfl⟩)
  go_ret
  exact⟨D6 (by simp[phaseB,h1]),(A4 _ _).alloc (A3 _) _⟩
 cases h2:inB wi 1 1000
 ·go_enter Tryz.func64,Tryz.ntmps64
  go_wp2_with (first|(go_at_call 101;refine (V8 _ _ (by assumption)).mono ?_;rintro e w' ⟨rfl,rfl⟩)|(go_at_call 57;refine (G7 _ _ _ _).mono ?_;rintro e w' ⟨rfl,rfl⟩))
  go_ret
  exact⟨D6 (by simp[phaseB,h2]),(A4 _ _).alloc (A3 _) _⟩
 cases h3:argsB k a b n wi
 ·go_enter Tryz.func64,Tryz.ntmps64
  go_wp2_with (first|(go_at_call 101;refine (V8 _ _ (by assumption)).mono ?_;rintro e w' ⟨rfl,rfl⟩)|(go_at_call 57;refine (G7 _ _ _ _).mono ?_;rintro e w' ⟨rfl,rfl⟩)|(go_at_call 102;refine (AbT _ _ _ _ _ _ _ _ _ (by assumption) (by assumption)).mono ?_;rintro e w' ⟨rfl,hb1⟩;obtain⟨hc,hf⟩:=E2 hb1)|(go_at_call 28;refine (G6 _ _ (by assumption)).mono ?_;rintro e w' ⟨rfl,rfl⟩))
  go_ret
  exact⟨D6 (by simp[phaseB,h3]),D5 ((A4 _ _).alloc (A3 _) _) hb1⟩
 cases h4:nameB t
 ·go_enter Tryz.func64,Tryz.ntmps64
  go_wp2_with (first|(go_at_call 101;refine (V8 _ _ (by assumption)).mono ?_;rintro e w' ⟨rfl,rfl⟩)|(go_at_call 57;refine (G7 _ _ _ _).mono ?_;rintro e w' ⟨rfl,rfl⟩)|(go_at_call 102;refine (AbT _ _ _ _ _ _ _ _ _ (by assumption) (by assumption)).mono ?_;rintro e w' ⟨rfl,hb1⟩;obtain⟨hc,hf⟩:=E2 hb1)|(go_at_call 28;refine (G6 _ _ (by assumption)).mono ?_;rintro e w' ⟨rfl,rfl⟩))
  go_ret
  exact⟨D6 (by simp[phaseB,h4]),D5 ((A4 _ _).alloc (A3 _) _) hb1⟩
 ·go_enter Tryz.func64,Tryz.ntmps64
  go_wp2_with (first|(go_at_call 101;refine (V8 _ _ (by assumption)).mono ?_;rintro e w' ⟨rfl,rfl⟩)|(go_at_call 57;refine (G7 _ _ _ _).mono ?_;rintro e w' ⟨rfl,rfl⟩)|(go_at_call 102;refine (AbT _ _ _ _ _ _ _ _ _ (by assumption) (by assumption)).mono ?_;rintro e w' ⟨rfl,hb1⟩;obtain⟨hc,hf⟩:=E2 hb1)|(go_at_call 28;refine (G6 _ _ (by assumption)).mono ?_;rintro e w' ⟨rfl,rfl⟩))
  go_ret
  exact⟨D6 (by simp[phaseB,h1,h2,h3,h4]),D5 ((A4 _ _).alloc (A3 _) _) hb1⟩
theorem AfQ (n lo hi:Int) (w:World) :
  Calls Tryz.prog 107 #[.int .i64 n,.int .i64 lo,.int .i64 hi] w λe w'=>e=.returned (.bool (inB n lo hi))/\w'=w:=by
 by_cases h1:lo<=n<;>by_cases h2:n<=hi
 all_goals
  go_enter Tryz.func107,Tryz.ntmps107
  go_wp2
  go_ret
  exact⟨D6 (by simp[inB,h1,h2]),rfl⟩
theorem U6 (s:ByteArray) (w:World) (hs:s.size<=maxLen) :
  Calls Tryz.prog 69 #[.string s] w λe w'=>e=.returned (.bool (nameB s))/\w'=w:=by
 unfold maxLen at hs;by_cases h1:1<=s.size/\s.size<=8
 case neg =>
  have h2:inB s.size 1 8=false:=(Aax _ _ _).2 (by omega);go_enter Tryz.func69,Tryz.ntmps69
  go_wp2_with (go_at_call 107;refine (AfQ _ _ _ _).mono ?_;rintro e w' ⟨rfl,hw⟩;obtain rfl:=hw.symm;clear hw)
  go_ret
  exact⟨D6 (by simp only[nameB];simp;omega),rfl⟩
 have hn:Hid (nameB s=allB s.data.toList):=by show nameB s=_;simp[nameB,h1]
 have h2:inB s.size 1 8=true:=(P9 _ _ _).2 (by omega);go_enter Tryz.func69,Tryz.ntmps69
 go_wp2_with (go_at_call 107;refine (AfQ _ _ _ _).mono ?_;rintro e w' ⟨rfl,hw⟩;obtain rfl:=hw.symm;clear hw)
 go_loop [3] (λi=>∃k:Nat,k<=s.size/\i=.int .i64 k/\allB (s.data.toList.take k)=true) (λi=>s.size-(intOf i).toNat)
 case atStart=>exact⟨0,by omega,rfl,rfl⟩
 case round =>
  obtain⟨k,hk,rfl,hal⟩:=hrel;have Hal:Hid (allB (s.data.toList.take k)=true):=hal;clear hal;by_cases hp:k<s.size
  ·have HS:Hid (nbB (s[k]'hp).toNat=true->allB (s.data.toList.take (k+1))=true):=by show _->_;intro hb;rw[AaZ s k hp,Hal.out,hb];rfl
   have HN:Hid (nbB (s[k]'hp).toNat=false->allB s.data.toList=false):=AaF s k hp;go_wp2
   all_goals first
    | (go_ret;exact⟨D6 (by rw[hn.out];exact (HN.out (by rw[← Bool.not_eq_true,AaE];go_light;simp at *;omega)).symm),rfl⟩)
    | (go_round
       case rel=>exact⟨k+1,by omega,by go_num,HS.out (by rw[AaE];go_light;simp at *;omega)⟩
       case measure=>simp[intOf];omega)
  ·go_wp2
   go_ret
   exact⟨D6 (by rw[hn.out,AbA s k hp Hal.out]),rfl⟩
theorem N9 (ss:List ByteArray) (v:Value) (s:ByteArray) (w:World) (h:Ls w v ss) :
  Calls Tryz.prog 108 #[v,.string s] w λe w'=>e=.returned (.bool (memS ss s))/\w'=w:=by
 obtain⟨a,c,rfl,hn,-,hpos⟩:=h;unfold maxLen at hn;go_enter Tryz.func108,Tryz.ntmps108
 go_wp2
 go_loop [5] (λi=>∃k:Nat,k<=ss.length/\i=.int .i64 k/\memS (ss.take k) s=false) (λi=>ss.length-(intOf i).toNat)
 case atStart=>exact⟨0,by omega,rfl,rfl⟩
 case round =>
  obtain⟨k,hk,rfl,hal⟩:=hrel;have Hal:Hid (memS (ss.take k) s=false):=hal;clear hal;by_cases hp:k<ss.length
  ·obtain⟨b,o,rfl,hS,hb⟩:=hpos (by omega)
   have c0:=hS.cell hp;cases hq:((ss[k]).toList==s.toList)
   ·have Hq:Hid (((ss[k]).toList==s.toList)=false):=hq
    go_wp2
    go_round
    case rel=>exact⟨k+1,by omega,by go_num,Aay hp Hal.out Hq.out⟩
    case measure=>simp[intOf];omega
   ·have Hq:Hid (((ss[k]).toList==s.toList)=true):=hq
    go_wp2
    go_ret
    exact⟨D6 (AbD hp Hq.out).symm,rfl⟩
  ·go_wp2
   go_ret
   exact⟨D6 (AaJ hp Hal.out).symm,rfl⟩
theorem Aat (xs ys:List ByteArray) (u v:Value) (w:World) (h:Ls w u xs) (h2:Ls w v ys) :
  Calls Tryz.prog 106 #[u,v] w λe w'=>e=.returned (.bool (shareB xs ys))/\w'=w:=by
 obtain⟨a,c,rfl,hn,-,hpos⟩:=h;obtain⟨a2,c2,rfl,-⟩:=id h2;unfold maxLen at hn;go_enter Tryz.func106,Tryz.ntmps106
 go_wp2
 go_loop [5] (λi=>∃k:Nat,k<=xs.length/\i=.int .i64 k/\shareB (xs.take k) ys=false) (λi=>xs.length-(intOf i).toNat)
 case atStart=>exact⟨0,by omega,rfl,rfl⟩
 case round =>
  obtain⟨k,hk,rfl,hal⟩:=hrel;have Hal:Hid (shareB (xs.take k) ys=false):=hal;clear hal;by_cases hp:k<xs.length
  ·obtain⟨b,o,rfl,hS,hb⟩:=hpos (by omega)
   have c0:=hS.cell hp;cases hq:memS ys xs[k]
   ·have Hq:Hid (memS ys xs[k]=false):=hq
    go_wp2_with (go_at_call 108;refine (N9 ys _ _ _ h2).mono ?_;rintro e w' ⟨rfl,hw⟩;obtain rfl:=hw.symm;clear hw)
    go_round
    case rel=>exact⟨k+1,by omega,by go_num,AgZ hp Hal.out Hq.out⟩
    case measure=>simp[intOf];omega
   ·have Hq:Hid (memS ys xs[k]=true):=hq
    go_wp2_with (go_at_call 108;refine (N9 ys _ _ _ h2).mono ?_;rintro e w' ⟨rfl,hw⟩;obtain rfl:=hw.symm;clear hw)
    go_ret
    exact⟨D6 (AfE hp Hq.out).symm,rfl⟩
  ·go_wp2
   go_ret
   exact⟨D6 (Ai4 hp Hal.out).symm,rfl⟩
theorem L6 {w w':World} {m n:Nat} (h:w'=w.drewN m):∃k,w'.drewN n=w.drewN k:=⟨_,by rw[h,World.drewN_drewN]⟩
theorem X9 (ss all:List ByteArray) (u v:Value) (w:World) (h:Ls w u ss) (h2:Ls w v all) :
  Calls Tryz.prog 70 #[u,v] w λe w'=>e=.returned (.bool (pB (PartOk ss all)))/\∃m,w'=w.drewN m:=by
 obtain⟨a,c,rfl,hn,-,hpos⟩:=h;obtain⟨a2,c2,rfl,-⟩:=id h2;unfold maxLen at hn;go_enter Tryz.func70,Tryz.ntmps70
 go_wp2
 go_loopw [5] (λi w'=>∃k m:Nat,k<=ss.length/\i=.int .i64 k/\PartTo ss all k/\AscTo ss k/\w'=w.drewN m) (λi _=>ss.length-(intOf i).toNat)
 case atStart=>exact⟨0,0,by omega,rfl,PartTo.zero _ _,AscTo.zero _,rfl⟩
 case round =>
  obtain⟨k,m,hk,rfl,hal,hasc,hw⟩:=hrel;have Hw:Hid (wr=w.drewN m):=hw;clear hw;have Hal:Hid (PartTo ss all k):=hal;have Hasc:Hid (AscTo ss k):=hasc;clear hal hasc;by_cases hp:k<ss.length
  ·obtain⟨b,o,rfl,hS,hb⟩:=hpos (by omega)
   have c0:wr.cell? ⟨b,o+k,none⟩=some (.string ss[k]):=by rw[Hw.out];exact hS.cell hp
   cases hq:memS all ss[k]
   ·have Hq:Hid (¬PartOk ss all):=λh=>by rw[AcT h.1 hp] at hq;cases hq
    go_wp2_with fail
    go_quiet ((go_at_call 108;exact Calls.quiet_of_same (N9 all _ _ _ (by have e:=Hw.out;subst e;exact h2))))
    go_wp2
    go_ret
    exact⟨D6 (F1 Hq.out).symm,L6 Hw.out⟩
   have Hq:Hid (PartTo ss all (k+1)):=Hal.out.step hp hq;cases k with
   | zero =>
    simp only[Nat.add_zero] at c0;go_wp2_with fail
    go_quiet ((go_at_call 108;exact Calls.quiet_of_same (N9 all _ _ _ (by have e:=Hw.out;subst e;exact h2))))
    go_wp2
    go_roundw
    case rel=>obtain⟨m',hm'⟩:=L6 (n:=nq) Hw.out;exact⟨1,m',by omega,by go_num,Hq.out,AscTo.one _,hm'⟩
    case measure=>simp[intOf];omega
   | succ k =>
    have c1:wr.cell? ⟨b,o+k,none⟩=some (.string ss[k]):=by rw[Hw.out];exact hS.cell (k:=k) (by omega)
    cases hl:ltS ss[k] ss[k+1]
    ·have Hl:Hid (¬PartOk ss all):=λh=>by rw[AfF h.2 hp] at hl;cases hl
     unfold ltS at hl;go_wp2_with fail
     go_quiet ((go_at_call 108;exact Calls.quiet_of_same (N9 all _ _ _ (by have e:=Hw.out;subst e;exact h2))))
     go_wp2
     go_ret
     exact⟨D6 (F1 Hl.out).symm,L6 Hw.out⟩
    ·have Hl:Hid (AscTo ss (k+2)):=Hasc.out.step hp hl
     unfold ltS at hl;go_wp2_with fail
     go_quiet ((go_at_call 108;exact Calls.quiet_of_same (N9 all _ _ _ (by have e:=Hw.out;subst e;exact h2))))
     go_wp2
     go_roundw
     case rel=>obtain⟨m',hm'⟩:=L6 (n:=nq) Hw.out;exact⟨k+1+1,m',by omega,by go_num,Hq.out,Hl.out,hm'⟩
     case measure=>simp[intOf];omega
  ·go_wp2
   go_ret
   exact⟨D6 (G9 ⟨Adw Hal.out hp,AcS Hasc.out hp⟩).symm,_,Hw.out⟩
theorem Ae4 (ss:List ByteArray) (u:Value) (w:World) (h:Ls w u ss) :
  Calls Tryz.prog 105 #[u] w λe w'=>e=.returned (.bool (pB (ThingsOk ss)))/\∃m,w'=w.drewN m:=by
 obtain⟨a,c,rfl,hn,hz,hpos⟩:=h;unfold maxLen at hn;by_cases h8:8<ss.length
 ·go_enter Tryz.func105,Tryz.ntmps105
  go_wp2
  go_ret
  exact⟨D6 (F1 λh=>by have:=h.1;omega).symm,0,rfl⟩
 have H8:Hid (ss.length<=8):=by show _<=_;omega
 go_enter Tryz.func105,Tryz.ntmps105
 go_wp2
 go_loopw [3] (λi w'=>∃k m:Nat,k<=ss.length/\i=.int .i64 k/\NamesTo ss k/\AscTo ss k/\w'=w.drewN m) (λi _=>ss.length-(intOf i).toNat)
 case atStart=>exact⟨0,0,by omega,rfl,NamesTo.zero _,AscTo.zero _,rfl⟩
 case round =>
  obtain⟨k,m,hk,rfl,hal,hasc,hw⟩:=hrel;have Hw:Hid (wr=w.drewN m):=hw;clear hw;have Hal:Hid (NamesTo ss k):=hal;have Hasc:Hid (AscTo ss k):=hasc;clear hal hasc;by_cases hp:k<ss.length
  ·obtain⟨b,o,rfl,hS,hb⟩:=hpos (by omega)
   have c0:wr.cell? ⟨b,o+k,none⟩=some (.string ss[k]):=by rw[Hw.out];exact hS.cell hp
   have z0:=hz ss[k] (by simp);cases hq:nameB ss[k]
   ·have Hq:Hid (¬ThingsOk ss):=λh=>by rw[AfG h.2.1 hp] at hq;cases hq
    go_wp2_with fail
    go_quiet ((go_at_call 69;exact Calls.quiet_of_same (U6 _ _ z0)))
    go_wp2
    go_ret
    exact⟨D6 (F1 Hq.out).symm,L6 Hw.out⟩
   have Hq:Hid (NamesTo ss (k+1)):=Hal.out.step hp hq;cases k with
   | zero =>
    simp only[Nat.add_zero] at c0;go_wp2_with fail
    go_quiet ((go_at_call 69;exact Calls.quiet_of_same (U6 _ _ z0)))
    go_wp2
    go_roundw
    case rel=>obtain⟨m',hm'⟩:=L6 (n:=nq) Hw.out;exact⟨1,m',by omega,by go_num,Hq.out,AscTo.one _,hm'⟩
    case measure=>simp[intOf];omega
   | succ k =>
    have c1:wr.cell? ⟨b,o+k,none⟩=some (.string ss[k]):=by rw[Hw.out];exact hS.cell (k:=k) (by omega)
    cases hl:ltS ss[k] ss[k+1]
    ·have Hl:Hid (¬ThingsOk ss):=λh=>by rw[AfF h.2.2 hp] at hl;cases hl
     unfold ltS at hl;go_wp2_with fail
     go_quiet ((go_at_call 69;exact Calls.quiet_of_same (U6 _ _ z0)))
     go_wp2
     go_ret
     exact⟨D6 (F1 Hl.out).symm,L6 Hw.out⟩
    ·have Hl:Hid (AscTo ss (k+2)):=Hasc.out.step hp hl
     unfold ltS at hl;go_wp2_with fail
     go_quiet ((go_at_call 69;exact Calls.quiet_of_same (U6 _ _ z0)))
     go_wp2
     go_roundw
     case rel=>obtain⟨m',hm'⟩:=L6 (n:=nq) Hw.out;exact⟨k+1+1,m',by omega,by go_num,Hq.out,Hl.out,hm'⟩
     case measure=>simp[intOf];omega
  ·go_wp2
   go_ret
   exact⟨D6 (G9 ⟨H8.out,Acy Hal.out hp,AcS Hasc.out hp⟩).symm,_,Hw.out⟩
theorem AfR (ss:List ByteArray) (v:Value) (nm:ByteArray) (w:World) (h:Txt w v ss) (hn:ss.length<=1000) :
  Calls Tryz.prog 112 #[v,.string nm] w λe w'=>(∃u,e=.returned u/\Txt w' u (insL ss nm)/\(u=v/\insL ss nm=ss∨OwnT w' w.heap.size u (insL ss nm)))/\Below w.heap.size w w':=by
 have hT:=h;obtain⟨g,c,rfl,hS,hg,hc,hc9⟩:=h;unfold maxLen at hc9;obtain⟨ii,hi,iz0,iz1,iz2⟩:=info_parts L9;have HT:Hid (Txt w (.slice (some ⟨g,0,none⟩) ss.length c) ss):=hT;clear hT;go_enter Tryz.func112,Tryz.ntmps112
 go_wp2_with fail
 go_loop [5] (λi=>∃k:Nat,k<=ss.length/\i=.int .i64 k/\lowL ss nm k) (λi=>ss.length-(intOf i).toNat)
 case atStart=>exact⟨0,by omega,rfl,λj s hj=>by omega⟩
 case round =>
  obtain⟨k,hk,rfl,hlow⟩:=hrel;have Hlow:Hid (lowL ss nm k):=hlow;clear hlow;by_cases hp:k<ss.length
  ·have c0:=hS k ss[k] (by simp[hp])
   simp only[Nat.zero_add] at c0;cases hl:Op.bytesLess (ss[k]).toList nm.toList
   case true =>
    have Hl:Hid (lessB ss[k] nm=true):=hl;go_wp2_with fail
    go_round
    case rel=>exact⟨k+1,by omega,by go_num,AeL Hlow.out hp Hl.out⟩
    case measure=>simp[intOf];omega
   have Hl:Hid (lessB ss[k] nm=false):=hl;cases hq:((ss[k]).toList==nm.toList)
   case true =>
    have Hq:Hid (insL ss nm=ss):=Ady ss nm k Hlow.out ⟨ss[k],by simp[hp],Hl.out,hq⟩;go_wp2_with fail
    go_ret
    exact⟨⟨_,rfl,by rw[Hq.out];exact HT.out,.inl ⟨rfl,Hq.out⟩⟩,A4 _ _⟩
   have Hq:Hid (insL ss nm=ss.take k++nm::ss.drop k):=AaL ss nm k Hlow.out hk (λs hs=>by
    obtain⟨_,rfl⟩:=A2.1 hs;exact⟨Hl.out,hq⟩)
   go_wp2_with fail
   obtain⟨o2,ho2⟩:∃o2:Nat,(if c=k then some (⟨g,0,none⟩:Addr) else some ⟨g,k,none⟩)=some ⟨g,o2,none⟩/\StrsAt w g o2 (ss.drop k):=by
    by_cases h7:c=k
    ·exact⟨0,by rw[if_pos h7],λi s hs=>by
      have:=(A2.1 hs).1;simp at this;omega⟩
    ·exact⟨k,by rw[if_neg h7],by have:=hS.drop k;simpa using this⟩
   obtain⟨ho2,-⟩:=ho2;have Nb:((w.alloc (.cells #[] 9)).alloc (.cells #[.string nm] 9)).drew.cell? ⟨w.heap.size+1,0,none⟩=some (.string nm):=by simp[go_sem]
   have nb1:some (w.heap.size+1)≠(Value.slice (some ⟨w.heap.size,0,none⟩) 0 0).ownBlock:=by simp[Value.ownBlock]
   have Nc:((w.alloc (.cells #[.string nm] 9)).alloc (.cells #[] 9)).drew.cell? ⟨w.heap.size,0,none⟩=some (.string nm):=by simp[go_sem]
   have nc1:some w.heap.size≠(Value.slice (some ⟨w.heap.size+1,0,none⟩) 0 0).ownBlock:=by simp[Value.ownBlock]
   have hkc:k<=c:=by omega
   have Fa:=(S0 hS (A4 w.heap.size w)).drew;have Fb:=((S0 hS (A4 w.heap.size w)).alloc (.cells #[.string nm] 9)).drew;have Fc:=(S0 (hS.alloc (.cells #[.string nm] 9)) ((A4 w.heap.size w).alloc (A3 _) (.cells #[.string nm] 9))).drew;rw[show (w.alloc (.cells #[.string nm] 9)).heap.size=w.heap.size+1 by simp] at Fc
   go_region_law (first
    | (revert h2;intro h2;refine F4 rfl _ _ 22 rfl w.heap.size 9 ii _ 1 16 Tryz.underlying22 hi iz0 iz1 iz2 rfl (by decide) _ _ _ rfl h2.1 ⟨g,o2,none⟩ (ss.length-k) _ ((ss.drop k).map Value.string) rfl (by simp) (J5 (Abb h2.2.1 ho2 hc)) (Z2 _) (by unfold maxLen;omega) (by omega) h2.2.2.size ?_;intro v3 w3 hown3 hgrow3;have h3:=h2.grow hg hgrow3 hown3;clear h2 hown3 hgrow3)
    | (revert h1;intro h1;refine F4 rfl _ _ 22 rfl w.heap.size 9 ii _ 1 16 Tryz.underlying22 hi iz0 iz1 iz2 rfl (by decide) _ _ _ rfl (by first|exact h1.1|exact (h1.alloc _).1) _ 1 1 [.string nm] rfl rfl (by first|exact S1 _ _ _|exact AcR hN1) (Abp nm) (by unfold maxLen;omega) (by omega) (by first|exact h1.2.2.size|exact (h1.alloc _).2.2.size) ?_;intro v2 w2 hown2 hgrow2;first|have h2:=h1.grow hg hgrow2 hown2|have h2:=(h1.alloc _).grow hg hgrow2 hown2;clear h1 hown2 hgrow2)
    | (refine F4 rfl _ _ 22 rfl w.heap.size 9 ii _ 1 16 Tryz.underlying22 hi iz0 iz1 iz2 rfl (by decide) _ 0 [] rfl (by first|exact Fa.1|exact Fb.1|exact Fc.1) ⟨g,0,none⟩ k _ ((ss.take k).map Value.string) rfl (by simp;omega) (by first|exact J5 (Fa.2.1.take k)|exact J5 (Fb.2.1.take k)|exact J5 (Fc.2.1.take k)) (Z2 _) (by unfold maxLen;omega) (by omega) (by first|exact Fa.2.2.size|exact Fb.2.2.size|exact Fc.2.2.size) ?_;intro v1 w1 hown1 hgrow1;first|(have h1:=Fa.grow hg hgrow1 hown1)|(have h1:=Fb.grow hg hgrow1 hown1;have hN1:=hgrow1.cell Nb nb1)|(have h1:=Fc.grow hg hgrow1 hown1;have hN1:=hgrow1.cell Nc nc1);clear hown1 hgrow1))
   all_goals
    have HT3:Txt w3 v3 (insL ss nm):=by
     rw[Hq.out];exact Txt.own (n:=0+k+1+(ss.length-k)) (by simpa using h3.1) (by simp;omega) (F2 h3.1 (by omega))
    have hO3:OwnT w3 w.heap.size v3 (insL ss nm):=by
     unfold OwnT;rw[Hq.out];have:=h3.1;have e1:(ss.take k++nm::ss.drop k).length=0+k+1+(ss.length-k):=by simp;omega
     rw[e1];simpa using this
    have hB3:=h3.2.2;clear h3;go_wp2_with fail
    go_ret
    exact⟨⟨_,rfl,HT3,.inr hO3⟩,hB3⟩
  ·have Hq:Hid (insL ss nm=ss.take k++nm::ss.drop k):=AaL ss nm k Hlow.out hk (λs hs=>by
    have:=(A2.1 hs).1;omega)
   go_wp2_with fail
   obtain⟨o2,ho2⟩:∃o2:Nat,(if c=k then some (⟨g,0,none⟩:Addr) else some ⟨g,k,none⟩)=some ⟨g,o2,none⟩/\StrsAt w g o2 (ss.drop k):=by
    by_cases h7:c=k
    ·exact⟨0,by rw[if_pos h7],λi s hs=>by
      have:=(A2.1 hs).1;simp at this;omega⟩
    ·exact⟨k,by rw[if_neg h7],by have:=hS.drop k;simpa using this⟩
   obtain⟨ho2,-⟩:=ho2;have Nb:((w.alloc (.cells #[] 9)).alloc (.cells #[.string nm] 9)).drew.cell? ⟨w.heap.size+1,0,none⟩=some (.string nm):=by simp[go_sem]
   have nb1:some (w.heap.size+1)≠(Value.slice (some ⟨w.heap.size,0,none⟩) 0 0).ownBlock:=by simp[Value.ownBlock]
   have Nc:((w.alloc (.cells #[.string nm] 9)).alloc (.cells #[] 9)).drew.cell? ⟨w.heap.size,0,none⟩=some (.string nm):=by simp[go_sem]
   have nc1:some w.heap.size≠(Value.slice (some ⟨w.heap.size+1,0,none⟩) 0 0).ownBlock:=by simp[Value.ownBlock]
   have hkc:k<=c:=by omega
   have Fa:=(S0 hS (A4 w.heap.size w)).drew;have Fb:=((S0 hS (A4 w.heap.size w)).alloc (.cells #[.string nm] 9)).drew;have Fc:=(S0 (hS.alloc (.cells #[.string nm] 9)) ((A4 w.heap.size w).alloc (A3 _) (.cells #[.string nm] 9))).drew;rw[show (w.alloc (.cells #[.string nm] 9)).heap.size=w.heap.size+1 by simp] at Fc
   go_region_law (first
    | (revert h2;intro h2;refine F4 rfl _ _ 22 rfl w.heap.size 9 ii _ 1 16 Tryz.underlying22 hi iz0 iz1 iz2 rfl (by decide) _ _ _ rfl h2.1 ⟨g,o2,none⟩ (ss.length-k) _ ((ss.drop k).map Value.string) rfl (by simp) (J5 (Abb h2.2.1 ho2 hc)) (Z2 _) (by unfold maxLen;omega) (by omega) h2.2.2.size ?_;intro v3 w3 hown3 hgrow3;have h3:=h2.grow hg hgrow3 hown3;clear h2 hown3 hgrow3)
    | (revert h1;intro h1;refine F4 rfl _ _ 22 rfl w.heap.size 9 ii _ 1 16 Tryz.underlying22 hi iz0 iz1 iz2 rfl (by decide) _ _ _ rfl (by first|exact h1.1|exact (h1.alloc _).1) _ 1 1 [.string nm] rfl rfl (by first|exact S1 _ _ _|exact AcR hN1) (Abp nm) (by unfold maxLen;omega) (by omega) (by first|exact h1.2.2.size|exact (h1.alloc _).2.2.size) ?_;intro v2 w2 hown2 hgrow2;first|have h2:=h1.grow hg hgrow2 hown2|have h2:=(h1.alloc _).grow hg hgrow2 hown2;clear h1 hown2 hgrow2)
    | (refine F4 rfl _ _ 22 rfl w.heap.size 9 ii _ 1 16 Tryz.underlying22 hi iz0 iz1 iz2 rfl (by decide) _ 0 [] rfl (by first|exact Fa.1|exact Fb.1|exact Fc.1) ⟨g,0,none⟩ k _ ((ss.take k).map Value.string) rfl (by simp;omega) (by first|exact J5 (Fa.2.1.take k)|exact J5 (Fb.2.1.take k)|exact J5 (Fc.2.1.take k)) (Z2 _) (by unfold maxLen;omega) (by omega) (by first|exact Fa.2.2.size|exact Fb.2.2.size|exact Fc.2.2.size) ?_;intro v1 w1 hown1 hgrow1;first|(have h1:=Fa.grow hg hgrow1 hown1)|(have h1:=Fb.grow hg hgrow1 hown1;have hN1:=hgrow1.cell Nb nb1)|(have h1:=Fc.grow hg hgrow1 hown1;have hN1:=hgrow1.cell Nc nc1);clear hown1 hgrow1))
   all_goals
    have HT3:Txt w3 v3 (insL ss nm):=by
     rw[Hq.out];exact Txt.own (n:=0+k+1+(ss.length-k)) (by simpa using h3.1) (by simp;omega) (F2 h3.1 (by omega))
    have hO3:OwnT w3 w.heap.size v3 (insL ss nm):=by
     unfold OwnT;rw[Hq.out];have:=h3.1;have e1:(ss.take k++nm::ss.drop k).length=0+k+1+(ss.length-k):=by simp;omega
     rw[e1];simpa using this
    have hB3:=h3.2.2;clear h3;go_wp2_with fail
    go_ret
    exact⟨⟨_,rfl,HT3,.inr hO3⟩,hB3⟩
end Go.Proofs.YtgecdacgmehmbaaGreatDoor
