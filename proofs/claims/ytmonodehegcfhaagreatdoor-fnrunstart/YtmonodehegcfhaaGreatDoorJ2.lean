/- Plain facts on names, ends and phases: no program in it. -/
import Derived.Laws.RangeAny
import Derived.Below
import Derived.Test.YtmonodehegcfhaaGreatDoorChecked
import Derived.WalkKit
import Derived.WalkSpells
import Derived.WalkLawsBesides
import Derived.Handy
import Derived.Outline
import Derived.Deep.Light
import Derived.Laws.Bits64
import Derived.BigQuiet
import Derived.Deep.QuietTactic
import Derived.Deep.DeepCutAuto
import Derived.Deep.RegionLaw
import Derived.Deep.RegionHeld
import Derived.Deep.RegionWith
import Derived.Laws.Strings
import Derived.Deep.MidRow
namespace Go.Proofs.YtmonodehegcfhaaGreatDoor
open Go.Proofs.Tryz
@[simp,go_sem] abbrev At(w:World)(b o:Nat)(v:Value):Prop:=w.cell? ⟨b,o,none⟩=some v
abbrev Up(w w':World):Prop:=Go.RowKit.Below w.heap.size w w'
@[simp,go_sem] abbrev Sz(g n c:Nat):Value:=.slice (some ⟨g,0,none⟩) n c
@[simp,go_sem] abbrev Iz(x:Int):Value:=.int .i64 x
@[simp,go_sem] abbrev Sy(g o n c:Nat):Value:=.slice (some ⟨g,o,none⟩) n c
@[simp,go_sem] abbrev Nz:Value:=.slice none 0 0
@[simp,go_sem] abbrev Vz(a:Option Addr)(n c:Nat):Value:=.slice a n c
@[simp,go_sem] abbrev Tz(s:ByteArray):Value:=.string s
@[simp,go_sem] abbrev Ez:Value:=.string ⟨#[]⟩
@[simp,go_sem] abbrev Pz(b o:Nat):Value:=.pointer (some ⟨b,o,none⟩)
@[simp,go_sem] abbrev Kz(l:List Value)(T:TypeId):Obj:=.cells l.toArray T
abbrev BA:=ByteArray
theorem Sx{P:Program}{n:Nat}{a:Array Value}{w:World}{E:Ending}{Q:Ending→World→Prop}(h:Calls P n a w fun e w'=>e=E∧w'=w)(q:Q E w):Calls P n a w Q:=h.mono (by rintro e w' ⟨rfl,rfl⟩;exact q)
variable{tmps:Array Value}{s x:ByteArray}{all l ss tg:List ByteArray}{cs xs ys:List Value}{B N b base cap e g j k len m n o off pb rb rk size:Nat}{r:Option Nat}{P:Program}{T:TypeId}{u v v' x0 x1 x2 y0 y1 y2:Value}{W W' Z a c w w' w1:World}
theorem A0:type_of% @List.getElem?_eq_getElem:=@List.getElem?_eq_getElem
theorem A2:type_of% @Nat.lt_of_lt_of_le:=@Nat.lt_of_lt_of_le
theorem A3:type_of% @List.getElem?_eq_some_iff:=@List.getElem?_eq_some_iff
theorem A4:type_of% @Nat.le_refl:=@Nat.le_refl
theorem A5:type_of% @Go.RowKit.Below.refl:=@Go.RowKit.Below.refl
theorem A6:type_of% @Option.some.inj:=@Option.some.inj
theorem A7:type_of% @List.mem_of_getElem?:=@List.mem_of_getElem?
theorem A8:type_of% @List.take_succ_eq_append_getElem:=@List.take_succ_eq_append_getElem
theorem A9:type_of% @List.length_drop:=@List.length_drop
theorem B0:type_of% @List.length_append:=@List.length_append
theorem B1:type_of% @List.getElem?_map:=@List.getElem?_map
theorem B3:type_of% @Nat.le_trans:=@Nat.le_trans
theorem B4:type_of% @World.ownsRow.stored:=@World.ownsRow.stored
theorem B5:type_of% @List.length_map:=@List.length_map
theorem B6:type_of% @Option.map_eq_some_iff:=@Option.map_eq_some_iff
theorem B7:type_of% @List.getElem_of_mem:=@List.getElem_of_mem
theorem B8:type_of% @List.length_take:=@List.length_take
theorem B9:type_of% @World.ownsRow_nil:=@World.ownsRow_nil
theorem C0:type_of% @World.ownsRow_lit:=@World.ownsRow_lit
theorem C1:type_of% @World.cell?_setCell_other:=@World.cell?_setCell_other
theorem C2:type_of% @World.cell?_of_block:=@World.cell?_of_block
theorem C3:type_of% @Nat.eq_zero_or_pos:=@Nat.eq_zero_or_pos
theorem C4:type_of% @List.length_eq_zero_iff:=@List.length_eq_zero_iff
theorem C5:type_of% @List.mem_iff_getElem?:=@List.mem_iff_getElem?
theorem C6:type_of% @List.getElem?_eq_none:=@List.getElem?_eq_none
theorem C7:type_of% @List.mem_cons_of_mem:=@List.mem_cons_of_mem
theorem C8:type_of% @List.getElem?_append_right:=@List.getElem?_append_right
theorem C9:type_of% @List.getElem?_set_self:=@List.getElem?_set_self
theorem D0:type_of% @List.mem_append:=@List.mem_append
theorem D1:type_of% @List.mem_singleton:=@List.mem_singleton
theorem D2:type_of% @List.take_of_length_le:=@List.take_of_length_le
theorem D3:type_of% @Array.getElem?_eq_some_iff:=@Array.getElem?_eq_some_iff
theorem D4:type_of% @List.drop_eq_getElem_cons:=@List.drop_eq_getElem_cons
def CH(n:Nat):Bool:=(decide (97<=n)&&decide (n<=122)) || (decide (48<=n)&&decide (n<=57)) || n==45
def AM(l:List UInt8):Bool:=l.all λb=>CH b.toNat
def G0(s:ByteArray):Bool:=decide (1<=s.size)&&decide (s.size<=8)&&AM s.data.toList
theorem FJ(n:Nat):CH n=true↔(97<=n/\n<=122)∨(48<=n/\n<=57)∨n=45:=by
 simp[CH,or_assoc]
theorem Io(n:Nat)(h:128<=n):CH n=false:=by
 rw[← Bool.not_eq_true,FJ];omega
theorem Tx(s:ByteArray)(k:Nat)(h:k<s.size):s.data.toList.take (k+1)=s.data.toList.take k++[s[k]]:=by
 rw[A8 (by simpa using h)];rfl
theorem Ty(l:List UInt8)(b:UInt8):AM (l++[b])=(AM l&&CH b.toNat):=by simp[AM]
theorem Gq(s:ByteArray)(k:Nat)(h:k<s.size):AM (s.data.toList.take (k+1))=(AM (s.data.toList.take k)&&CH (s[k]).toNat):=by
 rw[Tx s k h,Ty]
theorem FK(s:ByteArray)(k:Nat)(h:k<s.size)(hb:CH (s[k]).toNat=false):AM s.data.toList=false:=by
 rw[← Bool.not_eq_true];intro ha;simp only[AM,List.all_eq_true] at ha;have:=ha (s[k]) (by show s.data[k]∈s.data.toList;simp);rw[hb] at this;cases this
theorem Ip(s:ByteArray)(k:Nat)(h:¬k<s.size)(ha:AM (s.data.toList.take k)=true):AM s.data.toList=true:=by
 rw[D2 (by simp;omega)] at ha;exact ha
def Ai(n lo hi:Int):Bool:=decide (lo<=n)&&decide (n<=hi)
theorem BX(n lo hi:Int):Ai n lo hi=true↔lo<=n/\n<=hi:=by simp[Ai]
theorem Fe(n lo hi:Int):Ai n lo hi=false↔¬(lo<=n/\n<=hi):=by rw[← BX];simp
def M6(s:ByteArray):Int :=
 if s.toList==[103,111,111,100] then 1 else if s.toList==[115,97,118,101,100] then 2 else if s.toList==[115,99,114,97,112,112,101,100] then 3 else 0
def T0(k:Int)(a b:ByteArray)(n wi:Int):Bool :=
 if k=1 then G0 a&&G0 b&&Ai n 1 1000
 else if k=2 then G0 a&&G0 b && !(a.toList==b.toList)&&Ai n 1 1000
 else if k=3 then G0 a&&b.toList.isEmpty&&Ai n 1 wi
 else if k=4∨k=5 then G0 a&&b.toList.isEmpty&&n==0
 else false
def V9(nm:ByteArray)(k:Int)(a b:ByteArray)(n wi:Int)(t e:ByteArray):Bool :=
 G0 nm&&M6 nm==0&&Ai wi 1 1000&&T0 k a b n wi&&G0 t&&G0 e
end Go.Proofs.YtmonodehegcfhaaGreatDoor
namespace Go.Proofs.YtmonodehegcfhaaGreatDoor
open Go.Proofs.Tryz
open Go.RowKit
variable{tmps:Array Value}{s x:ByteArray}{all l ss tg:List ByteArray}{cs xs ys:List Value}{B N b base cap e g j k len m n o off pb rb rk size:Nat}{r:Option Nat}{P:Program}{T:TypeId}{u v v' x0 x1 x2 y0 y1 y2:Value}{W W' Z a c w w' w1:World}
theorem D8{a b:Bool}(h:a=b):Ending.returned (.bool a)=.returned (.bool b):=by rw[h]
theorem U5{k:IntKind}{a b:Int}(h:a=b):Ending.returned (.int k a)=.returned (.int k b):=by rw[h]
theorem FL(w:World)(s:ByteArray)(p:Nat):Up w (w.iter s p):=(A5 _ _).alloc (A4 _) _
theorem G9(hb:Up W w1):(∀b o,b<W.heap.size->w1.cell? ⟨b,o,none⟩=W.cell? ⟨b,o,none⟩)/\(∀b o,b<W.heap.size->w1.frozen? ⟨b,o,none⟩=W.frozen? ⟨b,o,none⟩) :=
 ⟨λb o h=>hb.cell (p:=⟨b,o,none⟩) h,λb o h=>hb.frozen (p:=⟨b,o,none⟩) h⟩
theorem D5{b:World}(h:Up a b)(k:Up b c):Up a c:=h.trans (k.mono h.size)
theorem E0{b:World}(h:a.grownBy b r)(k:b.grownBy c r):a.grownBy c r :=
 ⟨k.os.trans h.os,k.tape.trans h.tape,k.output.trans h.output,B3 h.size k.size,λi hi hr=>(k.block i (A2 hi h.size) hr).trans (h.block i hi hr)⟩
theorem E2(a:World)(r:Option Nat):a.grownBy a r:=⟨rfl,rfl,rfl,A4 _,λ_ _ _=>rfl⟩
theorem S8{b:World}(h:a.grownBy b r):a.grownBy b.drew r:=⟨h.os,h.tape,h.output,h.size,h.block⟩
theorem L2{b:World}(h:Up a b):a.grownBy b r:=⟨h.os,h.tape,h.output,h.size,λi hi _=>h.block i hi⟩
theorem F4{b:World}(h:a.grownBy b r)(o:Obj):a.grownBy (b.alloc o) r:=E0 h (L2 ((A5 _ _).alloc (A4 _) _))
theorem E1{b:World}(h:a.grownBy b (some rb))(u:Value):a.grownBy (b.setCell ⟨rb,off,none⟩ u) (some rb) :=
 E0 h ⟨rfl,rfl,rfl,by simp,λi _ hr=>Below.heap_setCell _ _ _ _ (λe=>hr (by rw[e]))⟩
theorem KH{b:World}(h:a.grownBy b r)(n:Nat):a.grownBy (b.drewN n) r:=⟨h.os,h.tape,h.output,h.size,h.block⟩
def F9(w:World)(g o:Nat)(ss:List ByteArray):Prop:=∀(i:Nat)(s:ByteArray),ss[i]?=some s->w.cell? ⟨g,o+i,none⟩=some (.string s)
theorem F9.kept(h:F9 w g o ss)(hg:w.grownBy w' (some rb))(hne:g≠rb):F9 w' g o ss :=
 λi s hs=>hg.cell (h i s hs) (by simpa using hne)
theorem JB(b:Nat):∀(vs:List Value)(o:Nat)(W w':World)(B:Nat),Below B W w'->B<=b->Below B W (w'.setCells b o vs)
 | [],_,_,_,_,h,_=>h
 | v::r,o,W,w',B,h,hB=>by
  rw[World.setCells];exact JB b r (o+1) W _ B (h.setCell (p:=⟨b,o,none⟩) hB v) hB
theorem World.size_setCells'{b:Nat}:∀{vs:List Value} {o:Nat} {w:World},(w.setCells b o vs).heap.size=w.heap.size
 | [],_,_=>rfl
 | v::r,o,w=>by rw[World.setCells,World.size_setCells'];simp
def CB(w:World)(b:Nat)(cs:List Value):Prop:=w.rangeAt b 0 cs/\w.there b 0 cs.length/\b<w.heap.size
theorem CB.kept(h:CB w b cs)(hg:w.grownBy w' r)(hne:some b≠r):CB w' b cs:=by
 have hb:=hg.block b h.2.2 hne;refine⟨λj v hv=>?_,λj hj=>?_,A2 h.2.2 hg.size⟩
 ·rw[C2 (w:=w) (a:=⟨b,0+j,none⟩) hb];exact h.1 j v hv
 ·rw[C2 (w:=w) (a:=⟨b,0+j,none⟩) hb,World.frozen?_of_block (w:=w) (a:=⟨b,0+j,none⟩) hb];exact h.2.1 j hj
theorem CB.up(h:CB w b cs)(hb:Below B w w')(hB:b<B):CB w' b cs:=by
 have hk:=hb.block b hB;refine⟨λj v hv=>?_,λj hj=>?_,A2 h.2.2 hb.size⟩
 ·rw[C2 (w:=w) (a:=⟨b,0+j,none⟩) hk];exact h.1 j v hv
 ·rw[C2 (w:=w) (a:=⟨b,0+j,none⟩) hk,World.frozen?_of_block (w:=w) (a:=⟨b,0+j,none⟩) hk];exact h.2.1 j hj
theorem F3(w:World)(cs:List Value)(t:TypeId):CB (w.alloc (.cells cs.toArray t)) w.heap.size cs:=by
 have hr:(w.alloc (.cells cs.toArray t)).rangeAt w.heap.size 0 cs:=by
  intro j v hv;rw[Nat.zero_add,World.cell?_alloc_at]
  ·simpa using hv
  ·rfl
 refine⟨hr,λj hj=>⟨hr.isSome j hj,?_⟩,by simp⟩;simp[go_sem]
theorem Oi(h:w.rangeAt b 0 cs)(hj:j<cs.length):(w.setCell ⟨b,j,none⟩ u).rangeAt b 0 (cs.set j u):=by
 intro i x hx;rw[List.getElem?_set] at hx;by_cases e:j=i
 ·subst e;rw[if_pos rfl,if_pos hj] at hx;obtain rfl:=A6 hx;have hc:=h j cs[j] (by simp);rw[Nat.zero_add] at hc ⊢
  exact World.cell?_setCell_same _ _ _ hc
 ·rw[if_neg e] at hx;rw[C1 _ _ _ _ (by simp<;>omega)];exact h i x hx
theorem CB.set(h:CB w b cs)(hj:j<cs.length):CB (w.setCell ⟨b,j,none⟩ u) b (cs.set j u):=by
 refine⟨Oi h.1 hj,λi hi=>?_,by simpa using h.2.2⟩;have:=World.there_setCells h.2.1 b j [u] i (by simpa using hi);simpa [World.setCells] using this
theorem CB.other{q:Nat}(h:CB w b cs)(hne:b≠q):CB (w.setCell ⟨q,j,none⟩ u) b cs :=
 h.kept (r:=some q) ⟨rfl,rfl,rfl,by simp,λi _ hr=>Below.heap_setCell _ _ _ _ (λe=>hr (by rw[e]))⟩ (by simpa using hne)
theorem CB.c2(h:CB w b [x0,x1]):(At w b 0 x0/\At w b 1 x1)/\w.frozen? ⟨b,0,none⟩=false/\w.frozen? ⟨b,1,none⟩=false :=
 ⟨⟨h.1 0 _ rfl,h.1 1 _ rfl⟩,(h.2.1 0 (by simp)).2,(h.2.1 1 (by simp)).2⟩
theorem CB.c3(h:CB w b [x0,x1,x2]):(At w b 0 x0/\At w b 1 x1/\At w b 2 x2)/\w.frozen? ⟨b,0,none⟩=false/\w.frozen? ⟨b,1,none⟩=false/\w.frozen? ⟨b,2,none⟩=false :=
 ⟨⟨h.1 0 _ rfl,h.1 1 _ rfl,h.1 2 _ rfl⟩,(h.2.1 0 (by simp)).2,(h.2.1 1 (by simp)).2,(h.2.1 2 (by simp)).2⟩
theorem CB.c8{x3 x4 x5 x6 x7:Value}(h:CB w b [x0,x1,x2,x3,x4,x5,x6,x7]):
  (At w b 0 x0/\At w b 1 x1/\At w b 2 x2/\At w b 3 x3/\At w b 4 x4/\At w b 5 x5/\At w b 6 x6/\At w b 7 x7)/\
  w.frozen? ⟨b,0,none⟩=false/\w.frozen? ⟨b,1,none⟩=false/\w.frozen? ⟨b,2,none⟩=false/\w.frozen? ⟨b,3,none⟩=false/\w.frozen? ⟨b,4,none⟩=false/\w.frozen? ⟨b,5,none⟩=false/\w.frozen? ⟨b,6,none⟩=false/\w.frozen? ⟨b,7,none⟩=false :=
 ⟨⟨h.1 0 _ rfl,h.1 1 _ rfl,h.1 2 _ rfl,h.1 3 _ rfl,h.1 4 _ rfl,h.1 5 _ rfl,h.1 6 _ rfl,h.1 7 _ rfl⟩,(h.2.1 0 (by simp)).2,(h.2.1 1 (by simp)).2,(h.2.1 2 (by simp)).2,(h.2.1 3 (by simp)).2,(h.2.1 4 (by simp)).2,(h.2.1 5 (by simp)).2,(h.2.1 6 (by simp)).2,(h.2.1 7 (by simp)).2⟩
theorem CB.copy(h:CB w b ys)(xs:List Value)(hl:xs.length=ys.length):CB (w.setCells b 0 xs) b xs :=
 ⟨World.rangeAt_setCells_same _ _ _ _ (by rw[hl];exact h.2.1),World.there_setCells (by rw[hl];exact h.2.1) _ _ _,by rw[World.size_setCells'];exact h.2.2⟩
theorem Iq(h:Below B a w)(hb:B<=b)(xs:List Value):Below B a (w.setCells b 0 xs):=JB b xs 0 a w B h hb
theorem CB.room(h:CB w b ys)(hn:n=ys.length):w.there b 0 n:=by subst hn;exact h.2.1
theorem CB.copy2(h:CB w b [y0,y1])(x0 x1:Value):CB ((w.setCell ⟨b,0,none⟩ x0).setCell ⟨b,1,none⟩ x1) b [x0,x1]:=h.copy [x0,x1] rfl
theorem CB.copy3(h:CB w b [y0,y1,y2])(x0 x1 x2:Value):CB (((w.setCell ⟨b,0,none⟩ x0).setCell ⟨b,1,none⟩ x1).setCell ⟨b,2,none⟩ x2) b [x0,x1,x2]:=h.copy [x0,x1,x2] rfl
theorem CB.copy8{y3 y4 y5 y6 y7:Value}(h:CB w b [y0,y1,y2,y3,y4,y5,y6,y7])(x0 x1 x2 x3 x4 x5 x6 x7:Value):
  CB ((((((((w.setCell ⟨b,0,none⟩ x0).setCell ⟨b,1,none⟩ x1).setCell ⟨b,2,none⟩ x2).setCell ⟨b,3,none⟩ x3).setCell ⟨b,4,none⟩ x4).setCell ⟨b,5,none⟩ x5).setCell ⟨b,6,none⟩ x6).setCell ⟨b,7,none⟩ x7) b [x0,x1,x2,x3,x4,x5,x6,x7]:=h.copy [x0,x1,x2,x3,x4,x5,x6,x7] rfl
theorem K6(h:Below B a w)(hb:B<=b)(x0 x1:Value):Below B a ((w.setCell ⟨b,0,none⟩ x0).setCell ⟨b,1,none⟩ x1):=Iq h hb [x0,x1]
theorem RY(h:Below B a w)(hb:B<=b)(x0 x1 x2:Value):Below B a (((w.setCell ⟨b,0,none⟩ x0).setCell ⟨b,1,none⟩ x1).setCell ⟨b,2,none⟩ x2):=Iq h hb [x0,x1,x2]
theorem Db(h:Below B a w)(hb:B<=b)(x0 x1 x2 x3 x4 x5 x6 x7:Value):
  Below B a ((((((((w.setCell ⟨b,0,none⟩ x0).setCell ⟨b,1,none⟩ x1).setCell ⟨b,2,none⟩ x2).setCell ⟨b,3,none⟩ x3).setCell ⟨b,4,none⟩ x4).setCell ⟨b,5,none⟩ x5).setCell ⟨b,6,none⟩ x6).setCell ⟨b,7,none⟩ x7):=Iq h hb [x0,x1,x2,x3,x4,x5,x6,x7]
theorem JC{fn:Func}{q:Tmp}(h:fn.results=#[.cell q T]){d:TypeDesc}(hu:P.underlying T=some d)(hd:d.isRow=true)(hi:(P.info? T).map (·.size)=some cs.length)
  (ht:tmps.getD q undef=.pointer (some ⟨rk,0,none⟩)) (hZ:CB Z rk cs):(results fn tmps).run P Z=.ok (.agg cs.toArray) Z:=by
 have hl:=run_loadVar_mid (P:=P) Z rk 0 T cs d hZ.1 hu hd hi;have ha:(asAddr (.pointer (some ⟨rk,0,none⟩))).run P Z=.ok ⟨rk,0,none⟩ Z:=by simp[go_sem]
 have a0:tmps[q]?.getD undef=.pointer (some ⟨rk,0,none⟩):=by simpa using ht
 simp only[results,h];simp[Sem.run_bind,Result.andThen,a0,ha,hl]
theorem Ko{fn:Func}{q q2:Tmp}(h:fn.results=#[.cell q T,.tmp q2]){d:TypeDesc}(hu:P.underlying T=some d)(hd:d.isRow=true)(hi:(P.info? T).map (·.size)=some cs.length)
  {v:Value} (ht:tmps.getD q undef=.pointer (some ⟨rk,0,none⟩)) (hv:tmps.getD q2 undef=v) (hZ:CB Z rk cs):(results fn tmps).run P Z=.ok (.tuple #[.agg cs.toArray,v]) Z:=by
 have hl:=run_loadVar_mid (P:=P) Z rk 0 T cs d hZ.1 hu hd hi;have ha:(asAddr (.pointer (some ⟨rk,0,none⟩))).run P Z=.ok ⟨rk,0,none⟩ Z:=by simp[go_sem]
 have a0:tmps[q]?.getD undef=.pointer (some ⟨rk,0,none⟩):=by simpa using ht
 have a1:tmps[q2]?.getD undef=v:=by simpa using hv
 simp only[results,h];simp[Sem.run_bind,Result.andThen,a0,a1,ha,hl]
theorem Rg(w:World)(x:List Value)(t:TypeId):CB (w.alloc (.cells x.toArray t)) w.heap.size x/\Up w (w.alloc (.cells x.toArray t))/\(w.alloc (.cells x.toArray t)).heap.size=w.heap.size+1 :=
 ⟨F3 w x t,(A5 _ _).alloc (A4 _) _,by simp⟩
theorem Zn(w:World)(x y:List Value)(t u:TypeId):CB ((w.alloc (.cells x.toArray t)).alloc (.cells y.toArray u)) w.heap.size x/\CB ((w.alloc (.cells x.toArray t)).alloc (.cells y.toArray u)) (w.heap.size+1) y/\
  Up w ((w.alloc (.cells x.toArray t)).alloc (.cells y.toArray u))/\((w.alloc (.cells x.toArray t)).alloc (.cells y.toArray u)).heap.size=w.heap.size+2:=by
 obtain⟨h1,hb,hs⟩:=Rg w x t;obtain⟨h2,a0,a1⟩:=Rg (w.alloc (.cells x.toArray t)) y u;refine⟨h1.up a0 (by rw[hs];omega),by rw[hs] at h2;exact h2,hb.trans (a0.mono (by rw[hs];omega)),by rw[a1,hs]⟩
theorem cb3(w:World)(x y z:List Value)(t u v:TypeId):CB (((w.alloc (.cells x.toArray t)).alloc (.cells y.toArray u)).alloc (.cells z.toArray v)) w.heap.size x/\CB (((w.alloc (.cells x.toArray t)).alloc (.cells y.toArray u)).alloc (.cells z.toArray v)) (w.heap.size+1) y/\
  CB (((w.alloc (.cells x.toArray t)).alloc (.cells y.toArray u)).alloc (.cells z.toArray v)) (w.heap.size+2) z/\
  Up w (((w.alloc (.cells x.toArray t)).alloc (.cells y.toArray u)).alloc (.cells z.toArray v))/\(((w.alloc (.cells x.toArray t)).alloc (.cells y.toArray u)).alloc (.cells z.toArray v)).heap.size=w.heap.size+3:=by
 obtain⟨h1,h2,hb,hs⟩:=Zn w x y t u;obtain⟨h3,a0,a1⟩:=Rg ((w.alloc (.cells x.toArray t)).alloc (.cells y.toArray u)) z v;refine⟨h1.up a0 (by rw[hs];omega),h2.up a0 (by rw[hs];omega),by rw[hs] at h3;exact h3,hb.trans (a0.mono (by rw[hs];omega)),by rw[a1,hs]⟩
theorem cbE1(w:World)(x:List Value)(t:TypeId):∃W,w.alloc (.cells x.toArray t)=W/\CB W w.heap.size x/\Up w W/\W.heap.size=w.heap.size+1:=⟨_,rfl,Rg w x t⟩
theorem cbE2(w:World)(x:List Value)(t:TypeId)(y:List Value)(u:TypeId):∃W,(w.alloc (.cells x.toArray t)).alloc (.cells y.toArray u)=W/\CB W w.heap.size x/\CB W (w.heap.size+1) y/\Up w W/\W.heap.size=w.heap.size+2:=⟨_,rfl,Zn w x y t u⟩
theorem cbE3(w:World)(x:List Value)(t:TypeId)(y:List Value)(u:TypeId)(z:List Value)(v:TypeId):∃W,((w.alloc (.cells x.toArray t)).alloc (.cells y.toArray u)).alloc (.cells z.toArray v)=W/\CB W w.heap.size x/\CB W (w.heap.size+1) y/\CB W (w.heap.size+2) z/\Up w W/\W.heap.size=w.heap.size+3:=⟨_,rfl,cb3 w x y z t u v⟩
theorem Rh(h:w.ownsRow base e size v n xs)(hn:0<n):∃g cap,v=.slice (some ⟨g,0,none⟩) n cap:=by
 rcases h.2 with⟨_,h0⟩|⟨g,cap,_,hv,_⟩
 ·omega
 ·exact⟨g,cap,hv⟩
theorem E4(h:W.ownsRow base e size v n xs)(hb:Up W w'):w'.ownsRow base e size v n xs:=by
 refine⟨h.1,?_⟩;rcases h.2 with h0|⟨g,cap,cur,hv,hg,hh,r⟩
 ·exact .inl h0
 ·refine .inr ⟨g,cap,cur,hv,hg,?_,r⟩;rw[hb.block g (D3.1 hh).1];exact hh
theorem FO(w:World)(a b:Value)(ty:TypeId)(h:[a,b][j]?=some u):(w.alloc (.cells #[a,b] ty)).cell? ((⟨w.heap.size,0,none⟩:Addr).add j)=some u:=by
 match j,h with
 | 0,h=>simp at h;subst h;simp[Addr.add]
 | 1,h=>simp at h;subst h;simp[Addr.add]
theorem JF{x:Value}(hx:x.oneCell'=true)(h:u∈[Value.string s,x]):u.oneCell'=true:=by
 simp at h;rcases h with rfl|rfl
 ·rfl
 ·exact hx
theorem D9{b:World}(h:a.grownBy b r)(hp:a.heap.size<=pb)(u:Value):a.grownBy (b.setCell ⟨pb,off,none⟩ u) r :=
 ⟨h.os,h.tape,h.output,by simpa using h.size,λi hi hr=>(Below.heap_setCell _ _ _ _ (by simp;omega)).trans (h.block i hi hr)⟩
theorem V7:(prog.info? 9).map (λi=>(i.zero,i.size,i.bytes))=some (some (.string ⟨#[]⟩),1,16):=by kernel_rfl
theorem F9.alloc(h:F9 w g o ss)(ob:Obj):F9 (w.alloc ob) g o ss:=λi s hs=>by
 have:=h i s hs;rw[World.cell?_alloc_lt _ _ _ (World.block_lt_of_cell? w _ this)];exact this
theorem S0(h:F9 w g o ss):∀(j:Nat)(u:Value),(ss.map Value.string)[j]?=some u->w.cell? ((⟨g,o,none⟩:Addr).add j)=some u:=λj u hu=>by
 rw[B1,B6] at hu;obtain⟨s,hs,rfl⟩:=hu;rw[Addr.add_mid];exact h j s hs
theorem CJ(ss:List ByteArray):∀u∈ss.map Value.string,u.oneCell'=true:=λu hu=>by
 obtain⟨s,_,rfl⟩:=List.mem_map.1 hu;rfl
theorem I6(h:w.ownsRow base e size v n xs)(hn:0<n):∃g cap,v=.slice (some ⟨g,0,none⟩) n cap:=by
 rcases h.2 with⟨_,h0⟩|⟨g,cap,_,hv,_⟩
 ·omega
 ·exact⟨g,cap,hv⟩
theorem GM(h:w.ownsRow base e 1 (.slice (some ⟨g,0,none⟩) n cap) n (ss.map Value.string))(hn:ss.length=n):F9 w g 0 ss:=λi s hs=>by
 have hi:i<ss.length:=(A3.1 hs).1;rw[Nat.zero_add,h.cellAt i (by omega),B1,hs];rfl
theorem I3{b:World}(h:a.grownBy b r)(hg:b.grownBy c (some k))(hk:a.heap.size<=k):a.grownBy c r :=
 ⟨hg.os.trans h.os,hg.tape.trans h.tape,hg.output.trans h.output,B3 h.size hg.size,λi hi hr=>(hg.block i (A2 hi h.size) (by simp;omega)).trans (h.block i hi hr)⟩
theorem F9.other(h:F9 w g o ss)(hne:g≠pb):F9 (w.setCell ⟨pb,off,none⟩ u) g o ss:=λi s hs=>by
 rw[C1 _ _ _ _ (by simp<;>omega)];exact h i s hs
theorem J0{P:Program}{ops:Array Oper}{o:Oper}{a:Act}{w:World}{K:Act->World->Prop}{Q:Exit->Act->World->Prop}{E:Prop}
  (hg:o.guard=none) (s x:Operand) (t:TypeId) (hop:o.op=Op.call {callee:=Callee.builtin Builtin.append,args:=#[s,x],argTypes:=#[t,t]})
  (base:Nat) (e:TypeId) (i:TypeInfo) (z:Value) (size bytes:Nat) (ht:P.underlying t=some (.slice e)) (hi:P.info? e=some i) (hz:i.zero=some z)
  (hsize:i.size=size) (hby:i.bytes=bytes) (hzs:z.cells.size=size) (hsz:0<size)
  (v:Value) (n:Nat) (xs:List Value) (hs:a.eval s=v) (hown:w.ownsRow base e size v n xs)
  (ad:Addr) (m c:Nat) (news:List Value) (hx:a.eval x=.slice (some ad) m c) (hl:news.length=m*size) (hnews:∀j u,news[j]?=some u->w.cell? (ad.add j)=some u) (h1:∀u∈news,u.oneCell'=true)
  (h63:n+m<=maxLen) (hbytes:(n+m)*bytes<=140737488355328) (hbase:base<=w.heap.size)
  (hK:∀v' w',w'.ownsRow base e size v' (n+m) (xs++news)->w.grownBy w' v.ownBlock->K (a.put o.dst v') w') :
  if Region.wanted o (yielded ops a.tmps)=true then Oper.wp P o a w K Q else E:=by
 have hw:Region.wanted o (yielded ops a.tmps)=true:=by simp[Region.wanted,hg]
 rw[if_pos hw];obtain⟨v',w',hr,h2,h3,_⟩:=run_append_own (P:=P) w base t o.type e i z size bytes ht hi hz hsize hby hzs hsz v n xs hown ad m c news hl hnews h1 h63 hbytes hbase;unfold Oper.wp;simp[execOp,hop,resolve,invoke,builtin,hs,hx,hr,Result.andThen];exact hK v' w' h2 h3
theorem F2(h:w.ownsRow base e size v n xs)(hg:w.grownBy w' (some rb))(hrb:rb<base):w'.ownsRow base e size v n xs:=by
 refine⟨h.1,?_⟩;rcases h.2 with h0|⟨g,cap,cur,hv,hb,hh,r⟩
 ·exact .inl h0
 ·refine .inr ⟨g,cap,cur,hv,hb,?_,r⟩;rw[hg.block g (D3.1 hh).1 (by simp;omega)];exact hh
theorem I8{base':Nat}(h:w.ownsRow base e size v n xs)(hb:base'<=base):w.ownsRow base' e size v n xs:=by
 refine⟨h.1,?_⟩;rcases h.2 with h0|⟨g,cap,cur,hv,hg,r⟩
 ·exact .inl h0
 ·exact .inr ⟨g,cap,cur,hv,B3 hb hg,r⟩
theorem Aj(h:w.ownsRow base e size v n xs)(hb:b<base):some b≠v.ownBlock:=λe=>by
 have:=(h.lt b e.symm).1;omega
theorem U7{b:World}(h:a.grownBy b r)(hown:b.ownsRow base e size v n xs)(hg:b.grownBy c v.ownBlock)(hk:a.heap.size<=base):a.grownBy c r :=
 ⟨hg.os.trans h.os,hg.tape.trans h.tape,hg.output.trans h.output,B3 h.size hg.size,λi hi hr=>(hg.block i (A2 hi h.size) (Aj hown (by omega))).trans (h.block i hi hr)⟩
theorem F9.own(h:F9 w g o ss)(hown:w.ownsRow base e size u n xs)(hg:w.grownBy w' u.ownBlock)(hk:g<base):F9 w' g o ss :=
 λi s hs=>hg.cell (h i s hs) (Aj hown hk)
theorem F9.drew(h:F9 w g o ss):F9 w.drew g o ss:=h
theorem Bp(h:w.ownsRow base e size v n xs):w.drew.ownsRow base e size v n xs:=h
theorem F9.drop(h:F9 w g o ss)(k:Nat):F9 w g (o+k) (ss.drop k):=λi s hs=>by
 rw[List.getElem?_drop] at hs;rw[Nat.add_assoc];exact h (k+i) s hs
theorem F9.take(h:F9 w g o ss)(k:Nat):F9 w g o (ss.take k):=λi s hs=>by
 rw[List.getElem?_take] at hs;split at hs
 ·exact h i s hs
 ·cases hs
def R8(w:World)(v:Value)(ss:List ByteArray):Prop:=∃g c,v=.slice (some ⟨g,0,none⟩) ss.length c/\F9 w g 0 ss/\g<w.heap.size/\ss.length<=c/\c<=maxLen
theorem R8.up(h:R8 w v ss)(hb:Up w w'):R8 w' v ss:=by
 obtain⟨g,c,rfl,hS,hg,r⟩:=h;exact⟨g,c,rfl,λi s hs=>(hb.cell (p:=⟨g,0+i,none⟩) hg).trans (hS i s hs),A2 hg hb.size,r⟩
theorem R8.own(h:w.ownsRow base e 1 v n (ss.map Value.string))(hn:ss.length=n)(hv:∃g c,v=.slice (some ⟨g,0,none⟩) n c):R8 w v ss:=by
 obtain⟨g,c,rfl⟩:=hv;refine⟨g,c,by rw[hn],GM h hn,(h.lt g rfl).2,?_,?_⟩
 ·rcases h.2 with⟨h0,_⟩|⟨g',cap',cur,h',_,_,hc,_⟩
  ·cases h0
  ·cases h';omega
 ·rcases h.2 with⟨h0,_⟩|⟨g',cap',cur,h',_,_,_,hc,_⟩
  ·cases h0
  ·cases h';exact hc
theorem M1(h:Up w W)(hown:W.ownsRow base e size v n xs)(hg:W.grownBy W' v.ownBlock)(hk:w.heap.size<=base):Up w W' :=
 {os:=hg.os.trans h.os,tape:=hg.tape.trans h.tape,output:=hg.output.trans h.output,size:=B3 h.size hg.size,block:=λi hi=>(hg.block i (A2 hi h.size) (Aj hown (by omega))).trans (h.block i hi)}
theorem AD(w:World)(s:ByteArray)(t:TypeId):∀(j:Nat)(u:Value),[Value.string s][j]?=some u->(w.alloc (.cells #[.string s] t)).cell? ((⟨w.heap.size,0,none⟩:Addr).add j)=some u:=λj u hj=>by
 match j,hj with
 | 0,hj=>simp at hj;subst hj;simp[Addr.add]
theorem Kp(h:At w b 0 (.string s)):∀(j:Nat)(u:Value),[Value.string s][j]?=some u->w.cell? ((⟨b,0,none⟩:Addr).add j)=some u:=λj u hj=>by
 match j,hj with
 | 0,hj=>simp at hj;subst hj;rw[Addr.add_mid];exact h
theorem DG(s:ByteArray):∀u∈[Value.string s],u.oneCell'=true:=λu hu=>by simp at hu;subst hu;rfl
def Ac(w:World)(v:Value)(ss:List ByteArray):Prop:=(v=.slice none 0 0/\ss=[])∨R8 w v ss
theorem Ac.up(h:Ac w v ss)(hb:Up w w'):Ac w' v ss:=by
 rcases h with h|h
 ·exact .inl h
 ·exact .inr (h.up hb)
theorem Ac.shape(h:Ac w v ss):∃a c,v=.slice a ss.length c:=by
 rcases h with⟨rfl,rfl⟩|⟨g,c,rfl,_⟩
 ·exact⟨none,0,rfl⟩
 ·exact⟨_,_,rfl⟩
def F7(w:World)(base:Nat)(u:Value)(ss:List ByteArray):Prop:=w.ownsRow base 9 1 u ss.length (ss.map Value.string)
theorem F7.lst(h:F7 w base u ss):Ac w u ss:=by
 rcases h.2 with⟨h0,h1⟩|⟨g,cap,cur,hv,_⟩
 ·exact .inl ⟨h0,C4.1 h1⟩
 ·exact .inr (R8.own h rfl ⟨g,cap,hv⟩)
theorem CK{b:World}{x:Nat}(h:Up w a)(hg:a.grownBy b (some x))(hx:w.heap.size<=x):Up w b :=
 {os:=hg.os.trans h.os,tape:=hg.tape.trans h.tape,output:=hg.output.trans h.output,size:=B3 h.size hg.size,block:=λi hi=>(hg.block i (A2 hi h.size) (by simp;omega)).trans (h.block i hi)}
theorem Ac.grown(h:Ac w v ss)(hg:w.grownBy w' r)(hne:∀g,v.ownBlock=some g->some g≠r):Ac w' v ss:=by
 rcases h with h|⟨g,c,rfl,hS,hlt,rest⟩
 ·exact .inl h
 ·exact .inr ⟨g,c,rfl,λi s hs=>hg.cell (hS i s hs) (hne g rfl),A2 hlt hg.size,rest⟩
theorem Ac.lt(h:Ac w v ss):∀g,v.ownBlock=some g->g<w.heap.size:=by
 intro g hg;rcases h with⟨rfl,_⟩|⟨g',c,rfl,_,hlt,_⟩
 ·simp[Value.ownBlock] at hg
 ·simp[Value.ownBlock] at hg;omega
theorem F7.up(h:F7 w base u ss)(hb:Up w w'):F7 w' base u ss:=E4 h hb
theorem G4{b:World}(h:Below B a b)(n:Nat):Below B a (b.drewN n):={os:=h.os,tape:=h.tape,output:=h.output,size:=h.size,block:=h.block}
theorem Ev(n:Nat)(w:World):
  Calls prog 142 #[.int .i32 n] w λe w'=>e=.returned (.bool (CH n))/\w'=w:=by
 go_in;go_wp2
 all_goals
  go_ret;exact⟨D8 (by rw[Bool.eq_iff_iff,FJ];simp;omega),rfl⟩
theorem O7(n lo hi:Int)(w:World):
  Calls prog 41 #[.int .i64 n,.int .i64 lo,.int .i64 hi] w λe w'=>e=.returned (.bool (Ai n lo hi))/\w'=w:=by
 by_cases h1:lo<=n<;>by_cases h2:n<=hi
 all_goals
  go_in;go_wp2;go_ret;exact⟨D8 (by simp[Ai,h1,h2]),rfl⟩
theorem V5(s:ByteArray)(w:World)(hs:s.size<=maxLen):
  Calls prog 153 #[.string s] w λe w'=>e=.returned (.bool (G0 s))/\Up w w':=by
 unfold maxLen at hs;by_cases h1:1<=s.size
 case neg =>
  go_in;go_wp2;go_ret;exact⟨D8 (by simp[G0,h1]),A5 _ _⟩
 by_cases h2:s.size<=8
 case neg =>
  go_in;go_wp2;go_ret;exact⟨D8 (by simp[G0,h2]),A5 _ _⟩
 have hn:Hid (G0 s=AM s.data.toList):=by show G0 s=_;simp[G0,h1,h2]
 go_in;go_wp2_with fail;go_loopw [4] (λ_ w'=>∃a0:Nat,w'=w.iter s a0/\a0<=s.size/\AM (s.data.toList.take a0)=true) (λ_ w'=>s.size-w'.iterPos w.heap.size)
 case atStart=>exact⟨0,rfl,by omega,rfl⟩
 case round =>
  obtain⟨a0,rfl,a4,a1⟩:=hrel;have Hal:Hid (AM (s.data.toList.take a0)=true):=a1;clear a1;by_cases hp:a0<s.size
  ·have a2:∀ty,(Instr.next (.pointer (some ⟨w.heap.size,0,none⟩)) true ty).run prog (w.iter s a0)=_:=λty=>run_next_any w s a0 ty hp;by_cases ha:(s[a0]'hp).toNat<128
   ·rw[decode_ascii s a0 hp ha] at a2;by_cases hb:CH (s[a0]'hp).toNat=true
    ·have Hb:Hid (CH (s[a0]'hp).toNat=true):=hb;go_wp2_with (go_at_call 142;refine (Ev _ _).mono ?_;rintro e w' ⟨rfl,rfl⟩)
     go_roundw
     case rel=>exact⟨a0+1,rfl,by omega,by rw[Gq s a0 hp,Hal.out,Hb.out];rfl⟩
     case measure=>simp;omega
    ·have a3:CH (s[a0]'hp).toNat=false:=by simpa using hb
     have Hb:Hid (CH (s[a0]'hp).toNat=false):=a3;clear hb;go_wp2_with (go_at_call 142;refine (Ev _ _).mono ?_;rintro e w' ⟨rfl,rfl⟩)
     go_ret;exact⟨D8 (by rw[hn.out,FK s a0 hp Hb.out]),FL _ _ _⟩
   ·have hi:=decode_high s a0 hp (by omega);have a3:CH (Utf8.decode s a0).1=false:=Io _ hi.1;have Hb:Hid (CH (s[a0]'hp).toNat=false):=Io _ (by omega);clear hi;go_wp2_with (go_at_call 142;refine (Ev _ _).mono ?_;rintro e w' ⟨rfl,rfl⟩)
    go_ret;exact⟨D8 (by rw[hn.out,FK s a0 hp Hb.out]),FL _ _ _⟩
  ·have a2:∀ty,(Instr.next (.pointer (some ⟨w.heap.size,0,none⟩)) true ty).run prog (w.iter s a0)=_:=λty=>run_next_end w s a0 ty hp;go_wp2;go_ret;exact⟨D8 (by rw[hn.out,Ip s a0 hp Hal.out]),FL _ _ _⟩
theorem O1(s:ByteArray)(w:World)(hs:s.size<=maxLen):
  Calls prog 28 #[.string s] w λe w'=>e=.returned (.bool (G0 s))/\w'=w:=by
 unfold maxLen at hs;by_cases h1:1<=s.size/\s.size<=8
 case neg =>
  have h2:Ai s.size 1 8=false:=(Fe _ _ _).2 (by omega);go_in;go_wp2_with (go_at_call 41;refine (O7 _ _ _ _).mono ?_;rintro e w' ⟨rfl,rfl⟩)
  go_ret;exact⟨D8 (by simp only[G0];simp;omega),rfl⟩
 have hn:Hid (G0 s=AM s.data.toList):=by show G0 s=_;simp[G0,h1]
 have h2:Ai s.size 1 8=true:=(BX _ _ _).2 (by omega);go_in;go_wp2_with (go_at_call 41;refine (O7 _ _ _ _).mono ?_;rintro e w' ⟨rfl,rfl⟩)
 go_loop [3] (λi=>∃k:Nat,k<=s.size/\i=.int .i64 k/\AM (s.data.toList.take k)=true) (λi=>s.size-(intOf i).toNat)
 case atStart=>exact⟨0,by omega,rfl,rfl⟩
 case round =>
  obtain⟨k,hk,rfl,a0⟩:=hrel;have Hal:Hid (AM (s.data.toList.take k)=true):=a0;clear a0;by_cases hp:k<s.size
  ·have HS:Hid (CH (s[k]'hp).toNat=true->AM (s.data.toList.take (k+1))=true):=by show _->_;intro hb;rw[Gq s k hp,Hal.out,hb];rfl
   have HN:Hid (CH (s[k]'hp).toNat=false->AM s.data.toList=false):=FK s k hp;go_wp2
   all_goals first
    | (go_ret;exact⟨D8 (by rw[hn.out];exact (HN.out (by rw[← Bool.not_eq_true,FJ];go_light;simp at *;omega)).symm),rfl⟩)
    | (go_round
       case rel=>exact⟨k+1,by omega,by go_num,HS.out (by rw[FJ];go_light;simp at *;omega)⟩
       case measure=>simp[intOf];omega)
  ·go_wp2;go_ret;exact⟨D8 (by rw[hn.out,Ip s k hp Hal.out]),rfl⟩
theorem V6(s:ByteArray)(w:World):
  Calls prog 78 #[.string s] w λe w'=>e=.returned (.int .i64 (M6 s))/\w'=w:=by
 go_in;go_wp2
 all_goals
  go_ret;exact⟨U5 (by simp[M6, *]),rfl⟩
def P2(w:World):Prop:=w.cell? ⟨0,0,none⟩=some (.string ⟨#[103,111,111,100]⟩)/\
  w.cell? ⟨0,1,none⟩=some (.string ⟨#[115,97,118,101,100]⟩)/\w.cell? ⟨0,2,none⟩=some (.string ⟨#[115,99,114,97,112,112,101,100]⟩)/\0<w.heap.size
theorem P2.up(h:P2 w)(b:Up w w'):P2 w' :=
 ⟨(b.cell (p:=⟨0,0,none⟩) h.2.2.2).trans h.1,(b.cell (p:=⟨0,1,none⟩) h.2.2.2).trans h.2.1,(b.cell (p:=⟨0,2,none⟩) h.2.2.2).trans h.2.2.1,A2 h.2.2.2 b.size⟩
theorem Y8(s:ByteArray)(w:World)(hE:P2 w):
  Calls prog 112 #[.string s] w λe w'=>e=.returned (.int .i64 (M6 s))/\w'=w:=by
 obtain⟨g0,g1,g2,_⟩:=hE;have i0:∀w,(Instr.index 143 (.agg #[.string ⟨#[103,111,111,100]⟩,.string ⟨#[115,97,118,101,100]⟩,.string ⟨#[115,99,114,97,112,112,101,100]⟩]) (.int .i64 0)).run prog w=.ok (.string ⟨#[103,111,111,100]⟩) w:=λ_=>by kernel_rfl
 have i1:∀w,(Instr.index 143 (.agg #[.string ⟨#[103,111,111,100]⟩,.string ⟨#[115,97,118,101,100]⟩,.string ⟨#[115,99,114,97,112,112,101,100]⟩]) (.int .i64 1)).run prog w=.ok (.string ⟨#[115,97,118,101,100]⟩) w:=λ_=>by kernel_rfl
 have i2:∀w,(Instr.index 143 (.agg #[.string ⟨#[103,111,111,100]⟩,.string ⟨#[115,97,118,101,100]⟩,.string ⟨#[115,99,114,97,112,112,101,100]⟩]) (.int .i64 2)).run prog w=.ok (.string ⟨#[115,99,114,97,112,112,101,100]⟩) w:=λ_=>by kernel_rfl
 go_in;go_wp2;go_rounds 4
 all_goals
  go_ret;exact⟨U5 (by simp[M6, *]),rfl⟩
end Go.Proofs.YtmonodehegcfhaaGreatDoor
namespace Go.Proofs.YtmonodehegcfhaaGreatDoor
open Go.Proofs.Tryz
variable{tmps:Array Value}{s x:ByteArray}{all l ss tg:List ByteArray}{cs xs ys:List Value}{B N b base cap e g j k len m n o off pb rb rk size:Nat}{r:Option Nat}{P:Program}{T:TypeId}{u v v' x0 x1 x2 y0 y1 y2:Value}{W W' Z a c w w' w1:World}
structure Ba where
 nm:ByteArray
 has:List ByteArray
 nj:List ByteArray
structure Bk where
 tg:List ByteArray
 bs:List Ba
noncomputable def pB(p:Prop):Bool:=@decide p (Classical.propDecidable p)
theorem L9{p:Prop}(h:p):pB p=true:=by unfold pB;simp[h]
theorem I5{p:Prop}(h:¬p):pB p=false:=by unfold pB;simp[h]
theorem K5{p:Prop}:pB p=true↔p:=by unfold pB;simp
theorem S1{p:Prop}:pB p=false↔¬p:=by unfold pB;simp
def T6(a b:ByteArray):Bool:=Op.bytesLess a.toList b.toList
def E3(l:List ByteArray)(s:ByteArray):Bool:=l.any λx=>x.toList==s.toList
def O2(a b:List ByteArray):Bool:=a.any λs=>E3 b s
theorem CL{a b:ByteArray}(h:a.toList=b.toList):a=b:=by
 rw[Go.ByteArray.toList_eq,Go.ByteArray.toList_eq] at h;cases a;cases b;simp at h;rw[h]
theorem S5(l:List ByteArray)(s:ByteArray):E3 l s=true↔s∈l:=by
 simp only[E3,List.any_eq_true,beq_iff_eq];constructor
 ·rintro⟨x,hx,h⟩;rwa [← CL h]
 ·exact λh=>⟨s,h,rfl⟩
theorem U6(l:List ByteArray)(s:ByteArray):E3 l s=false↔s∉l:=by rw[← S5];simp
theorem Ir(a b:List ByteArray):O2 a b=true↔∃s,s∈a/\s∈b:=by
 simp only[O2,List.any_eq_true,S5]
theorem Z9(a b:List ByteArray):O2 a b=false↔∀s,s∈a->s∉b:=by
 rw[← Bool.not_eq_true,Ir];simp
theorem Ff(hk:k<l.length)(h:E3 (l.take k) s=false)(hq:((l[k]).toList==s.toList)=false):E3 (l.take (k+1)) s=false:=by
 rw[A8 hk,E3,List.any_append];rw[E3] at h;simp[h,hq]
theorem Is(hk:k<l.length)(hq:((l[k]).toList==s.toList)=true):E3 l s=true:=by
 rw[E3,List.any_eq_true];exact⟨l[k],List.getElem_mem hk,hq⟩
theorem FP(hk:¬k<l.length)(h:E3 (l.take k) s=false):E3 l s=false:=by
 rwa [D2 (by omega)] at h
theorem Qk{a b:List ByteArray}(hk:k<a.length)(h:O2 (a.take k) b=false)(hq:E3 b a[k]=false):O2 (a.take (k+1)) b=false:=by
 rw[A8 hk,O2,List.any_append];rw[O2] at h;simp[h,hq]
theorem Oj{a b:List ByteArray}(hk:k<a.length)(hq:E3 b a[k]=true):O2 a b=true:=by
 rw[O2,List.any_eq_true];exact⟨a[k],List.getElem_mem hk,hq⟩
theorem RZ{a b:List ByteArray}(hk:¬k<a.length)(h:O2 (a.take k) b=false):O2 a b=false:=by
 rwa [D2 (by omega)] at h
def Y9(l:List ByteArray)(k:Nat):Prop:=∀(i:Nat)(a b:ByteArray),i+1<k->l[i]?=some a->l[i+1]?=some b->T6 a b=true
def Aa(l:List ByteArray)(k:Nat):Prop:=∀(i:Nat)(a:ByteArray),i<k->l[i]?=some a->G0 a=true
def Ak(l all:List ByteArray)(k:Nat):Prop:=∀(i:Nat)(a:ByteArray),i<k->l[i]?=some a->E3 all a=true
def Ad(l:List ByteArray):Prop:=Y9 l l.length
def Dc(l:List ByteArray):Prop:=Aa l l.length
def BZ(l all:List ByteArray):Prop:=Ak l all l.length
def I4(l all:List ByteArray):Prop:=BZ l all/\Ad l
def CM(l:List ByteArray):Prop:=l.length<=8/\Dc l/\Ad l
theorem Y9.zero(l:List ByteArray):Y9 l 0:=λi _ _ h=>by omega
theorem Y9.one(l:List ByteArray):Y9 l 1:=λi _ _ h=>by omega
theorem Aa.zero(l:List ByteArray):Aa l 0:=λi _ h=>by omega
theorem Ak.zero(l all:List ByteArray):Ak l all 0:=λi _ h=>by omega
theorem Y9.step(h:Y9 l (k+1))(hk:k+1<l.length)(hl:T6 l[k] l[k+1]=true):Y9 l (k+2):=λi a b hi ha hb=>by
 by_cases e:i=k
 ·subst e;rw[A0 (by omega)] at ha hb;obtain rfl:=A6 ha;obtain rfl:=A6 hb;exact hl
 ·exact h i a b (by omega) ha hb
theorem Aa.step(h:Aa l k)(hk:k<l.length)(hl:G0 l[k]=true):Aa l (k+1):=λi a hi ha=>by
 by_cases e:i=k
 ·subst e;rw[A0 hk] at ha;obtain rfl:=A6 ha;exact hl
 ·exact h i a (by omega) ha
theorem Ak.step(h:Ak l all k)(hk:k<l.length)(hl:E3 all l[k]=true):Ak l all (k+1):=λi a hi ha=>by
 by_cases e:i=k
 ·subst e;rw[A0 hk] at ha;obtain rfl:=A6 ha;exact hl
 ·exact h i a (by omega) ha
theorem Kq(h:Y9 l k)(hk:¬k<l.length):Ad l:=λi a b hi ha hb=>h i a b (by omega) ha hb
theorem JG(h:Aa l k)(hk:¬k<l.length):Dc l:=λi a hi ha=>h i a (by omega) ha
theorem KT(h:Ak l all k)(hk:¬k<l.length):BZ l all:=λi a hi ha=>h i a (by omega) ha
theorem Ok(h:Ad l)(hk:k+1<l.length):T6 l[k] l[k+1]=true:=h k _ _ hk (by rw[A0]) (by rw[A0])
theorem KU(h:Dc l)(hk:k<l.length):G0 l[k]=true:=h k _ hk (by rw[A0])
theorem Kr(h:BZ l all)(hk:k<l.length):E3 all l[k]=true:=h k _ hk (by rw[A0])
theorem TA(h:Dc l)(hs:s∈l):G0 s=true:=by
 obtain⟨i,hi,rfl⟩:=B7 hs;exact KU h hi
theorem FQ(h:BZ l all)(hs:s∈l):s∈all:=by
 obtain⟨i,hi,rfl⟩:=B7 hs;exact (S5 _ _).1 (Kr h hi)
def FR(tg:List ByteArray)(x:Ba):Prop:=I4 x.nj tg/\I4 x.has x.nj
def AW(tg:List ByteArray)(bs:List Ba)(k:Nat):Prop:=∀(i:Nat)(x:Ba),i<k->bs[i]?=some x->FR tg x
def T9(bs:List Ba)(n m:Nat):Prop:=∀(i j:Nat)(x y:Ba),j<i->(i<n∨i=n/\j<m)->bs[i]?=some x->bs[j]?=some y->O2 x.has y.has=false
def G7(bs:List Ba):List ByteArray:=bs.map (·.nm)
def Cp(bs:List Ba):Prop:=T9 bs bs.length 0
def J1(b:Bk):Prop:=CM b.tg/\b.bs.length<=5/\Dc (G7 b.bs)/\Ad (G7 b.bs)/\AW b.tg b.bs b.bs.length/\Cp b.bs
noncomputable def K4(b:Bk):Bool:=pB (J1 b)
theorem L8(bs:List Ba):(G7 bs).length=bs.length:=by simp[G7]
theorem Au(bs:List Ba)(k:Nat)(hk:k<bs.length):(G7 bs)[k]'(by rw[L8];exact hk)=(bs[k]).nm:=by simp[G7]
theorem Ol(bs:List Ba)(k:Nat):G7 (bs.take k)=(G7 bs).take k:=by simp[G7]
theorem AW.zero(tg:List ByteArray)(bs:List Ba):AW tg bs 0:=λi _ h=>by omega
theorem AW.step{bs:List Ba}(h:AW tg bs k)(hk:k<bs.length)(hl:FR tg bs[k]):AW tg bs (k+1):=λi a hi ha=>by
 by_cases e:i=k
 ·subst e;rw[A0 hk] at ha;obtain rfl:=A6 ha;exact hl
 ·exact h i a (by omega) ha
theorem AW.at{bs:List Ba}(h:AW tg bs n)(hn:k<n)(hk:k<bs.length):FR tg bs[k]:=h k _ hn (by rw[A0])
theorem Ri{bs:List Ba}(h:AW tg bs k)(hk:¬k<bs.length):AW tg bs bs.length:=λi a hi ha=>h i a (by omega) ha
theorem T9.zero(bs:List Ba):T9 bs 0 0:=λi j _ _ _ h=>by omega
theorem T9.step{bs:List Ba}(h:T9 bs n m)(hn:n<bs.length)(hm:m<n)(hq:O2 (bs[n]).has (bs[m]).has=false):T9 bs n (m+1):=λi j x y hji hi hx hy=>by
 by_cases e:i=n/\j=m
 ·obtain⟨rfl,rfl⟩:=e;rw[A0 (by omega)] at hx hy;obtain rfl:=A6 hx;obtain rfl:=A6 hy;exact hq
 ·exact h i j x y hji (by omega) hx hy
theorem T9.next{bs:List Ba}(h:T9 bs n m)(hm:¬m<n):T9 bs (n+1) 0:=λi j x y hji hi hx hy=>h i j x y hji (by omega) hx hy
theorem TB{bs:List Ba}(h:T9 bs n 0)(hn:¬n<bs.length):Cp bs:=λi j x y hji hi hx hy=>h i j x y hji (by
 have:=(A3.1 hx).1;omega) hx hy
theorem Cp.at{bs:List Ba}(h:Cp bs)(hn:n<bs.length)(hm:m<n):O2 (bs[n]).has (bs[m]).has=false:=h n m _ _ hm (by omega) (by rw[A0]) (by rw[A0])
def Dq(bs:List Ba)(s:ByteArray):ByteArray:=((bs.find? λx=>E3 x.has s).map (·.nm)).getD ⟨#[]⟩
noncomputable def JH(b:Bk)(s:ByteArray):ByteArray:=if K4 b=true then Dq b.bs s else ⟨#[]⟩
def FT(bs:List Ba)(s:ByteArray)(k:Nat):Prop:=∀(i:Nat)(x:Ba),i<k->bs[i]?=some x->E3 x.has s=false
theorem FT.zero(bs:List Ba)(s:ByteArray):FT bs s 0:=λi _ h=>by omega
theorem FT.step{bs:List Ba}(h:FT bs s k)(hk:k<bs.length)(hl:E3 (bs[k]).has s=false):FT bs s (k+1):=λi a hi ha=>by
 by_cases e:i=k
 ·subst e;rw[A0 hk] at ha;obtain rfl:=A6 ha;exact hl
 ·exact h i a (by omega) ha
theorem Rj{bs:List Ba}(hk:k<bs.length)(h:FT bs s k)(hl:E3 (bs[k]).has s=true):Dq bs s=(bs[k]).nm:=by
 have:bs.find? (λx=>E3 x.has s)=some bs[k]:=by
  rw[List.find?_eq_some_iff_getElem];exact⟨hl,k,hk,rfl,λj hj=>by rw[h j _ hj (by rw[A0 (by omega)])];rfl⟩
 rw[Dq,this];rfl
theorem TC{bs:List Ba}(hk:¬k<bs.length)(h:FT bs s k):Dq bs s=⟨#[]⟩:=by
 have:bs.find? (λx=>E3 x.has s)=none:=by
  rw[List.find?_eq_none];intro x hx;obtain⟨i,hi,rfl⟩:=B7 hx;rw[h i _ (by omega) (by rw[A0])];simp
 rw[Dq,this];rfl
def T5(l:List ByteArray)(s:ByteArray):Int:=if E3 l s=true then (l.findIdx λx=>x.toList==s.toList:Nat) else -1
theorem Cq(hk:k<l.length)(h:E3 (l.take k) s=false)(hq:((l[k]).toList==s.toList)=true):T5 l s=(k:Int):=by
 have hf:l.findIdx (λx=>x.toList==s.toList)=k:=by
  rw[List.findIdx_eq hk];refine⟨hq,λj hj=>?_⟩;rw[E3,List.any_eq_false] at h;have:=h (l[j]) (by rw[List.mem_take_iff_getElem];exact⟨j,by omega,rfl⟩);simpa using this
 rw[T5,if_pos (Is hk hq),hf]
theorem AN(h:E3 l s=false):T5 l s=-1:=by rw[T5,h];simp
theorem KV(l:List ByteArray)(s:ByteArray):decide (0<=T5 l s)=E3 l s:=by
 cases h:E3 l s
 ·rw[AN h];rfl
 ·rw[T5,if_pos h];simp
theorem It(a b:List UInt8):(a==b)=(b==a):=by
 rw[Bool.eq_iff_iff,beq_iff_eq,beq_iff_eq];exact eq_comm
end Go.Proofs.YtmonodehegcfhaaGreatDoor
namespace Go.Proofs.YtmonodehegcfhaaGreatDoor
open Go.Proofs.Tryz
open Go.RowKit
variable{tmps:Array Value}{s x:ByteArray}{all l ss tg:List ByteArray}{cs xs ys:List Value}{B N b base cap e g j k len m n o off pb rb rk size:Nat}{r:Option Nat}{P:Program}{T:TypeId}{u v v' x0 x1 x2 y0 y1 y2:Value}{W W' Z a c w w' w1:World}
def Ls(w:World)(v:Value)(ss:List ByteArray):Prop :=
 ∃a c,v=.slice a ss.length c/\ss.length<=maxLen/\(∀s∈ss,s.size<=maxLen)/\(0<ss.length->∃b o,a=some ⟨b,o,none⟩/\F9 w b o ss/\b<w.heap.size)
theorem F9.up(h:F9 w g o ss)(hb:Up w w')(hg:g<w.heap.size):F9 w' g o ss :=
 λi s hs=>(hb.cell (p:=⟨g,o+i,none⟩) hg).trans (h i s hs)
theorem F9.cell(h:F9 w g o ss)(hk:k<ss.length):At w g (o+k) (.string ss[k]):=h k _ (by rw[A0])
theorem Ls.up(h:Ls w v ss)(hb:Up w w'):Ls w' v ss:=by
 obtain⟨a,c,rfl,h1,h2,h3⟩:=h;refine⟨a,c,rfl,h1,h2,λhp=>?_⟩;obtain⟨b,o,rfl,hS,a0⟩:=h3 hp;exact⟨b,o,rfl,hS.up hb a0,A2 a0 hb.size⟩
theorem Ls.inv{a:Option Addr}{c:Nat}(h:Ls w (.slice a n c) ss):ss.length<=maxLen/\(∀s∈ss,s.size<=maxLen)/\(0<ss.length->∃b o,a=some ⟨b,o,none⟩/\F9 w b o ss/\b<w.heap.size):=by
 obtain⟨a',c',e,h1⟩:=h;obtain⟨rfl,-,rfl⟩:=Value.slice.inj e;exact h1
theorem Ls.drew(h:Ls w v ss):Ls w.drew v ss:=h
theorem Ls.drewN(h:Ls w v ss):Ls (w.drewN n) v ss:=h
theorem Ls.take{a:Option Addr}{c:Nat}(h:Ls w (.slice a ss.length c) ss)(hk:k<=ss.length)(c':Nat):Ls w (.slice a k c') (ss.take k):=by
 obtain⟨a',c',e,h1,h2,h3⟩:=h;obtain⟨rfl,-,rfl⟩:=Value.slice.inj e;have hl:(ss.take k).length=k:=by rw[B8];omega
 refine⟨a,_,by rw[hl],by rw[hl];omega,λs hs=>h2 s (List.mem_of_mem_take hs),λhp=>?_⟩;obtain⟨b,o,rfl,hS,a0⟩:=h3 (by omega);exact⟨b,o,rfl,hS.take k,a0⟩
theorem Ls.nil(w:World)(a:Option Addr)(c:Nat):Ls w (.slice a 0 c) []:=⟨a,c,rfl,by simp,λs hs=>by simp at hs,λh=>by simp at h⟩
theorem Ac.ls(h:Ac w v ss)(hz:∀s∈ss,s.size<=maxLen):Ls w v ss:=by
 rcases h with⟨rfl,rfl⟩|⟨g,c,rfl,hS,hg,h1,h2⟩
 ·exact Ls.nil _ _ _
 ·exact⟨_,c,rfl,by omega,hz,λ_=>⟨g,0,rfl,hS,hg⟩⟩
def Iu(w:World)(b o:Nat)(x:Ba):Prop:=∃hv nv,w.rangeAt b o [.string x.nm,hv,nv]/\Ls w hv x.has/\Ls w nv x.nj/\x.nm.size<=maxLen
theorem Iu.up{x:Ba}(h:Iu w b o x)(hb:Up w w')(hlt:b<w.heap.size):Iu w' b o x:=by
 obtain⟨hv,nv,hr,h1,h2,h3⟩:=h;exact⟨hv,nv,λj v hv=>(hb.cell (p:=⟨b,o+j,none⟩) hlt).trans (hr j v hv),h1.up hb,h2.up hb,h3⟩
def GN(w:World)(b o:Nat)(bs:List Ba):Prop:=∀(i:Nat)(x:Ba),bs[i]?=some x->Iu w b (o+i*3) x
theorem GN.up{bs:List Ba}(h:GN w b o bs)(hb:Up w w')(hlt:b<w.heap.size):GN w' b o bs:=λi x hx=>(h i x hx).up hb hlt
theorem GN.at{bs:List Ba}(h:GN w b o bs)(hk:k<bs.length):Iu w b (o+k*3) bs[k]:=h k _ (by rw[A0])
theorem Iu.cells{x:Ba}(h:Iu w b o x):∃a1 c1 a2 c2,At w b o (.string x.nm)/\At w b (o+1) (.slice a1 x.has.length c1)/\At w b (o+2) (.slice a2 x.nj.length c2)/\
  Ls w (.slice a1 x.has.length c1) x.has/\Ls w (.slice a2 x.nj.length c2) x.nj/\x.nm.size<=maxLen:=by
 obtain⟨hv,nv,hr,h1,h2,h3⟩:=h;obtain⟨a1,c1,rfl,-⟩:=id h1;obtain⟨a2,c2,rfl,-⟩:=id h2;exact⟨a1,c1,a2,c2,hr 0 _ rfl,hr 1 _ rfl,hr 2 _ rfl,h1,h2,h3⟩
def Bs(w:World)(v:Value)(bs:List Ba):Prop:=∃a c,v=.slice a bs.length c/\bs.length<=maxLen/\(0<bs.length->∃b o,a=some ⟨b,o,none⟩/\GN w b o bs/\b<w.heap.size)
theorem Bs.up{bs:List Ba}(h:Bs w v bs)(hb:Up w w'):Bs w' v bs:=by
 obtain⟨a,c,rfl,h1,h3⟩:=h;refine⟨a,c,rfl,h1,λhp=>?_⟩;obtain⟨b,o,rfl,hS,a0⟩:=h3 hp;exact⟨b,o,rfl,hS.up hb a0,A2 a0 hb.size⟩
theorem Bs.drew{bs:List Ba}(h:Bs w v bs):Bs w.drew v bs:=h
def Q6(w:World)(v:Value)(b:Bk):Prop:=∃tv bv,v=.agg #[tv,bv]/\Ls w tv b.tg/\Bs w bv b.bs
theorem Q6.up{b:Bk}(h:Q6 w v b)(hb:Up w w'):Q6 w' v b:=by
 obtain⟨tv,bv,rfl,h1,h2⟩:=h;exact⟨tv,bv,rfl,h1.up hb,h2.up hb⟩
theorem Q6.drew{b:Bk}(h:Q6 w v b):Q6 w.drew v b:=h
theorem Q6.parts{b:Bk}(h:Q6 w v b):∃a1 c1 a2 c2,v=.agg #[.slice a1 b.tg.length c1,.slice a2 b.bs.length c2]/\Ls w (.slice a1 b.tg.length c1) b.tg/\Bs w (.slice a2 b.bs.length c2) b.bs:=by
 obtain⟨tv,bv,rfl,h1,h2⟩:=h;obtain⟨a1,c1,rfl,-⟩:=id h1;obtain⟨a2,c2,rfl,-⟩:=id h2;exact⟨a1,c1,a2,c2,rfl,h1,h2⟩
theorem CB.c2'(h:CB w b [x0,x1]):At w b 0 x0/\At w b 1 x1:=h.c2.1
theorem Bs.at{a:Option Addr}{c:Nat}{bs:List Ba}(h:Bs w (.slice a n c) bs):bs.length<=maxLen/\(0<bs.length->∃b o,a=some ⟨b,o,none⟩/\GN w b o bs/\b<w.heap.size):=by
 obtain⟨a',c',e,h1⟩:=h;obtain⟨rfl,-,rfl⟩:=Value.slice.inj e;exact h1
def DD(a b:ByteArray):Bool:=Op.bytesLess a.toList b.toList
def Iv(a b:ByteArray):Bool:=a.toList==b.toList
def M7:List ByteArray->ByteArray->List ByteArray
 | [],x=>[x]
 | y::r,x=>if DD y x=true then y::M7 r x else if Iv y x=true then y::r else x::y::r
def JI(ss:List ByteArray)(x:ByteArray)(k:Nat):Prop:=∀(j:Nat)(s:ByteArray),j<k->ss[j]?=some s->DD s x=true
theorem MQ(h:JI ss x k)(hk:k<ss.length)(hl:DD (ss[k]) x=true):JI ss x (k+1):=λj s hj hs=>by
 rcases Nat.lt_or_ge j k with h'|h'
 ·exact h j s h' hs
 ·obtain rfl:j=k:=by omega
  obtain⟨_,rfl⟩:=A3.1 hs;exact hl
theorem FU:∀(ss:List ByteArray)(x:ByteArray)(k:Nat),JI ss x k->k<=ss.length->(∀s,ss[k]?=some s->DD s x=false/\Iv s x=false)->M7 ss x=ss.take k++x::ss.drop k
 | [],x,0,_,_,_=>rfl
 | [],x,k+1,_,h,_=>by simp at h
 | y::r,x,0,_,_,h=>by
  obtain⟨h1,h2⟩:=h y rfl;rw[M7,h1,h2];rfl
 | y::r,x,k+1,hl,hk,h=>by
  have h0:=hl 0 y (by omega) rfl;rw[M7,if_pos h0,FU r x k (λj s hj hs=>hl (j+1) s (by omega) (by simpa using hs)) (by simpa using hk) (λs hs=>h s (by simpa using hs))];rfl
theorem KW:∀(ss:List ByteArray)(x:ByteArray)(k:Nat),JI ss x k->(∃s,ss[k]?=some s/\DD s x=false/\Iv s x=true)->M7 ss x=ss
 | [],x,k,_,⟨s,hs,_⟩=>by simp at hs
 | y::r,x,0,_,⟨s,hs,h1,h2⟩=>by
  obtain rfl:y=s:=by simpa using hs
  rw[M7,h1,h2];rfl
 | y::r,x,k+1,hl,⟨s,hs,h1,h2⟩=>by
  have h0:=hl 0 y (by omega) rfl;rw[M7,if_pos h0,KW r x k (λj s hj hs=>hl (j+1) s (by omega) (by simpa using hs)) ⟨s,by simpa using hs,h1,h2⟩]
theorem Iw(ss:List ByteArray)(x:ByteArray):(M7 ss x).length<=ss.length+1:=by
 induction ss with
 | nil=>simp[M7]
 | cons y r ih =>
  rw[M7];split
  ·simp;omega
  ·split<;>simp
def Ow(w W:World)(g:Nat)(ss:List ByteArray)(v:Value)(n:Nat)(xs:List Value):Prop:=W.ownsRow w.heap.size 9 1 v n xs/\F9 W g 0 ss/\Up w W
theorem Ow.grow{n':Nat}(h:Ow w W g ss v n xs)(hg:g<w.heap.size)(hgr:W.grownBy W' v.ownBlock)(ho:W'.ownsRow w.heap.size 9 1 v' n' ys):Ow w W' g ss v' n' ys :=
 ⟨ho,h.2.1.own h.1 hgr hg,M1 h.2.2 h.1 hgr (A4 _)⟩
theorem Ow.alloc(h:Ow w W g ss v n xs)(o:Obj):Ow w (W.alloc o) g ss v n xs :=
 ⟨h.1.alloc o,h.2.1.alloc o,h.2.2.alloc h.2.2.size o⟩
theorem Ow.drew(h:Ow w W g ss v n xs):Ow w W.drew g ss v n xs:=⟨h.1,h.2.1,h.2.2.drew⟩
theorem Cz(hS:F9 W g 0 ss)(hB:Up w W):Ow w (W.alloc (.cells #[] 9)) g ss (.slice (some ⟨W.heap.size,0,none⟩) 0 0) 0 [] :=
 ⟨C0 W #[] 0 hB.size (Nat.zero_le _) rfl,hS.alloc _,hB.alloc hB.size _⟩
theorem Gr{o2 c:Nat}(h:F9 W g 0 ss)(ho:(if c=k then some (⟨g,0,none⟩:Addr) else some ⟨g,k,none⟩)=some ⟨g,o2,none⟩)(hc:ss.length<=c):F9 W g o2 (ss.drop k):=by
 by_cases h7:c=k
 ·intro i s hs;have:=(A3.1 hs).1;simp at this;omega
 ·rw[if_neg h7] at ho;obtain rfl:k=o2:=by simpa using ho
  have:=h.drop k;simpa using this
theorem Rk(a b:Nat)(ha:a<4611686018427387904)(hb:b<4611686018427387904):0<=bits .xor .i64 (a:Int) (b:Int)/\bits .xor .i64 (a:Int) (b:Int)<4611686018427387904:=by
 have hx:a ^^^ b<2 ^ 62:=Nat.xor_lt_two_pow (by omega) (by omega)
 have h1:(BitVec.ofInt 64 (a:Int)).toNat=a:=by
  rw[BitVec.ofInt_natCast,BitVec.toNat_ofNat];exact Nat.mod_eq_of_lt (by omega)
 have h2:(BitVec.ofInt 64 (b:Int)).toNat=b:=by
  rw[BitVec.ofInt_natCast,BitVec.toNat_ofNat];exact Nat.mod_eq_of_lt (by omega)
 have e:bits .xor .i64 (a:Int) (b:Int)=IntKind.i64.wrap ((a ^^^ b:Nat):Int):=by
  show IntKind.i64.wrap ((BitVec.ofInt 64 (a:Int) ^^^ BitVec.ofInt 64 (b:Int)).toNat:Int)=_
  rw[BitVec.toNat_xor,h1,h2]
 rw[e,IntKind.wrap_i64];omega
def Av(w:World)(rb:Nat)(v:Value)(len:Nat):Prop:=∃(a:Option Addr)(cap:Nat),v=.slice a len cap/\(len=0∨∃(b o:Nat)(z:Nat->Int),a=some ⟨b,o,none⟩/\b<rb/\∀i,i<len->w.cell? ⟨b,o+i,none⟩=some (.int .u8 (z i))/\0<=z i/\z i<=255)
def Rd(w:World)(rb:Nat)(v:Value)(len N:Nat):Prop:=∃p:Nat,p<=N/\w.cell? ⟨rb,0,none⟩=some v/\w.cell? ⟨rb,1,none⟩=some (.int .i64 p)/\w.frozen? ⟨rb,1,none⟩=false/\Av w rb v len/\len<=2000
theorem Av.kept(h:Av w rb v len)(hg:w.grownBy w' (some rb)):Av w' rb v len:=by
 obtain⟨a,a0,hv,h⟩:=h;refine⟨a,a0,hv,?_⟩;rcases h with h|⟨b,o,z,ha,hb,hz⟩
 ·exact .inl h
 ·exact .inr ⟨b,o,z,ha,hb,λi hi=>⟨hg.cell (hz i hi).1 (by simp;omega),(hz i hi).2⟩⟩
theorem Rd.drewN(h:Rd w rb v len N)(n:Nat):Rd (w.drewN n) rb v len N:=h
theorem Rd.mono{M:Nat}(h:Rd w rb v len N)(hM:N<=M):Rd w rb v len M:=by
 obtain⟨p,hp,r⟩:=h;exact⟨p,by omega,r⟩
theorem Rd.lt(h:Rd w rb v len N):rb<w.heap.size:=by
 obtain⟨p,hp,c0,_⟩:=h;exact World.block_lt_of_cell? w _ c0
theorem Rd.kept(h:Rd w rb v len N)(hb:Up w w'):Rd w' rb v len N:=by
 have a0:=h.lt;obtain⟨p,hp,c0,c1,f1,a1,hl⟩:=h;exact⟨p,hp,(hb.cell (p:=⟨rb,0,none⟩) a0).trans c0,(hb.cell (p:=⟨rb,1,none⟩) a0).trans c1,(hb.frozen (p:=⟨rb,1,none⟩) a0).trans f1,a1.kept (L2 hb),hl⟩
theorem Rd.alloc(h:Rd w rb v len N)(o:Obj):Rd (w.alloc o) rb v len N:=h.kept ((A5 _ _).alloc (A4 _) _)
theorem Rd.setCell(h:Rd w rb v len N)(hlt:rb<pb):Rd (w.setCell ⟨pb,off,none⟩ u) rb v len N:=by
 obtain⟨p,hp,c0,c1,f1,⟨a,a0,hv,hb⟩,hl⟩:=h;refine⟨p,hp,?_,?_,?_,⟨a,a0,hv,?_⟩,hl⟩
 ·rw[C1 _ _ _ _ (by simp<;>omega)];exact c0
 ·rw[C1 _ _ _ _ (by simp<;>omega)];exact c1
 ·rw[World.frozen?_setCell];exact f1
 ·rcases hb with hb|⟨b,o,z,rfl,h1,hz⟩
  ·exact .inl hb
  ·refine .inr ⟨b,o,z,rfl,h1,λi hi=>⟨?_,(hz i hi).2⟩⟩;rw[C1 _ _ _ _ (by simp<;>omega)];exact (hz i hi).1
def TD(ss:List ByteArray):Prop:=∀s∈ss,s.size<=maxLen
theorem Y6(h:(ss.all λs=>decide (s.size<=100))=true):TD ss:=λs hs=>by
 have:=List.all_eq_true.1 h s hs;simp only[decide_eq_true_eq] at this;unfold maxLen;omega
theorem K8(w:World)(ss:List ByteArray)(t:TypeId):F9 (w.alloc (.cells (ss.map Value.string).toArray t)) w.heap.size 0 ss:=λi s hs=>by
 have:((ss.map Value.string).toArray)[i]?=some (.string s):=by simp[hs]
 simp[go_sem,World.cell?_alloc_at,this]
theorem Rd.row(h:Rd w rb v len N)(hg:w.grownBy w' (some k))(hk:rb<k):Rd w' rb v len N:=by
 have a2:=h.lt;obtain⟨p,hp,c0,c1,f1,⟨a,a1,hv,hb⟩,hl⟩:=h;have a0:=hg.block rb a2 (by simp;omega);refine⟨p,hp,(C2 (w:=w) (a:=⟨rb,0,none⟩) a0).trans c0,(C2 (w:=w) (a:=⟨rb,1,none⟩) a0).trans c1,(World.frozen?_of_block (w:=w) (a:=⟨rb,1,none⟩) a0).trans f1,⟨a,a1,hv,?_⟩,hl⟩;rcases hb with hb|⟨b,o,z,ha,h1,hz⟩
 ·exact .inl hb
 ·exact .inr ⟨b,o,z,ha,h1,λi hi=>⟨hg.cell (hz i hi).1 (by simp;omega),(hz i hi).2⟩⟩
theorem Rd.own(h:Rd w rb v len N)(hown:w.ownsRow base e size u n xs)(hg:w.grownBy w' u.ownBlock)(hk:rb<base):Rd w' rb v len N:=by
 have a2:=h.lt;obtain⟨p,hp,c0,c1,f1,⟨a,a1,hv,hb⟩,hl⟩:=h;have a0:=hg.block rb a2 (Aj hown hk);refine⟨p,hp,(C2 (w:=w) (a:=⟨rb,0,none⟩) a0).trans c0,(C2 (w:=w) (a:=⟨rb,1,none⟩) a0).trans c1,(World.frozen?_of_block (w:=w) (a:=⟨rb,1,none⟩) a0).trans f1,⟨a,a1,hv,?_⟩,hl⟩;rcases hb with hb|⟨b,o,z,ha,h1,hz⟩
 ·exact .inl hb
 ·exact .inr ⟨b,o,z,ha,h1,λi hi=>⟨hg.cell (hz i hi).1 (Aj hown (b:=b) (by omega)),(hz i hi).2⟩⟩
theorem Rd.drew(h:Rd w rb v len N):Rd w.drew rb v len N:=h
theorem Av.cut{a:Option Addr}(h:Av w rb (.slice a n cap) n)(hm:m<=n):Av w rb (.slice a m cap) m:=by
 obtain⟨a',a0,hv,h⟩:=h;cases hv
 refine⟨a,cap,rfl,?_⟩;rcases h with h|⟨b,o,z,ha,hb,hz⟩
 ·exact .inl (by omega)
 ·exact .inr ⟨b,o,z,ha,hb,λi hi=>hz i (by omega)⟩
theorem Av.up(h:Av w B v len)(hg:Below B w w')(hB:B<=rb):Av w' rb v len:=by
 obtain⟨a,a0,hv,h⟩:=h;refine⟨a,a0,hv,?_⟩;rcases h with h|⟨b,o,z,ha,hb,hz⟩
 ·exact .inl h
 ·exact .inr ⟨b,o,z,ha,by omega,λi hi=>⟨(hg.cell (p:=⟨b,o+i,none⟩) hb).trans (hz i hi).1,(hz i hi).2⟩⟩
theorem Om(w:World)(v:Value)(n:Nat)(t:TypeId)(h:Av w w.heap.size v n)(hn:n<=2000):Rd (w.alloc (.cells #[v,.int .i64 0] t)) w.heap.size v n 0 :=
 ⟨0,A4 _,by simp[go_sem],by simp[go_sem],by simp[go_sem],h.up ((A5 _ _).alloc (A4 _) _) (A4 _),hn⟩
theorem Ea{b:World}(h:a.grownBy b (some rb))(hrb:a.heap.size<=rb):Up a b :=
 {os:=h.os,tape:=h.tape,output:=h.output,size:=h.size,block:=λi hi=>h.block i hi (by simp;omega)}
structure Ph where
 nm:ByteArray
 k:Int
 a:ByteArray
 b:ByteArray
 n:Int
 wi:Int
 t:ByteArray
 e:ByteArray
def Ph.cells(p:Ph):List Value:=[.string p.nm,.int .i64 p.k,.string p.a,.string p.b,.int .i64 p.n,.int .i64 p.wi,.string p.t,.string p.e]
def Ph.okB(p:Ph):Bool:=V9 p.nm p.k p.a p.b p.n p.wi p.t p.e
def M2(w:World)(b o:Nat)(ps:List Ph):Prop:=∀(i:Nat)(p:Ph),ps[i]?=some p->w.rangeAt b (o+i*8) p.cells
def Dd(ps:List Ph):Prop:=∀p∈ps,p.nm.size<=maxLen/\p.a.size<=maxLen/\p.b.size<=maxLen/\p.t.size<=maxLen/\p.e.size<=maxLen
def O6(ps:List Ph)(nm:ByteArray):Bool:=ps.any λp=>p.nm.toList==nm.toList
def U8(ps:List Ph)(nm:ByteArray):Int:=match ps.findIdx? λp=>p.nm.toList==nm.toList with
 | some i=>i
 | none=>-1
theorem M2.cells{ps:List Ph}(h:M2 w b o ps)(i:Nat)(hi:i<ps.length):
  At w b (o+i*8) (.string (ps[i]).nm)/\At w b (o+i*8+1) (.int .i64 (ps[i]).k)/\At w b (o+i*8+2) (.string (ps[i]).a)/\At w b (o+i*8+3) (.string (ps[i]).b)/\
  At w b (o+i*8+4) (.int .i64 (ps[i]).n)/\At w b (o+i*8+5) (.int .i64 (ps[i]).wi)/\At w b (o+i*8+6) (.string (ps[i]).t)/\At w b (o+i*8+7) (.string (ps[i]).e):=by
 have hr:=h i ps[i] (by simp[hi]);exact⟨hr 0 _ rfl,hr 1 _ rfl,hr 2 _ rfl,hr 3 _ rfl,hr 4 _ rfl,hr 5 _ rfl,hr 6 _ rfl,hr 7 _ rfl⟩
theorem M2.drop{ps:List Ph}(h:M2 w b o ps)(i:Nat):M2 w b (o+i*8) (ps.drop i):=λj p hp=>by
 have:=h (i+j) p (by simpa [List.getElem?_drop] using hp);rwa [show o+i*8+j*8=o+(i+j)*8 by omega]
theorem M2.up{ps:List Ph}(h:M2 w b o ps)(hb:Below B w w')(hB:b<B):M2 w' b o ps:=λi p hp j v hv=>by
 rw[hb.cell (p:=⟨b,o+i*8+j,none⟩) hB];exact h i p hp j v hv
theorem MR(ps:List Ph)(nm:ByteArray)(k:Nat)(h:k<ps.length):O6 (ps.take (k+1)) nm=(O6 (ps.take k) nm || ((ps[k]).nm.toList==nm.toList)):=by
 unfold O6;rw[A8 h,List.any_append];simp
theorem KX(ps:List Ph)(nm:ByteArray)(k:Nat)(h:¬k<ps.length)(hn:O6 (ps.take k) nm=false):O6 ps nm=false:=by
 rwa [D2 (by omega)] at hn
theorem VI(ps:List Ph)(nm:ByteArray)(k:Nat)(h:k<ps.length)(he:((ps[k]).nm.toList==nm.toList)=true):O6 ps nm=true:=by
 unfold O6;rw[List.any_eq_true];exact⟨ps[k],by simp,he⟩
theorem CN(ps:List Ph)(nm:ByteArray):O6 ps nm=true↔∃(j:Nat)(q:Ph),ps[j]?=some q/\(q.nm.toList==nm.toList)=true:=by
 unfold O6;rw[List.any_eq_true];constructor
 ·rintro⟨q,hq,he⟩;obtain⟨j,hj,rfl⟩:=B7 hq;exact⟨j,ps[j],by simp[hj],he⟩
 ·rintro⟨j,q,hq,he⟩;exact⟨q,A7 hq,he⟩
theorem KY(ps:List Ph)(nm:ByteArray)(h:O6 ps nm=false):U8 ps nm=-1:=by
 have:(ps.findIdx? λp=>p.nm.toList==nm.toList)=none:=by
  rw[List.findIdx?_eq_none_iff];simpa [O6] using h
 simp only[U8,this]
theorem MS(ps:List Ph)(nm:ByteArray)(k:Nat)(h:k<ps.length)(hn:O6 (ps.take k) nm=false)(he:((ps[k]).nm.toList==nm.toList)=true):U8 ps nm=k:=by
 have:(ps.findIdx? λp=>p.nm.toList==nm.toList)=some k:=by
  rw[List.findIdx?_eq_some_iff_getElem];refine⟨h,he,λj hj=>?_⟩;intro hc
  have:O6 (ps.take k) nm=true:=by
   rw[CN];exact⟨j,ps[j],by simp[hj,Nat.lt_trans hj h],hc⟩
  rw[hn] at this;cases this
 simp only[U8,this]
def BS(later:List Ph)(nm:ByteArray):Bool:=M6 nm != 0 || O6 later nm
end Go.Proofs.YtmonodehegcfhaaGreatDoor
namespace Go.Proofs.YtmonodehegcfhaaGreatDoor
open Go.Proofs.Tryz
variable{tmps:Array Value}{s x:ByteArray}{all l ss tg:List ByteArray}{cs xs ys:List Value}{B N b base cap e g j k len m n o off pb rb rk size:Nat}{r:Option Nat}{P:Program}{T:TypeId}{u v v' x0 x1 x2 y0 y1 y2:Value}{W W' Z a c w w' w1:World}
def Be(ps:List Ph)(i:Nat)(p:Ph):Bool:=p.okB && !O6 (ps.drop (i+1)) p.nm&&BS (ps.drop (i+1)) p.t&&BS (ps.drop (i+1)) p.e
def BG(ps:List Ph)(i:Nat)(p:Ph):Bool:=p.okB&&U8 ps p.nm==(i:Int) && !(M6 p.t==0&&decide (U8 ps p.t<=(i:Int))) && !(M6 p.e==0&&decide (U8 ps p.e<=(i:Int)))
def GO(ps:List Ph)(k:Nat):Prop:=∀(i:Nat)(p:Ph),i<k->ps[i]?=some p->Be ps i p=true
def Ix(ps:List Ph)(k:Nat):Prop:=∀(i:Nat)(p:Ph),i<k->ps[i]?=some p->BG ps i p=true
def P3(ps:List Ph):Bool:=decide (1<=ps.length)&&decide (ps.length<=12)&&(List.range ps.length).all λi=>(ps[i]?.map (Be ps i)).getD true
theorem M3(ps:List Ph):P3 ps=true↔1<=ps.length/\ps.length<=12/\GO ps ps.length:=by
 simp only[P3,Bool.and_eq_true,decide_eq_true_eq,List.all_eq_true,List.mem_range,GO,and_assoc];refine and_congr_right λ_=>and_congr_right λ_=>⟨λh i p hi hp=>?_,λh i hi=>?_⟩
 ·have:=h i hi;simpa [hp] using this
 ·have hg:ps[i]?=some ps[i]:=by simp[hi]
  rw[hg];simpa using h i ps[i] hi hg
theorem DP(ps:List Ph)(nm:ByteArray)(i:Nat):O6 (ps.drop i) nm=true↔∃(j:Nat)(q:Ph),i<=j/\ps[j]?=some q/\(q.nm.toList==nm.toList)=true:=by
 rw[CN];constructor
 ·rintro⟨j,q,hq,he⟩;exact⟨i+j,q,by omega,by simpa [List.getElem?_drop] using hq,he⟩
 ·rintro⟨j,q,hj,hq,he⟩;exact⟨j-i,q,by rw[List.getElem?_drop,show i+(j-i)=j by omega];exact hq,he⟩
theorem DQ(ps:List Ph)(nm:ByteArray):(O6 ps nm=false/\U8 ps nm=-1)∨∃(j:Nat)(q:Ph),ps[j]?=some q/\(q.nm.toList==nm.toList)=true/\U8 ps nm=(j:Int)/\∀(l:Nat)(r:Ph),l<j->ps[l]?=some r->(r.nm.toList==nm.toList)=false:=by
 cases h:ps.findIdx? λp=>p.nm.toList==nm.toList with
 | none =>
  left
  rw[List.findIdx?_eq_none_iff] at h;exact⟨by simpa [O6] using h,by simp only[U8,List.findIdx?_eq_none_iff.2 h]⟩
 | some j =>
  right
  have h':=h;rw[List.findIdx?_eq_some_iff_getElem] at h;obtain⟨hj,he,hl⟩:=h;refine⟨j,ps[j],by simp[hj],he,by simp only[U8,h'],λl r hlj hr=>?_⟩;obtain⟨a0,rfl⟩:=A3.1 hr;simpa using hl l hlj
theorem LB{a b c:List UInt8}(h1:(a==b)=true)(h2:(c==b)=true):(a==c)=true:=by
 rw[beq_iff_eq] at *;rw[h1,h2]
theorem NP(ps:List Ph):GO ps ps.length↔Ix ps ps.length:=by
 have a0:∀{i:Nat} {p:Ph},ps[i]?=some p->i<ps.length:=λh=>(A3.1 h).1
 have a1:∀(i:Nat)(nm:ByteArray),(∀(l j:Nat)(r q:Ph),ps[l]?=some r->ps[j]?=some q->(r.nm.toList==q.nm.toList)=true->l=j)->
   (BS (ps.drop (i+1)) nm=true↔(!(M6 nm==0&&decide (U8 ps nm<=(i:Int))))=true):=by
  intro i nm hu;unfold BS;by_cases h0:M6 nm=0
  ·simp only[h0,bne_self_eq_false,Bool.false_or,beq_self_eq_true,Bool.true_and,Bool.not_eq_true',decide_eq_false_iff_not];rw[DP];rcases DQ ps nm with⟨hn,ha⟩|⟨j,q,hq,he,ha,_⟩
   ·rw[ha];constructor
    ·rintro⟨l,r,_,hr,hre⟩;have:O6 ps nm=true:=(CN _ _).2 ⟨l,r,hr,hre⟩;rw[hn] at this;cases this
    ·intro h;omega
   ·rw[ha];constructor
    ·rintro⟨l,r,hl,hr,hre⟩;have:=hu l j r q hr hq (LB hre he);omega
    ·intro h;exact⟨j,q,by omega,hq,he⟩
  ·have:(M6 nm==0)=false:=by simpa using h0
   simp[this,bne]
 constructor
 ·intro h i p hi hp
  have hu:∀(l j:Nat)(r q:Ph),ps[l]?=some r->ps[j]?=some q->(r.nm.toList==q.nm.toList)=true->l=j:=by
   intro l j r q hr hq he;rcases Nat.lt_trichotomy l j with hlj|rfl|hlj
   ·have hs:=h l r (a0 hr) hr;simp only[Be,Bool.and_eq_true,Bool.not_eq_true'] at hs;have:O6 (ps.drop (l+1)) r.nm=true:=(DP _ _ _).2 ⟨j,q,hlj,hq,by rw[Bool.beq_comm];exact he⟩;rw[hs.1.1.2] at this;cases this
   ·rfl
   ·have hs:=h j q (a0 hq) hq;simp only[Be,Bool.and_eq_true,Bool.not_eq_true'] at hs;have:O6 (ps.drop (j+1)) q.nm=true:=(DP _ _ _).2 ⟨l,r,hlj,hr,he⟩;rw[hs.1.1.2] at this;cases this
  have hs:=h i p hi hp;simp only[Be,Bool.and_eq_true] at hs;simp only[BG,Bool.and_eq_true];refine⟨⟨⟨hs.1.1.1,?_⟩,(a1 i p.t hu).1 hs.1.2⟩,(a1 i p.e hu).1 hs.2⟩;rcases DQ ps p.nm with⟨hn,_⟩|⟨j,q,hq,he,ha,_⟩
  ·have:O6 ps p.nm=true:=(CN _ _).2 ⟨i,p,hp,by simp⟩;rw[hn] at this;cases this
  ·rw[ha,hu j i q p hq hp he];simp
 ·intro h i p hi hp
  have hu:∀(l j:Nat)(r q:Ph),ps[l]?=some r->ps[j]?=some q->(r.nm.toList==q.nm.toList)=true->l=j:=by
   intro l j r q hr hq he;have h1:=h l r (a0 hr) hr;have h2:=h j q (a0 hq) hq;simp only[BG,Bool.and_eq_true,beq_iff_eq] at h1 h2
   have:U8 ps r.nm=U8 ps q.nm:=by
    have e:r.nm.toList=q.nm.toList:=by simpa using he
    simp only[U8,e]
   have:=h1.1.1.2.symm.trans (this.trans h2.1.1.2);omega
  have hs:=h i p hi hp;simp only[BG,Bool.and_eq_true] at hs;simp only[Be,Bool.and_eq_true];refine⟨⟨⟨hs.1.1.1,?_⟩,(a1 i p.t hu).2 hs.1.2⟩,(a1 i p.e hu).2 hs.2⟩;rw[Bool.not_eq_true',← Bool.not_eq_true];intro hc;obtain⟨j,q,hj,hq,he⟩:=(DP _ _ _).1 hc;have:=hu j i q p hq hp he;omega
theorem JJ(ps:List Ph):P3 ps=true↔1<=ps.length/\ps.length<=12/\Ix ps ps.length:=by rw[M3,NP]
theorem Rl{x:Bool}{Q:Prop}[Decidable Q](h:¬(x=true/\Q)):(!(x&&decide Q))=true:=by cases x<;>simp_all
theorem VJ(ps:List Ph)(k:Nat)(hk:k<ps.length)(h:BG ps k ps[k]=false):P3 ps=false:=by
 rw[← Bool.not_eq_true,JJ];rintro⟨_,_,ha⟩;have:=ha k ps[k] hk (by simp[hk]);rw[h] at this;cases this
theorem VL(ps:List Ph)(k:Nat)(hk:k<ps.length)(h:Be ps k ps[k]=false):P3 ps=false:=by
 rw[← Bool.not_eq_true,M3];rintro⟨_,_,ha⟩;have:=ha k ps[k] hk (by simp[hk]);rw[h] at this;cases this
theorem KZ(ps:List Ph)(h:¬(1<=ps.length/\ps.length<=12)):P3 ps=false:=by
 rw[← Bool.not_eq_true,M3];rintro⟨h1,h2,_⟩;exact h ⟨h1,h2⟩
theorem TE{ps:List Ph}(h:Ix ps k)(hk:k<ps.length)(hs:BG ps k ps[k]=true):Ix ps (k+1):=λi p hi hp=>by
 rcases Nat.lt_or_ge i k with h'|h'
 ·exact h i p h' hp
 ·obtain rfl:i=k:=by omega
  obtain⟨_,rfl⟩:=A3.1 hp;exact hs
theorem TF{ps:List Ph}(h:GO ps k)(hk:k<ps.length)(hs:Be ps k ps[k]=true):GO ps (k+1):=λi p hi hp=>by
 rcases Nat.lt_or_ge i k with h'|h'
 ·exact h i p h' hp
 ·obtain rfl:i=k:=by omega
  obtain⟨_,rfl⟩:=A3.1 hp;exact hs
theorem TG(ps:List Ph):Ix ps 0:=λ_ _ h=>by omega
theorem TH(ps:List Ph):GO ps 0:=λ_ _ h=>by omega
theorem TI(ps:List Ph)(k:Nat)(h1:1<=ps.length/\ps.length<=12)(hk:k<=ps.length)(hk':¬k<ps.length)(ha:Ix ps k):P3 ps=true:=by
 obtain rfl:k=ps.length:=by omega
 exact (JJ ps).2 ⟨h1.1,h1.2,ha⟩
theorem TJ(ps:List Ph)(k:Nat)(h1:1<=ps.length/\ps.length<=12)(hk:k<=ps.length)(hk':¬k<ps.length)(ha:GO ps k):P3 ps=true:=by
 obtain rfl:k=ps.length:=by omega
 exact (M3 ps).2 ⟨h1.1,h1.2,ha⟩
def Z0(a:List ByteArray)(b:List ByteArray):List ByteArray:=b.foldl M7 a
theorem Sa(a b:List ByteArray)(k:Nat)(hk:k<b.length):Z0 a (b.take (k+1))=M7 (Z0 a (b.take k)) b[k]:=by
 unfold Z0;rw[A8 hk,List.foldl_append];rfl
theorem Gs(a:List ByteArray):∀b:List ByteArray,(Z0 a b).length<=a.length+b.length
 | []=>by simp[Z0]
 | x::r=>by
  have h1:=Gs (M7 a x) r;have h2:=Iw a x;simp only[Z0,List.foldl_cons,List.length_cons] at *;omega
def CA(p:Ph):List ByteArray:=if p.k=2 then M7 [p.a] p.b else [p.a]
end Go.Proofs.YtmonodehegcfhaaGreatDoor
