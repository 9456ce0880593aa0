/- Plain facts on names, ends and phases: no program in it. -/
import Derived.Test.YtaffjphkobhagaaGreatDoorQ0
import Derived.Laws.RangeAny
import Derived.Below
import Derived.Test.YtaffjphkobhagaaGreatDoorChecked
import Derived.WalkKit
import Derived.WalkSpells
import Derived.WalkLawsBesides
import Derived.Handy
import Derived.Deep.Light
import Derived.BigQuiet
import Derived.Deep.DeepCutAuto
import Derived.Deep.RegionLaw
import Derived.Deep.RegionHeld
import Derived.Conc.Beside
namespace Go.Proofs.YtaffjphkobhagaaGreatDoor
open Proofs.Tryz
@[simp,go_sem] abbrev AS(w:World)(b o:Nat)(v:Value):Prop:=w.cell? ⟨b,o,none⟩=some v
abbrev Up(w w':World):Prop:=Go.RowKit.Below w.heap.size w w'
abbrev cU(P:Program)(f:FuncId)(a:Array Value)(w:World)(v:Value):Prop:=Calls P f a w λe w'=>e=.returned v/\Up w w'
abbrev cE(P:Program)(f:FuncId)(a:Array Value)(w:World)(v:Value):Prop:=Calls P f a w λe w'=>e=.returned v/\w'=w
@[simp,go_sem] abbrev Sy(g n c:Nat):Value:=.slice (some ⟨g,0,none⟩) n c
@[simp,go_sem] abbrev Iz(x:Int):Value:=.int .i64 x
@[simp,go_sem] abbrev Sx(g o n c:Nat):Value:=.slice (some ⟨g,o,none⟩) n c
@[simp,go_sem] abbrev Nz:Value:=.slice none 0 0
@[simp,go_sem] abbrev Vz(a:Option Addr)(n c:Nat):Value:=.slice a n c
@[simp,go_sem] abbrev Tz(s:ByteArray):Value:=.string s
@[simp,go_sem] abbrev Ez:Value:=.string ⟨#[]⟩
@[simp,go_sem] abbrev Pz(b o:Nat):Value:=.pointer (some ⟨b,o,none⟩)
@[simp,go_sem] abbrev Kz(l:List Value)(T:TypeId):Obj:=.cells l.toArray T
abbrev BA:=ByteArray
theorem Swz{P}{n:Nat}{a w E Q}(h:Calls P n a w fun e w'=>e=E∧w'=w)(q:Q E w):Calls P n a w Q:=h.mono (by grind)
variable{hu hw:Array Obj}{tmps:Array Value}{s x:ByteArray}{fn:Func}{all l ss tg:List ByteArray}{cs xs ys:List Value}{B b base e g j k m o rb rk size:Nat}{r:Option Nat}{p:Program}{T:TypeId}{v v' x0 x1 x2 y0 y1 y2:Value}{W W' Z a c u2 w' w2:World}
section
theorem A0:type_of% @List.getElem?_eq_getElem:=dC
theorem A1:type_of% @Nat.lt_of_lt_of_le:=oM
theorem A2:type_of% @List.getElem?_eq_some_iff:=by grind
theorem A3:type_of% @Nat.le_refl:=@Nat.le_refl
theorem A4:type_of% @Go.RowKit.Below.refl:=@Go.RowKit.Below.refl
theorem A5:type_of% @Option.some.inj:=dC
theorem A6:type_of% @List.mem_of_getElem?:=by grind
theorem A7:type_of% @List.take_succ_eq_append_getElem:=dC
theorem A8:type_of% @List.length_drop:=dC
theorem A9:type_of% @List.length_append:=dC
theorem B3:type_of% @List.getElem?_map:=dC
theorem B4:type_of% @Nat.le_trans:=@Nat.le_trans
theorem B5:type_of% @List.length_map:=dC
theorem B6:type_of% @Option.map_eq_some_iff:=dC
theorem B7:type_of% @List.getElem_of_mem:=@List.getElem_of_mem
theorem B8:type_of% @List.length_take:=dC
theorem B9:type_of% @World.ownsRow_nil:=@World.ownsRow_nil
theorem C0:type_of% @World.ownsRow_lit:=@World.ownsRow_lit
theorem C1:type_of% @World.cell?_setCell_other:=@World.cell?_setCell_other
theorem C2:type_of% @World.cell?_of_block:=@World.cell?_of_block
theorem C3:type_of% @Nat.eq_zero_or_pos:=oM
theorem C4:type_of% @List.length_eq_zero_iff:=dC
theorem C5:type_of% @List.mem_iff_getElem?:=@List.mem_iff_getElem?
theorem C6:type_of% @List.getElem?_eq_none:=@List.getElem?_eq_none
theorem C7:type_of% @List.mem_cons_of_mem:=by grind
theorem C8:type_of% @List.mem_append:=dC
theorem C9:type_of% @List.mem_singleton:=dC
theorem D0:type_of% @List.take_of_length_le:=@List.take_of_length_le
theorem D1:type_of% @Array.getElem?_eq_some_iff:=by grind
theorem D2:type_of% @List.drop_eq_getElem_cons:=dC
def BS(n:Nat):Bool:=(decide (97<=n)&&decide (n<=122)) || (decide (48<=n)&&decide (n<=57)) || n==45
def Y6(l:List UInt8):Bool:=l.all λb=>BS b.toNat
def E4(s:ByteArray):Bool:=decide (1<=s.size)&&decide (s.size<=8)&&Y6 s.data.toList
theorem Fv(n:Nat):BS n=true↔(97<=n/\n<=122)\/(48<=n/\n<=57)\/n=45:=by
 simp[BS,or_assoc]
theorem IV(n)(h:128<=n):BS n=false:=by
 rw[← Bool.not_eq_true,Fv];omega
theorem YA(s:ByteArray)(k)(h:k<s.size):s.data.toList.take (k+1)=s.data.toList.take k++[s[k]]:=by
 rw[A7 sO];rfl
theorem YB(l:List UInt8)(b):Y6 (l++[b])=(Y6 l&&BS b.toNat):=by simp[Y6]
theorem Gt(s:ByteArray)(k:Nat)(h:k<s.size):Y6 (s.data.toList.take (k+1))=(Y6 (s.data.toList.take k)&&BS (s[k]).toNat):=by
 rw[YA s k h,YB]
theorem Fw(s:ByteArray)(k:Nat)(h:k<s.size)(hb:BS (s[k]).toNat=false):Y6 s.data.toList=false:=by
 rw[← Bool.not_eq_true];intro ha;simp only[Y6,List.all_eq_true] at ha;have:=ha (s[k]) (by show s.data[k]∈s.data.toList;simp);rw[hb] at this;cases this
theorem IW(s:ByteArray)(k:Nat)(h:¬k<s.size)(ha:Y6 (s.data.toList.take k)=true):Y6 s.data.toList=true:=by
 rw[D0 gG] at ha;exact ha
def U7(n lo hi:Int):Bool:=decide (lo<=n)&&decide (n<=hi)
theorem AX(n lo hi):U7 n lo hi=true↔lo<=n/\n<=hi:=by simp[U7]
theorem Ey(n lo hi:Int):U7 n lo hi=false↔¬(lo<=n/\n<=hi):=by rw[← AX];simp
def K1(s:ByteArray):Int :=
 if s.toList==[103,111,111,100] then 1 else if s.toList==[115,97,118,101,100] then 2 else if s.toList==[115,99,114,97,112,112,101,100] then 3 else 0
def L4(k:Int)(a b:ByteArray)(n wi:Int):Bool :=
 if k=1 then E4 a&&E4 b&&U7 n 1 1000
 else if k=2 then E4 a&&E4 b && !(a.toList==b.toList)&&U7 n 1 1000
 else if k=3 then E4 a&&b.toList.isEmpty&&U7 n 1 wi
 else if k=4\/k=5 then E4 a&&b.toList.isEmpty&&n==0
 else false
def O7(nm:ByteArray)(k:Int)(a b:ByteArray)(n wi:Int)(t e:ByteArray):Bool :=
 E4 nm&&K1 nm==0&&U7 wi 1 1000&&L4 k a b n wi&&E4 t&&E4 e
end
section
open Go.RowKit
theorem D4{a b:Bool}(h:a=b):Ending.returned (.bool a)=.returned (.bool b):=by rw[h]
theorem K8{k:IntKind}{a b:Int}(h:a=b):Ending.returned (.int k a)=.returned (.int k b):=by rw[h]
theorem Fx(w)(s)(p):Up w (w.iter s p):=(A4 _ _).alloc (A3 _) _
theorem E2{w1:World}(hb:Up W w1):(∀b o,b<W.heap.size->w1.cell? ⟨b,o,none⟩=W.cell? ⟨b,o,none⟩)/\(∀b o,b<W.heap.size->w1.frozen? ⟨b,o,none⟩=W.frozen? ⟨b,o,none⟩) :=
 ⟨λb o h=>hb.cell (p:=⟨b,o,none⟩) h,λb o h=>hb.frozen (p:=⟨b,o,none⟩) h⟩
theorem D3{b:World}(h:Up a b)(k:Up b c):Up a c:=h.trans (k.mono h.size)
theorem gr{w w1:World}(h1:Up w w1)(h0:Up W w:=by first|assumption|exact A4 _ _):Up W w1/\(∀b o,b<W.heap.size->w1.cell? ⟨b,o,none⟩=W.cell? ⟨b,o,none⟩)/\∀b o,b<W.heap.size->w1.frozen? ⟨b,o,none⟩=W.frozen? ⟨b,o,none⟩:=⟨D3 h0 h1,E2 (D3 h0 h1)⟩
theorem TL{b:World}(h:a.grownBy b r)(k:b.grownBy c r):a.grownBy c r :=
 ⟨k.os.trans h.os,k.tape.trans h.tape,k.output.trans h.output,B4 h.size k.size,λi hi hr=>(k.block i (A1 hi h.size) hr).trans (h.block i hi hr)⟩
theorem Ax(a:World)(r:Option Nat):a.grownBy a r:=⟨rfl,rfl,rfl,A3 _,λ_ _ _=>rfl⟩
theorem IX{b}(h:a.grownBy b r):a.grownBy b.drew r:=⟨h.os,h.tape,h.output,h.size,h.block⟩
theorem Au{b:World}{off:Nat}(h:a.grownBy b (some rb))(u:Value):a.grownBy (b.setCell ⟨rb,off,none⟩ u) (some rb) :=
 TL h ⟨rfl,rfl,rfl,dC,λi _ hr=>Below.heap_setCell _ _ _ _ (λe=>hr (by rw[e]))⟩
def G0(w:World)(g o:Nat)(ss:List ByteArray):Prop:=∀(i:Nat)(s:ByteArray),ss[i]?=some s->w.cell? ⟨g,o+i,none⟩=some (.string s)
theorem JW(b:Nat):∀(vs:List Value)(o:Nat)(W w':World)(B:Nat),Below B W w'->B<=b->Below B W (w'.setCells b o vs)
 | [],_,_,_,_,h,_=>h
 | v::r,o,W,w',B,h,hB=>by
  rw[World.setCells];exact JW b r _ W _ B (h.setCell hB v) hB
theorem World.size_setCells'{b:Nat}:∀{vs:List Value} {o:Nat} {w:World},(w.setCells b o vs).heap.size=w.heap.size
 | [],_,_=>rfl
 | v::r,o,w=>by rw[World.setCells,World.size_setCells'];simp
theorem World.grownBy.refl'(w:World):w.grownBy w r:=⟨rfl,rfl,rfl,A3 _,λ_ _ _=>rfl⟩
theorem JX(b:Nat):∀(vs:List Value)(o:Nat)(W w':World)(r:Option Nat),W.grownBy w' r->r=some b->W.grownBy (w'.setCells b o vs) r
 | [],_,_,_,_,h,_=>h
 | v::s,o,W,w',r,h,hr=>by
  rw[World.setCells];refine JX b s (o+1) W _ r ⟨h.os,h.tape,h.output,B4 h.size dC,λi hi hne=>?_⟩ hr;rw[Below.heap_setCell _ _ _ _ (λe=>hne (by rw[hr,e]))];exact h.block i hi hne
def CB(w:World)(b:Nat)(cs:List Value):Prop:=w.rangeAt b 0 cs/\w.there b 0 cs.length/\b<w.heap.size
theorem CB.kept{w:World}(h:CB w b cs)(hg:w.grownBy w' r)(hne:some b≠r):CB w' b cs:=by
 have hb:=hg.block b h.2.2 hne;refine⟨λj v hv=>?_,λj hj=>?_,A1 h.2.2 hg.size⟩
 .rw[C2 (w:=w) (a:=⟨b,0+j,none⟩) hb];exact h.1 j v hv
 .rw[C2 (w:=w) (a:=⟨b,0+j,none⟩) hb,World.frozen?_of_block hb];exact h.2.1 j hj
theorem CB.up{w:World}(h:CB w b cs)(hb:Below B w w')(hB:b<B):CB w' b cs:=by
 have hk:=hb.block b hB;refine⟨λj v hv=>?_,λj hj=>?_,A1 h.2.2 hb.size⟩
 .rw[C2 (w:=w) (a:=⟨b,0+j,none⟩) hk];exact h.1 j v hv
 .rw[C2 (w:=w) (a:=⟨b,0+j,none⟩) hk,World.frozen?_of_block (w:=w) hk];exact h.2.1 j hj
theorem E9(w:World)(cs:List Value)(t:TypeId):CB (w.alloc (.cells cs.toArray t)) w.heap.size cs:=by
 have hr:(w.alloc (.cells cs.toArray t)).rangeAt w.heap.size 0 cs:=by
  intro j v hv;rw[Nat.zero_add,World.cell?_alloc_at]
  .simpa using hv
  .rfl
 refine⟨hr,λj hj=>⟨hr.isSome j hj,?_⟩,dC⟩;simp
theorem QI{w:World}{u:Value}(h:w.rangeAt b 0 cs)(hj:j<cs.length):(w.setCell ⟨b,j,none⟩ u).rangeAt b 0 (cs.set j u):=by
 intro i x hx;rw[List.getElem?_set] at hx;by_cases e:j=i
 .subst e;rw[if_pos rfl,if_pos hj] at hx;obtain rfl:=A5 hx;have hc:=h j cs[j] dC;rw[Nat.zero_add] at hc ⊢
  exact World.cell?_setCell_same _ _ _ hc
 .rw[if_neg e] at hx;rw[C1 _ _ _ _ (by simp<;>omega)];exact h i x hx
theorem CB.set{w:World}{u:Value}(h:CB w b cs)(hj:j<cs.length):CB (w.setCell ⟨b,j,none⟩ u) b (cs.set j u):=by
 refine⟨QI h.1 hj,λi hi=>?_,by simpa using h.2.2⟩;have:=World.there_setCells h.2.1 b j [u] i (by simpa using hi);simpa [World.setCells] using this
theorem CB.other{w:World}{q:Nat}{u:Value}(h:CB w b cs)(hne:b≠q):CB (w.setCell ⟨q,j,none⟩ u) b cs :=
 h.kept (r:=some q) ⟨rfl,rfl,rfl,dC,λi _ hr=>Below.heap_setCell _ _ _ _ (λe=>hr (by rw[e]))⟩ (by simpa using hne)
theorem CB.c2{w:World}(h:CB w b [x0,x1]):(AS w b 0 x0/\AS w b 1 x1)/\w.frozen? ⟨b,0,none⟩=false/\w.frozen? ⟨b,1,none⟩=false :=
 ⟨⟨h.1 0 _ rfl,h.1 1 _ rfl⟩,(h.2.1 0 dC).2,(h.2.1 1 dC).2⟩
theorem CB.c3{w:World}(h:CB w b [x0,x1,x2]):(AS w b 0 x0/\AS w b 1 x1/\AS w b 2 x2)/\w.frozen? ⟨b,0,none⟩=false/\w.frozen? ⟨b,1,none⟩=false/\w.frozen? ⟨b,2,none⟩=false :=
 ⟨⟨h.1 0 _ rfl,h.1 1 _ rfl,h.1 2 _ rfl⟩,(h.2.1 0 dC).2,(h.2.1 1 dC).2,(h.2.1 2 dC).2⟩
theorem CB.c8{w:World}{x3 x4 x5 x6 x7:Value}(h:CB w b [x0,x1,x2,x3,x4,x5,x6,x7]):
  (AS w b 0 x0/\AS w b 1 x1/\AS w b 2 x2/\AS w b 3 x3/\AS w b 4 x4/\AS w b 5 x5/\AS w b 6 x6/\AS w b 7 x7)/\
  w.frozen? ⟨b,0,none⟩=false/\w.frozen? ⟨b,1,none⟩=false/\w.frozen? ⟨b,2,none⟩=false/\w.frozen? ⟨b,3,none⟩=false/\w.frozen? ⟨b,4,none⟩=false/\w.frozen? ⟨b,5,none⟩=false/\w.frozen? ⟨b,6,none⟩=false/\w.frozen? ⟨b,7,none⟩=false :=
 ⟨⟨h.1 0 _ rfl,h.1 1 _ rfl,h.1 2 _ rfl,h.1 3 _ rfl,h.1 4 _ rfl,h.1 5 _ rfl,h.1 6 _ rfl,h.1 7 _ rfl⟩,(h.2.1 0 dC).2,(h.2.1 1 dC).2,(h.2.1 2 dC).2,(h.2.1 3 dC).2,(h.2.1 4 dC).2,(h.2.1 5 dC).2,(h.2.1 6 dC).2,(h.2.1 7 dC).2⟩
theorem CB.copy{w:World}(h:CB w b ys)(xs:List Value)(hl:xs.length=ys.length):CB (w.setCells b 0 xs) b xs :=
 ⟨World.rangeAt_setCells_same _ _ _ _ (by rw[hl];exact h.2.1),World.there_setCells (by rw[hl];exact h.2.1) _ _ _,by rw[World.size_setCells'];exact h.2.2⟩
theorem IY{w:World}(h:Below B a w)(hb:B<=b)(xs:List Value):Below B a (w.setCells b 0 xs):=JW b xs 0 a w B h hb
theorem CB.copy2{w:World}(h:CB w b [y0,y1])(x0 x1:Value):CB ((w.setCell ⟨b,0,none⟩ x0).setCell ⟨b,1,none⟩ x1) b [x0,x1]:=h.copy [x0,x1] rfl
theorem CB.copy3{w:World}(h:CB w b [y0,y1,y2])(x0 x1 x2:Value):CB (((w.setCell ⟨b,0,none⟩ x0).setCell ⟨b,1,none⟩ x1).setCell ⟨b,2,none⟩ x2) b [x0,x1,x2]:=h.copy [x0,x1,x2] rfl
theorem CB.copy8{w:World}{y3 y4 y5 y6 y7:Value}(h:CB w b [y0,y1,y2,y3,y4,y5,y6,y7])(x0 x1 x2 x3 x4 x5 x6 x7:Value):
  CB ((((((((w.setCell ⟨b,0,none⟩ x0).setCell ⟨b,1,none⟩ x1).setCell ⟨b,2,none⟩ x2).setCell ⟨b,3,none⟩ x3).setCell ⟨b,4,none⟩ x4).setCell ⟨b,5,none⟩ x5).setCell ⟨b,6,none⟩ x6).setCell ⟨b,7,none⟩ x7) b [x0,x1,x2,x3,x4,x5,x6,x7]:=h.copy [x0,x1,x2,x3,x4,x5,x6,x7] rfl
theorem Ws{w:World}(h:Below B a w)(hb:B<=b)(x0 x1:Value):Below B a ((w.setCell ⟨b,0,none⟩ x0).setCell ⟨b,1,none⟩ x1):=IY h hb [x0,x1]
theorem Mr{w:World}(h:Below B a w)(hb:B<=b)(x0 x1 x2:Value):Below B a (((w.setCell ⟨b,0,none⟩ x0).setCell ⟨b,1,none⟩ x1).setCell ⟨b,2,none⟩ x2):=IY h hb [x0,x1,x2]
theorem Ms{w:World}(h:Below B a w)(hb:B<=b)(x0 x1 x2 x3 x4 x5 x6 x7:Value):
  Below B a ((((((((w.setCell ⟨b,0,none⟩ x0).setCell ⟨b,1,none⟩ x1).setCell ⟨b,2,none⟩ x2).setCell ⟨b,3,none⟩ x3).setCell ⟨b,4,none⟩ x4).setCell ⟨b,5,none⟩ x5).setCell ⟨b,6,none⟩ x6).setCell ⟨b,7,none⟩ x7):=IY h hb [x0,x1,x2,x3,x4,x5,x6,x7]
theorem Mu{P:Program}{q:Tmp}(h:fn.results=#[.cell q T]){d:TypeDesc}(hu:P.underlying T=some d)(hd:d.isRow=true)(hi:(P.info? T).map (·.size)=some cs.length)
  (ht:tmps.getD q undef=.pointer (some ⟨rk,0,none⟩)) (hZ:CB Z rk cs):(results fn tmps).run P Z=.ok (.agg cs.toArray) Z:=by
 have hl:=run_loadVar_mid (P:=P) Z rk 0 T cs d hZ.1 hu hd hi;have ha:(asAddr (.pointer (some ⟨rk,0,none⟩))).run P Z=.ok ⟨rk,0,none⟩ Z:=by simp[go_sem]
 have a0:=by simpa using ht
 simp only[results,h];simp[a0,ha,hl]
theorem UU{P:Program}{q q2:Tmp}(h:fn.results=#[.cell q T,.tmp q2]){d:TypeDesc}(hu:P.underlying T=some d)(hd:d.isRow=true)(hi:(P.info? T).map (·.size)=some cs.length)
  {v:Value} (ht:tmps.getD q undef=.pointer (some ⟨rk,0,none⟩)) (hv:tmps.getD q2 undef=v) (hZ:CB Z rk cs):(results fn tmps).run P Z=.ok (.tuple #[.agg cs.toArray,v]) Z:=by
 have hl:=run_loadVar_mid (P:=P) Z rk 0 T cs d hZ.1 hu hd hi;have ha:(asAddr (.pointer (some ⟨rk,0,none⟩))).run P Z=.ok ⟨rk,0,none⟩ Z:=by simp[go_sem]
 have a0:=by simpa using ht
 have a1:=by simpa using hv
 simp only[results,h];simp[Sem.run_bind,Result.andThen,a0,a1,ha,hl]
theorem YC(w:World)(x:List Value)(t:TypeId):CB (w.alloc (.cells x.toArray t)) w.heap.size x/\Up w (w.alloc (.cells x.toArray t))/\(w.alloc (.cells x.toArray t)).heap.size=w.heap.size+1 :=
 ⟨E9 w x t,(A4 _ _).alloc (A3 _) _,dC⟩
theorem cb2(w:World)(x y:List Value)(t u:TypeId):CB ((w.alloc (.cells x.toArray t)).alloc (.cells y.toArray u)) w.heap.size x/\CB ((w.alloc (.cells x.toArray t)).alloc (.cells y.toArray u)) (w.heap.size+1) y/\
  Up w ((w.alloc (.cells x.toArray t)).alloc (.cells y.toArray u))/\((w.alloc (.cells x.toArray t)).alloc (.cells y.toArray u)).heap.size=w.heap.size+2:=by
 obtain⟨h1,hb,hs⟩:=YC w x t;obtain⟨h2,a0,a1⟩:=YC _ y u;refine⟨h1.up a0 dC,by rw[hs] at h2;exact h2,hb.trans (a0.mono dC),by rw[a1,hs]⟩
theorem cb3(w:World)(x y z:List Value)(t u v:TypeId):CB (((w.alloc (.cells x.toArray t)).alloc (.cells y.toArray u)).alloc (.cells z.toArray v)) w.heap.size x/\CB (((w.alloc (.cells x.toArray t)).alloc (.cells y.toArray u)).alloc (.cells z.toArray v)) (w.heap.size+1) y/\
  CB (((w.alloc (.cells x.toArray t)).alloc (.cells y.toArray u)).alloc (.cells z.toArray v)) (w.heap.size+2) z/\
  Up w (((w.alloc (.cells x.toArray t)).alloc (.cells y.toArray u)).alloc (.cells z.toArray v))/\(((w.alloc (.cells x.toArray t)).alloc (.cells y.toArray u)).alloc (.cells z.toArray v)).heap.size=w.heap.size+3:=by
 obtain⟨h1,h2,hb,hs⟩:=cb2 w x y t u;obtain⟨h3,a0,a1⟩:=YC _ z v;refine⟨h1.up a0 (by omega),h2.up a0 (by omega),by rw[hs] at h3;exact h3,hb.trans (a0.mono (by omega)),by rw[a1,hs]⟩
theorem cbE1(w:World)(x:List Value)(t:TypeId):∃W,w.alloc (.cells x.toArray t)=W/\CB W w.heap.size x/\Up w W/\W.heap.size=w.heap.size+1:=⟨_,rfl,YC w x t⟩
theorem cbE2(w:World)(x:List Value)(t:TypeId)(y:List Value)(u:TypeId):∃W,(w.alloc (.cells x.toArray t)).alloc (.cells y.toArray u)=W/\CB W w.heap.size x/\CB W (w.heap.size+1) y/\Up w W/\W.heap.size=w.heap.size+2:=⟨_,rfl,cb2 w x y t u⟩
theorem cbE3(w:World)(x:List Value)(t:TypeId)(y:List Value)(u:TypeId)(z:List Value)(v:TypeId):∃W,((w.alloc (.cells x.toArray t)).alloc (.cells y.toArray u)).alloc (.cells z.toArray v)=W/\CB W w.heap.size x/\CB W (w.heap.size+1) y/\CB W (w.heap.size+2) z/\Up w W/\W.heap.size=w.heap.size+3:=⟨_,rfl,cb3 w x y z t u v⟩
theorem UV{w:World}{n:Nat}(h:w.ownsRow base e size v n xs)(hn:0<n):∃g cap,v=.slice (some ⟨g,0,none⟩) n cap:=by
 rcases h.2 with⟨_,h0⟩|⟨g,cap,_,hv,_⟩
 .omega
 .grind
theorem R8{n:Nat}(h:W.ownsRow base e size v n xs)(hb:Up W w'):w'.ownsRow base e size v n xs:=by
 refine⟨h.1,?_⟩;rcases h.2 with h0|⟨g,cap,cur,hv,hg,hh,r⟩
 .exact .inl h0
 .refine .inr ⟨g,cap,cur,hv,hg,?_,r⟩;rw[hb.block g (D1.1 hh).1];exact hh
theorem FH(w:World)(a b:Value)(ty:TypeId){u:Value}(h:[a,b][j]?=some u):(w.alloc (.cells #[a,b] ty)).cell? ((⟨w.heap.size,0,none⟩:Addr).add j)=some u:=by
 match j,h with
 | 0,h=>simp at h;subst h;simp[Addr.add]
 | 1,h=>simp at h;subst h;simp[Addr.add]
theorem JY{x u:Value}(hx:x.oneCell'=true)(h:u∈[Value.string s,x]):u.oneCell'=true:=by
 simp at h;rcases h with rfl|rfl
 .rfl
 .omega
theorem Av:(prog.info? 9).map (λi=>(i.zero,i.size,i.bytes))=some (some (.string ⟨#[]⟩),1,16):=sI
theorem G0.alloc{w:World}(h:G0 w g o ss)(ob:Obj):G0 (w.alloc ob) g o ss:=λi s hs=>by
 have:=h i s hs;rw[World.cell?_alloc_lt _ _ _ (World.block_lt_of_cell? w _ this)];exact this
theorem X6{w:World}(h:G0 w g o ss):∀(j:Nat)(u:Value),(ss.map Value.string)[j]?=some u->w.cell? ((⟨g,o,none⟩:Addr).add j)=some u:=λj u hu=>by
 rw[B3,B6] at hu;obtain⟨s,hs,rfl⟩:=hu;rw[Addr.add_mid];exact h j s hs
theorem GN(ss:List ByteArray):∀u∈ss.map Value.string,u.oneCell'=true:=λu hu=>by
 obtain⟨s,_,rfl⟩:=List.mem_map.1 hu;rfl
theorem AG{w:World}{n:Nat}(h:w.ownsRow base e size v n xs)(hn:0<n):∃g cap,v=.slice (some ⟨g,0,none⟩) n cap:=by
 rcases h.2 with⟨_,h0⟩|⟨g,cap,_,hv,_⟩
 .omega
 .grind
theorem Lr{w:World}{n cap:Nat}(h:w.ownsRow base e 1 (.slice (some ⟨g,0,none⟩) n cap) n (ss.map Value.string))(hn:ss.length=n):G0 w g 0 ss:=λi s hs=>by
 have hi:=(A2.1 hs).1;rw[Nat.zero_add,h.cellAt i oM,B3,hs];rfl
theorem S9{P:Program}{ops:Array Oper}{o:Oper}{a:Act}{w:World}{K:Act->World->Prop}{Q:Exit->Act->World->Prop}{E:Prop}
  (hg:o.guard=none) (s x:Operand) (t:TypeId) (hop:o.op=Op.call {callee:=Callee.builtin Builtin.append,args:=#[s,x],argTypes:=#[t,t]})
  (base:Nat) (e:TypeId) (i:TypeInfo) (z:Value) (size bytes:Nat) (ht:P.underlying t=some (.slice e)) (hi:P.info? e=some i) (hz:i.zero=some z)
  (hsize:i.size=size) (hby:i.bytes=bytes) (hzs:z.cells.size=size) (hsz:0<size)
  (v:Value) (n:Nat) (xs:List Value) (hs:a.eval s=v) (hown:w.ownsRow base e size v n xs)
  (ad:Addr) (m c:Nat) (news:List Value) (hx:a.eval x=.slice (some ad) m c) (hl:news.length=m*size) (hnews:∀j u,news[j]?=some u->w.cell? (ad.add j)=some u) (h1:∀u∈news,u.oneCell'=true)
  (h63:n+m<=maxLen) (hbytes:(n+m)*bytes<=140737488355328) (hbase:base<=w.heap.size)
  (hK:∀v' w',w'.ownsRow base e size v' (n+m) (xs++news)->w.grownBy w' v.ownBlock->K (a.put o.dst v') w') :
  if Region.wanted o (yielded ops a.tmps)=true then Oper.wp P o a w K Q else E:=by
 have hw:Region.wanted o (yielded ops a.tmps)=true:=by simp[Region.wanted,hg]
 rw[if_pos hw];obtain⟨v',w',hr,h2,h3,_⟩:=run_append_own (P:=P) w base t o.type e i z size bytes ht hi hz hsize hby hzs hsz v n xs hown ad m c news hl hnews h1 h63 hbytes hbase;unfold Oper.wp;simp[execOp,hop,resolve,invoke,builtin,hs,hx,hr,Result.andThen];exact hK v' w' h2 h3
theorem Gu{w:World}{n:Nat}(h:w.ownsRow base e size v n xs)(hg:w.grownBy w' (some rb))(hrb:rb<base):w'.ownsRow base e size v n xs:=by
 refine⟨h.1,?_⟩;rcases h.2 with h0|⟨g,cap,cur,hv,hb,hh,r⟩
 .exact .inl h0
 .refine .inr ⟨g,cap,cur,hv,hb,?_,r⟩;rw[hg.block g (D1.1 hh).1 gG];exact hh
theorem Dj{w:World}{base' n:Nat}(h:w.ownsRow base e size v n xs)(hb:base'<=base):w.ownsRow base' e size v n xs:=by
 refine⟨h.1,?_⟩;rcases h.2 with h0|⟨g,cap,cur,hv,hg,r⟩
 .grind
 .exact .inr ⟨g,cap,cur,hv,B4 hb hg,r⟩
theorem JZ{w:World}{n:Nat}(h:w.ownsRow base e size v n xs)(hb:b<base):some b≠v.ownBlock:=λe=>by
 have:=(h.lt b e.symm).1;omega
theorem G0.own{w:World}{n}{u:Value}(h:G0 w g o ss)(hown:w.ownsRow base e size u n xs)(hg:w.grownBy w' u.ownBlock)(hk:g<base):G0 w' g o ss :=
 λi s hs=>hg.cell (h i s hs) (JZ hown hk)
theorem G0.drop{w:World}(h:G0 w g o ss)(k:Nat):G0 w g (o+k) (ss.drop k):=λi s hs=>by
 rw[List.getElem?_drop] at hs;rw[Nat.add_assoc];exact h _ s hs
theorem G0.take{w:World}(h:G0 w g o ss)(k:Nat):G0 w g o (ss.take k):=λi s hs=>by
 rw[List.getElem?_take] at hs;split at hs
 .exact h i s hs
 .grind
def R9(w:World)(v:Value)(ss:List ByteArray):Prop:=∃g c,v=.slice (some ⟨g,0,none⟩) ss.length c/\G0 w g 0 ss/\g<w.heap.size/\ss.length<=c/\c<=maxLen
theorem R9.up{w:World}(h:R9 w v ss)(hb:Up w w'):R9 w' v ss:=by
 obtain⟨g,c,rfl,hS,hg,r⟩:=h;exact⟨g,c,rfl,λi s hs=>(hb.cell (p:=⟨g,0+i,none⟩) hg).trans (hS i s hs),A1 hg hb.size,r⟩
theorem R9.own{w:World}{n:Nat}(h:w.ownsRow base e 1 v n (ss.map Value.string))(hn:ss.length=n)(hv:∃g c,v=.slice (some ⟨g,0,none⟩) n c):R9 w v ss:=by
 obtain⟨g,c,rfl⟩:=hv;refine⟨g,c,by rw[hn],Lr h hn,(h.lt g rfl).2,?_,?_⟩
 .rcases h.2 with⟨h0,_⟩|⟨g',cap',cur,h',_,_,hc,_⟩
  .cases h0
  .cases h';omega
 .rcases h.2 with⟨h0,_⟩|⟨g',cap',cur,h',_,_,_,hc,_⟩
  .cases h0
  .cases h';exact hc
theorem S0{w:World}{n:Nat}(h:Up w W)(hown:W.ownsRow base e size v n xs)(hg:W.grownBy W' v.ownBlock)(hk:w.heap.size<=base):Up w W' :=
 {os:=hg.os.trans h.os,tape:=hg.tape.trans h.tape,output:=hg.output.trans h.output,size:=B4 h.size hg.size,block:=λi hi=>(hg.block i (A1 hi h.size) (JZ hown oM)).trans (h.block i hi)}
theorem Eb(w:World)(s:ByteArray)(t:TypeId):∀(j:Nat)(u:Value),[Value.string s][j]?=some u->(w.alloc (.cells #[.string s] t)).cell? ((⟨w.heap.size,0,none⟩:Addr).add j)=some u:=λj u hj=>by
 match j,hj with
 | 0,hj=>simp at hj;subst hj;simp[Addr.add]
theorem UW{w:World}(h:AS w b 0 (.string s)):∀(j:Nat)(u:Value),[Value.string s][j]?=some u->w.cell? ((⟨b,0,none⟩:Addr).add j)=some u:=λj u hj=>by
 match j,hj with
 | 0,hj=>simp at hj;subst hj;exact h
theorem LL(s:ByteArray):∀u∈[Value.string s],u.oneCell'=true:=λu hu=>by simp at hu;subst hu;rfl
def CF(w:World)(v:Value)(ss:List ByteArray):Prop:=(v=.slice none 0 0/\ss=[])\/R9 w v ss
theorem CF.up{w:World}(h:CF w v ss)(hb:Up w w'):CF w' v ss:=by
 rcases h with h|h
 .exact .inl h
 .exact .inr (h.up hb)
theorem CF.shape{w:World}(h:CF w v ss):∃a c,v=.slice a ss.length c:=by
 rcases h with⟨rfl,rfl⟩|⟨g,c,rfl,_⟩
 .simp_all
 .simp
def F9(w:World)(base:Nat)(u:Value)(ss:List ByteArray):Prop:=w.ownsRow base 9 1 u ss.length (ss.map Value.string)
theorem F9.lst{w:World}{u:Value}(h:F9 w base u ss):CF w u ss:=by
 rcases h.2 with⟨h0,h1⟩|⟨g,cap,cur,hv,_⟩
 .exact .inl ⟨h0,C4.1 h1⟩
 .exact .inr (R9.own h rfl ⟨g,cap,hv⟩)
theorem QJ{w b:World}{x:Nat}(h:Up w a)(hg:a.grownBy b (some x))(hx:w.heap.size<=x):Up w b :=
 {os:=hg.os.trans h.os,tape:=hg.tape.trans h.tape,output:=hg.output.trans h.output,size:=B4 h.size hg.size,block:=λi hi=>(hg.block i (A1 hi h.size) gG).trans (h.block i hi)}
theorem F9.up{w u}(h:F9 w base u ss)(hb:Up w w'):F9 w' base u ss:=R8 h hb
theorem X7(b:Nat):∀(vs:List Value)(o:Nat)(W w':World)(B:Nat),Below B W w'->B<=b->Below B W (w'.setCells b o vs)
 | [],_,_,_,_,h,_=>h
 | v::r,o,W,w',B,h,hB=>by
  rw[World.setCells];exact X7 b r _ W _ B (h.setCell hB v) hB
theorem TM(w:World)(C:Array Value)(t:TypeId):(w.alloc (.cells C t)).there w.heap.size 0 C.size:=λj hj=>by
 simp_all
theorem BK(w1:World)(b o:Nat)(vs:List Value):w1.heap.size<=(w1.setCells b o vs).heap.size:=(X7 b vs o w1 w1 0 (A4 _ _) (Nat.zero_le _)).size
theorem E5{b:World}(h:Below B a b)(n:Nat):Below B a (b.drewN n):={os:=h.os,tape:=h.tape,output:=h.output,size:=h.size,block:=h.block}
theorem Ec(n:Nat)(w:World):
  Calls prog 131 #[.int .i32 n] w λe w'=>e=.returned (.bool (BS n))/\w'=w:=by
 go_in;go_wp2
 all_goals
  go_ret;exact⟨D4 (by rw[Bool.eq_iff_iff,Fv];simp;omega),rfl⟩
end
section
open Go.Conc
def Ik{α:Type}:Result α->Nat
 | .ok _ w=>w.drawn
 | .halt _ w=>w.drawn
theorem YD{α:Type}(a:Ask α)(w:World):w.drawn<=(w.ask a).2.drawn:=by
 induction a generalizing w with
 | done a=>exact A3 _
 | ask what r k ih =>
  simp only[World.ask];split
  .exact ih 0 w
  .grind
theorem YE(c:Sys)(w:World):w.drawn<=(w.sys c).2.drawn:=by
 have h:=YD (Kernel.perform c w.os) w;unfold World.sys;split
 .exact A3 _
 .simp_all
theorem Mv{w:World}{a k:Addr}{u:TypeId}{b:Bool}{l:List Addr}(h:w.viewStore p a u k v b=.ok (w',l)):w'.drawn=w.drawn:=by
 simp only[World.viewStore,bind,Except.bind,pure,Except.pure] at h;repeat' split at h
 all_goals first|(cases h;rfl)|cases h
theorem NP{w:World}{a:Addr}{b:Bool}{l:List Addr}(h:w.farStore p a v b=.ok (w',l)):w'.drawn=w.drawn:=by
 unfold World.farStore at h;split at h
 .split at h
  .rename_i r hr;cases h;exact Mv hr
  .cases h
 .cases h
theorem IZ{α:Type}(P:Program)(s:Sem α):∀(w:World)(es:Array Event),w.drawn<=Ik (s.runT P w es).1:=by
 induction s with
 | pure a=>intro w es;exact A3 _
 | load m a k ih =>
  intro w es;simp only[Sem.runT];split
  .exact ih _ _ _
  .split
   .exact ih _ _ _
   .exact A3 _
 | store m a v k ih =>
  intro w es
  cases v<;>simp only[Sem.runT]<;>first|exact A3 _|(
   split
   .split
    .exact A3 _
    .exact ih (w.setCell a _) _
   .split
    .rename_i w1 l h;have h1:=ih w1 (es++l.toArray.map (⟨.cell ·,true,m==Mode.atomic⟩));rw[NP h] at h1;exact h1
    .exact A3 _)
 | new o k ih=>intro w es;simp only[Sem.runT];exact ih _ {w with heap:=w.heap.push o} es
 | shape r k ih=>intro w es;simp only[Sem.runT];exact ih _ _ _
 | freeze a n k ih =>
  intro w es;simp only[Sem.runT];have h:=ih (w.freeze a n) es;have e:(w.freeze a n).drawn=w.drawn:=by unfold World.freeze;split<;>rfl
  rw[e] at h;exact h
 | frozen a k ih=>intro w es;simp only[Sem.runT];exact ih _ _ _
 | getObj r k ih =>
  intro w es;simp only[Sem.runT];split
  .exact A3 _
  .exact ih _ _ _
  .exact A3 _
 | setObj r o k ih =>
  intro w es;simp only[Sem.runT];split
  .exact A3 _
  .grind
  .exact A3 _
 | choose q k ih =>
  intro w es;simp only[Sem.runT];split
  .exact ih _ _ _
  .grind
 | sys c k ih=>intro w es;simp only[Sem.runT];exact B4 (YE c w) (ih _ _ _)
 | program k ih=>intro w es;simp only[Sem.runT];exact ih _ _ _
 | mark m k ih=>intro w es;simp only[Sem.runT];exact ih _ _
 | halt h=>intro w es;exact A3 _
def gN:Nat:=5
structure J0 (X:Nat->Prop) (n:Nat) (w u:World):Prop where
 size:u.heap.size=w.heap.size
 old:∀b,X b->b<w.heap.size
 same:∀b,¬X b->u.heap[b]?=w.heap[b]?
 cov:∀b,X b->∃c e,w.heap[b]?=some (Obj.cells c e (0,0))/\u.heap[b]?=some (Obj.cells #[] e (0,0))
 pend:∀(b:Nat)(c:Array Value)(t:TypeId),w.heap[b]?=some (Obj.pending c t)->gN<=b
 os:u.os=w.os
 output:u.output=w.output
 tape:∀i q,i<n->u.tape (u.drawn+i) q=w.tape (w.drawn+i) q
def V7(X:Nat->Prop)(e:Event):Prop :=
 match e.loc with
 | .cell a=>¬X a.block
 | .obj r=>¬X r
 | .mark .noRoom=>True
 | .mark (.extern _)=>True
 | .output=>True
 | _=>False
structure On (X:Nat->Prop) (n:Nat) (w u w' u':World):Prop where
 tw:w'.tape=w.tape
 tu:u'.tape=u.tape
 drew:∃k,k<=n/\w'.drawn=w.drawn+k/\u'.drawn=u.drawn+k/\J0 X (n-k) w' u'
theorem On.mk0{X:Nat->Prop}{n:Nat}{w u u':World}(h:J0 X n w' u')(tw:w'.tape=w.tape)(tu:u'.tape=u.tape)(dw:w'.drawn=w.drawn)(du:u'.drawn=u.drawn):On X n w u w' u':=⟨tw,tu,0,Nat.zero_le _,dw,du,h⟩
theorem On.refl{X:Nat->Prop}{n:Nat}{w u:World}(h:J0 X n w u):On X n w u w u:=.mk0 h rfl rfl rfl rfl
structure UY (X:Nat->Prop) (n:Nat) (w u w' u':World):Prop where
 sim:J0 X n w' u'
 tw:w'.tape=w.tape
 tu:u'.tape=u.tape
 dw:w'.drawn=w.drawn
 du:u'.drawn=u.drawn
def free:Halt->Bool
 | .stuck _=>true
 | .unsupported (.initOrder _)=>false
 | .unsupported _=>true
 | _=>false
def Ca:Halt->Bool
 | .unsupported (.initOrder g)=>decide (g<gN)
 | .unsupported _=>false
 | .stuck _=>false
 | .panic _=>false
 | _=>true
def QK(X:Nat->Prop)(n:Nat)(w u:World)(es:Array Event){α:Type}(rw ru:Result α×Array Event):Prop :=
 match ru with
 | (.ok a u',eu)=>(∀e∈eu,e∈es\/V7 X e)/\∃w',rw=(.ok a w',eu)/\On X n w u w' u'
 | (.halt h u',eu)=>Ca h=false/\(free h=false->(∀e∈eu,e∈es\/V7 X e)/\∃w',rw=(.halt h w',eu)/\On X n w u w' u')
def Q5(X:Nat->Prop)(n:Nat)(w u:World)(es:Array Event){α:Type}(rw ru:Result α×Array Event):Prop :=
 (Ik rw.1<=w.drawn+n\/Ik ru.1<=u.drawn+n)->QK X n w u es rw ru
class Sound (P:Program) (X:Nat->Prop) {α:Type} (s:Sem α):Prop where
 of:∀n w u es,J0 X n w u->Q5 X n w u es (s.runT P w es) (s.runT P u es)
instance {P:Program} {X:Nat->Prop} {α:Type} {s:Sem α}:CoeFun (Sound P X s) λ_=>∀n w u es,J0 X n w u->Q5 X n w u es (s.runT P w es) (s.runT P u es):=⟨λh=>h.of⟩
section
variable {P:Program} {X:Nat->Prop} {n:Nat} {α β:Type} {w u w1 u1:World} {es es1:Array Event}
theorem On.trans(hk:k<=n)(tw:w1.tape=w.tape)(tu:u1.tape=u.tape)(dw:w1.drawn=w.drawn+k)(du:u1.drawn=u.drawn+k)(h:On X (n-k) w1 u1 w2 u2):On X n w u w2 u2:=by
 obtain⟨m,hm,a,b,hs⟩:=h.drew;exact⟨h.tw.trans tw,h.tu.trans tu,k+m,oM,oM,oM,by rw[← Nat.sub_sub];exact hs⟩
theorem Q5.after{rw ru:Result α×Array Event}(hk:k<=n)(tw:w1.tape=w.tape)(tu:u1.tape=u.tape)(dw:w1.drawn=w.drawn+k)(du:u1.drawn=u.drawn+k)(h:Q5 X (n-k) w1 u1 es1 rw ru)(he:∀e∈es1,e∈es\/V7 X e):Q5 X n w u es rw ru:=by
 intro hd;have a0:∀{eu:Array Event},(∀e∈eu,e∈es1\/V7 X e)->∀e∈eu,e∈es\/V7 X e:=λh1 e hx=>(h1 e hx).elim (he e) .inr;have h:=h (hd.imp (λh=>oM) λh=>oM);match ru,h with
 | (.ok a u',eu),⟨h1,w',h2,h3⟩=>exact⟨a0 h1,w',h2,On.trans hk tw tu dw du h3⟩
 | (.halt k u',eu),⟨h0,h⟩=>exact⟨h0,λhf=>by obtain⟨h1,w',h2,h3⟩:=h hf;exact⟨a0 h1,w',h2,On.trans hk tw tu dw du h3⟩⟩
theorem Q5.on{rw ru:Result α×Array Event}(h:Q5 X n w1 u1 es1 rw ru)(ho:UY X n w u w1 u1)(he:∀e∈es1,e∈es\/V7 X e):Q5 X n w u es rw ru :=
 Q5.after (k:=0) (Nat.zero_le _) ho.tw ho.tu ho.dw ho.du h he
theorem Q5.step{rw ru:Result α×Array Event}(h:Q5 X n w u es1 rw ru)(he:∀e∈es1,e∈es\/V7 X e):Q5 X n w u es rw ru :=
 Q5.after (k:=0) (Nat.zero_le _) rfl rfl rfl rfl h he
theorem Z3{x:Event}(hx:V7 X x):∀e∈es.push x,e∈es\/V7 X e:=λe he=>by
 grind
theorem J0.cell(h:J0 X n w u){a:Addr}(ha:¬X a.block):u.cell? a=w.cell? a:=by simp only[World.cell?,h.same _ ha]
theorem J0.cellX(h:J0 X n w u){a:Addr}(ha:X a.block):u.cell? a=none:=by
 obtain⟨c,e,-,hu⟩:=h.cov _ ha;simp only[World.cell?,hu];split<;>simp
theorem J0.frozen(h:J0 X n w u)(a:Addr):u.frozen? a=w.frozen? a:=by
 by_cases ha:X a.block
 .obtain⟨c,e,hw,hu⟩:=h.cov _ ha;simp only[World.frozen?,hw,hu]
 .simp only[World.frozen?,h.same _ ha]
theorem J0.pendU(h:J0 X n w u)(b:Nat)(c:Array Value)(t:TypeId)(hp:u.heap[b]?=some (Obj.pending c t)):gN<=b:=by
 by_cases hb:X b
 .obtain⟨c,e,hw,hu⟩:=h.cov _ hb;rw[hu] at hp;cases hp
 .exact h.pend b c t (by rw[← h.same b hb];exact hp)
theorem J0.turn(h:J0 X n w u)(sw:hw.size=w.heap.size)(su:hu.size=u.heap.size)(same:∀b,¬X b->hu[b]?=hw[b]?)
  (cov:∀b,X b->∃c e,hw[b]?=some (Obj.cells c e (0,0))/\hu[b]?=some (Obj.cells #[] e (0,0))) (np:∀(b:Nat)(c:Array Value)(t:TypeId),hw[b]?=some (Obj.pending c t)->gN<=b):UY X n w u {w with heap:=hw} {u with heap:=hu} :=
 ⟨⟨by show hu.size=hw.size;rw[su,sw,h.size],λb hb=>by show b<hw.size;rw[sw];exact h.old b hb,same,cov,np,h.os,h.output,h.tape⟩,rfl,rfl,rfl,rfl⟩
end
end
section
structure Ba where
 nm:ByteArray
 has:List ByteArray
 nj:List ByteArray
structure Bk where
 tg:List ByteArray
 bs:List Ba
noncomputable def pB(p:Prop):Bool:=@decide p (Classical.propDecidable p)
theorem M5{p:Prop}(h:p):pB p=true:=by unfold pB;simp[h]
theorem F3{p:Prop}(h:¬p):pB p=false:=by unfold pB;simp[h]
theorem G7{p:Prop}:pB p=true↔p:=by unfold pB;simp
theorem N8{p:Prop}:pB p=false↔¬p:=by unfold pB;simp
def U1(a b:ByteArray):Bool:=Op.bytesLess a.toList b.toList
def E1(l:List ByteArray)(s:ByteArray):Bool:=l.any λx=>x.toList==s.toList
def J9(a b:List ByteArray):Bool:=a.any λs=>E1 b s
theorem FN{a b:ByteArray}(h:a.toList=b.toList):a=b:=by
 rw[Go.ByteArray.toList_eq,Go.ByteArray.toList_eq] at h;cases a;cases b;simp at h;rw[h]
theorem Ag(l:List ByteArray)(s:ByteArray):E1 l s=true↔s∈l:=by
 simp only[E1,List.any_eq_true,beq_iff_eq];constructor
 .rintro⟨x,hx,h⟩;rwa [← FN h]
 .grind
theorem Cr(l:List ByteArray)(s:ByteArray):E1 l s=false↔s∉l:=by rw[← Ag];simp
theorem WF(a b:List ByteArray):J9 a b=true↔∃s,s∈a/\s∈b:=by
 simp only[J9,List.any_eq_true,Ag]
theorem Az(a b:List ByteArray):J9 a b=false↔∀s,s∈a->s∉b:=by
 rw[← Bool.not_eq_true,WF];simp
theorem ED(hk:k<l.length)(h:E1 (l.take k) s=false)(hq:((l[k]).toList==s.toList)=false):E1 (l.take (k+1)) s=false:=by
 rw[A7 hk,E1,List.any_append];rw[E1] at h;simp[h,hq]
theorem Ji(hk:k<l.length)(hq:((l[k]).toList==s.toList)=true):E1 l s=true:=by
 rw[E1,List.any_eq_true];exact⟨l[k],List.getElem_mem hk,hq⟩
theorem FO(hk:¬k<l.length)(h:E1 (l.take k) s=false):E1 l s=false:=by
 rwa [D0 oM] at h
theorem TX{a b:List ByteArray}(hk:k<a.length)(h:J9 (a.take k) b=false)(hq:E1 b a[k]=false):J9 (a.take (k+1)) b=false:=by
 rw[A7 hk,J9,List.any_append];rw[J9] at h;simp[h,hq]
theorem Rk{a b:List ByteArray}(hk:k<a.length)(hq:E1 b a[k]=true):J9 a b=true:=by
 rw[J9,List.any_eq_true];exact⟨a[k],List.getElem_mem hk,hq⟩
theorem WG{a b:List ByteArray}(hk:¬k<a.length)(h:J9 (a.take k) b=false):J9 a b=false:=by
 rwa [D0 oM] at h
def Q8(l:List ByteArray)(k:Nat):Prop:=∀(i:Nat)(a b:ByteArray),i+1<k->l[i]?=some a->l[i+1]?=some b->U1 a b=true
def S1(l:List ByteArray)(k:Nat):Prop:=∀(i:Nat)(a:ByteArray),i<k->l[i]?=some a->E4 a=true
def U2(l all:List ByteArray)(k:Nat):Prop:=∀(i:Nat)(a:ByteArray),i<k->l[i]?=some a->E1 all a=true
def Y4(l:List ByteArray):Prop:=Q8 l l.length
def CY(l:List ByteArray):Prop:=S1 l l.length
def CI(l all:List ByteArray):Prop:=U2 l all l.length
def O0(l all:List ByteArray):Prop:=CI l all/\Y4 l
def Cj(l:List ByteArray):Prop:=l.length<=8/\CY l/\Y4 l
theorem Q8.zero(l:List ByteArray):Q8 l 0:=λi _ _ h=>by omega
theorem Q8.one(l:List ByteArray):Q8 l 1:=λi _ _ h=>by omega
theorem S1.zero(l:List ByteArray):S1 l 0:=λi _ h=>by omega
theorem U2.zero(l all:List ByteArray):U2 l all 0:=λi _ h=>by omega
theorem Q8.step(h:Q8 l (k+1))(hk:k+1<l.length)(hl:U1 l[k] l[k+1]=true):Q8 l (k+2):=λi a b hi ha hb=>by
 by_cases e:i=k
 .grind
 .exact h i a b oM ha hb
theorem S1.step(h:S1 l k)(hk:k<l.length)(hl:E4 l[k]=true):S1 l (k+1):=λi a hi ha=>by
 by_cases e:i=k
 .simp_all
 .exact h i a oM ha
theorem U2.step(h:U2 l all k)(hk:k<l.length)(hl:E1 all l[k]=true):U2 l all (k+1):=λi a hi ha=>by
 by_cases e:i=k
 .simp_all
 .exact h i a oM ha
theorem KY(h:Q8 l k)(hk:¬k<l.length):Y4 l:=λi a b hi ha hb=>h i a b oM ha hb
theorem Kj(h:S1 l k)(hk:¬k<l.length):CY l:=λi a hi ha=>h i a oM ha
theorem LW(h:U2 l all k)(hk:¬k<l.length):CI l all:=λi a hi ha=>h i a oM ha
theorem Rl(h:Y4 l)(hk:k+1<l.length):U1 l[k] l[k+1]=true:=h k _ _ hk (by rw[A0]) (by rw[A0])
theorem LX(h:CY l)(hk:k<l.length):E4 l[k]=true:=h k _ hk (by rw[A0])
theorem KZ(h:CI l all)(hk:k<l.length):E1 all l[k]=true:=h k _ hk (by rw[A0])
theorem Zc(h:CY l)(hs:s∈l):E4 s=true:=by
 obtain⟨i,hi,rfl⟩:=B7 hs;exact LX h hi
theorem Jj(h:CI l all)(hs:s∈l):s∈all:=by
 obtain⟨i,hi,rfl⟩:=B7 hs;exact (Ag _ _).1 (KZ h hi)
def GR(tg:List ByteArray)(x:Ba):Prop:=O0 x.nj tg/\O0 x.has x.nj
def Z7(tg:List ByteArray)(bs:List Ba)(k:Nat):Prop:=∀(i:Nat)(x:Ba),i<k->bs[i]?=some x->GR tg x
def M9(bs:List Ba)(n m:Nat):Prop:=∀(i j:Nat)(x y:Ba),j<i->(i<n\/i=n/\j<m)->bs[i]?=some x->bs[j]?=some y->J9 x.has y.has=false
def G9(bs:List Ba):List ByteArray:=bs.map (·.nm)
def BT(bs:List Ba):Prop:=M9 bs bs.length 0
def J3(b:Bk):Prop:=Cj b.tg/\b.bs.length<=5/\CY (G9 b.bs)/\Y4 (G9 b.bs)/\Z7 b.tg b.bs b.bs.length/\BT b.bs
noncomputable def Z1(b:Bk):Bool:=pB (J3 b)
theorem K0(bs:List Ba):(G9 bs).length=bs.length:=by simp[G9]
theorem Cs(bs:List Ba)(k:Nat)(hk:k<bs.length):(G9 bs)[k]'(by rw[K0];exact hk)=(bs[k]).nm:=by simp[G9]
theorem Rm(bs:List Ba)(k:Nat):G9 (bs.take k)=(G9 bs).take k:=by simp[G9]
theorem Z7.zero(tg:List ByteArray)(bs:List Ba):Z7 tg bs 0:=λi _ h=>by omega
theorem Z7.step{bs:List Ba}(h:Z7 tg bs k)(hk:k<bs.length)(hl:GR tg bs[k]):Z7 tg bs (k+1):=λi a hi ha=>by
 by_cases e:i=k
 .simp_all
 .exact h i a oM ha
theorem Z7.at{bs:List Ba}{n:Nat}(h:Z7 tg bs n)(hn:k<n)(hk:k<bs.length):GR tg bs[k]:=h k _ hn (by rw[A0])
theorem Vj{bs:List Ba}(h:Z7 tg bs k)(hk:¬k<bs.length):Z7 tg bs bs.length:=λi a hi ha=>h i a oM ha
theorem M9.zero(bs:List Ba):M9 bs 0 0:=λi j _ _ _ h=>by omega
theorem M9.step{bs:List Ba}{n:Nat}(h:M9 bs n m)(hn:n<bs.length)(hm:m<n)(hq:J9 (bs[n]).has (bs[m]).has=false):M9 bs n (m+1):=λi j x y hji hi hx hy=>by
 by_cases e:i=n/\j=m
 .grind
 .exact h i j x y hji oM hx hy
theorem M9.next{bs:List Ba}{n:Nat}(h:M9 bs n m)(hm:¬m<n):M9 bs (n+1) 0:=λi j x y hji hi hx hy=>h i j x y hji oM hx hy
theorem Zd{bs:List Ba}{n:Nat}(h:M9 bs n 0)(hn:¬n<bs.length):BT bs:=λi j x y hji hi hx hy=>h i j x y hji (by
 have:=(A2.1 hx).1;omega) hx hy
theorem BT.at{bs:List Ba}(h:BT bs){n:Nat}(hn:n<bs.length)(hm:m<n):J9 (bs[n]).has (bs[m]).has=false:=h n m _ _ hm oM (by rw[A0]) (by rw[A0])
def Ar(l:List ByteArray)(s:ByteArray):Int:=if E1 l s=true then (l.findIdx λx=>x.toList==s.toList:Nat) else -1
theorem Bz(hk:k<l.length)(h:E1 (l.take k) s=false)(hq:((l[k]).toList==s.toList)=true):Ar l s=(k:Int):=by
 have hf:l.findIdx (λx=>x.toList==s.toList)=k:=by
  rw[List.findIdx_eq hk];refine⟨hq,λj hj=>?_⟩;rw[E1,List.any_eq_false] at h;have:=h (l[j]) (by rw[List.mem_take_iff_getElem];exact⟨j,oM,rfl⟩);simpa using this
 rw[Ar,if_pos (Ji hk hq),hf]
theorem Dq(h:E1 l s=false):Ar l s=-1:=by rw[Ar,h];simp
theorem Ro(l:List ByteArray)(s:ByteArray):decide (0<=Ar l s)=E1 l s:=by
 cases h:E1 l s
 .rw[Dq h];rfl
 .rw[Ar,if_pos h];simp
theorem Jk(a b:List UInt8):(a==b)=(b==a):=by
 grind
end
section
open Go.RowKit
theorem Z8(s:ByteArray)(w:World)(hs:s.size<=maxLen):
  Calls prog 80 #[.string s] w λe w'=>e=.returned (.bool (E4 s))/\Up w w':=by
 unfold maxLen at hs;by_cases h1:1<=s.size
 case neg =>
  go_in;go_wp2;go_ret;exact⟨D4 (by simp[E4,h1]),A4 _ _⟩
 by_cases h2:s.size<=8
 case neg =>
  go_in;go_wp2;go_ret;exact⟨D4 (by simp[E4,h2]),A4 _ _⟩
 have hn:Hid (E4 s=Y6 s.data.toList):=by show E4 s=_;simp[E4,h1,h2]
 go_in;go_wp2_with fail;go_loopw [4] (λ_ w'=>∃a0:Nat,w'=w.iter s a0/\a0<=s.size/\Y6 (s.data.toList.take a0)=true) (λ_ w'=>s.size-w'.iterPos w.heap.size)
 case atStart=>exact⟨0,rfl,oM,rfl⟩
 case round =>
  obtain⟨a0,rfl,a4,a1⟩:=hrel;have Hal:Hid (Y6 (s.data.toList.take a0)=true):=a1;clear a1;by_cases hp:a0<s.size
  .have a2:∀ty,(Instr.next (.pointer (some ⟨w.heap.size,0,none⟩)) true ty).run prog (w.iter s a0)=_:=λty=>run_next_any w s a0 ty hp;by_cases ha:(s[a0]'hp).toNat<128
   .rw[decode_ascii s a0 hp ha] at a2;by_cases hb:BS (s[a0]'hp).toNat=true
    .have Hb:Hid (BS (s[a0]'hp).toNat=true):=hb;go_wp2_with (go_at_call 131;refine (Ec _ _).mono ?_;rintro e w' ⟨rfl,rfl⟩)
     go_roundw
     case rel=>exact⟨a0+1,rfl,oM,by rw[Gt s a0 hp,Hal.out,Hb.out];rfl⟩
     case measure=>simp;omega
    .have a3:BS (s[a0]'hp).toNat=false:=by simpa using hb
     have Hb:Hid (BS (s[a0]'hp).toNat=false):=a3;clear hb;go_wp2_with (go_at_call 131;refine (Ec _ _).mono ?_;rintro e w' ⟨rfl,rfl⟩)
     go_ret;exact⟨D4 (by rw[hn.out,Fw s a0 hp Hb.out]),Fx _ _ _⟩
   .have hi:=decode_high s a0 hp oM;have a3:BS (Utf8.decode s a0).1=false:=IV _ hi.1;have Hb:Hid (BS (s[a0]'hp).toNat=false):=IV _ oM;clear hi;go_wp2_with (go_at_call 131;refine (Ec _ _).mono ?_;rintro e w' ⟨rfl,rfl⟩)
    go_ret;exact⟨D4 (by rw[hn.out,Fw s a0 hp Hb.out]),Fx _ _ _⟩
  .have a2:∀ty,(Instr.next (.pointer (some ⟨w.heap.size,0,none⟩)) true ty).run prog (w.iter s a0)=_:=λty=>run_next_end w s a0 ty hp;go_wp2;go_ret;exact⟨D4 (by rw[hn.out,IW s a0 hp Hal.out]),Fx _ _ _⟩
def Eo(a b:ByteArray):Bool:=Op.bytesLess a.toList b.toList
def KT(a b:ByteArray):Bool:=a.toList==b.toList
def V8:List ByteArray->ByteArray->List ByteArray
 | [],x=>[x]
 | y::r,x=>if Eo y x=true then y::V8 r x else if KT y x=true then y::r else x::y::r
def NS(ss:List ByteArray)(x:ByteArray)(k:Nat):Prop:=∀(j:Nat)(s:ByteArray),j<k->ss[j]?=some s->Eo s x=true
theorem YG(h:NS ss x k)(hk:k<ss.length)(hl:Eo (ss[k]) x=true):NS ss x (k+1):=λj s hj hs=>by
 rcases Nat.lt_or_ge j k with h'|h'
 .exact h j s h' hs
 .grind
theorem LM:∀(ss:List ByteArray)(x:ByteArray)(k:Nat),NS ss x k->k<=ss.length->(∀s,ss[k]?=some s->Eo s x=false/\KT s x=false)->V8 ss x=ss.take k++x::ss.drop k
 | [],x,0,_,_,_=>rfl
 | [],x,k+1,_,h,_=>by simp at h
 | y::r,x,0,_,_,h=>by
  obtain⟨h1,h2⟩:=h y rfl;rw[V8,h1,h2];rfl
 | y::r,x,k+1,hl,hk,h=>by
  have h0:=hl 0 y oM rfl;rw[V8,if_pos h0,LM r x k (λj s hj hs=>hl (j+1) s oM (by simpa using hs)) (by simpa using hk) (λs hs=>h s (by simpa using hs))];rfl
theorem QM:∀(ss:List ByteArray)(x:ByteArray)(k:Nat),NS ss x k->(∃s,ss[k]?=some s/\Eo s x=false/\KT s x=true)->V8 ss x=ss
 | [],x,k,_,⟨s,hs,_⟩=>by simp at hs
 | y::r,x,0,_,⟨s,hs,h1,h2⟩=>by
  obtain rfl:y=s:=by simpa using hs
  rw[V8,h1,h2];rfl
 | y::r,x,k+1,hl,⟨s,hs,h1,h2⟩=>by
  have h0:=hl 0 y oM rfl;rw[V8,if_pos h0,QM r x k (λj s hj hs=>hl (j+1) s oM (by simpa using hs)) ⟨s,by simpa using hs,h1,h2⟩]
theorem LN(ss:List ByteArray)(x:ByteArray):(V8 ss x).length<=ss.length+1:=by
 induction ss with
 | nil=>simp[V8]
 | cons y r ih =>
  rw[V8];split
  .simp;omega
  .split<;>simp
def Ow(w W:World)(g:Nat)(ss:List ByteArray)(v:Value)(n:Nat)(xs:List Value):Prop:=W.ownsRow w.heap.size 9 1 v n xs/\G0 W g 0 ss/\Up w W
theorem Ow.grow{w:World}{n n':Nat}(h:Ow w W g ss v n xs)(hg:g<w.heap.size)(hgr:W.grownBy W' v.ownBlock)(ho:W'.ownsRow w.heap.size 9 1 v' n' ys):Ow w W' g ss v' n' ys :=
 ⟨ho,h.2.1.own h.1 hgr hg,S0 h.2.2 h.1 hgr (A3 _)⟩
theorem Ow.alloc{w:World}{n:Nat}(h:Ow w W g ss v n xs)(o:Obj):Ow w (W.alloc o) g ss v n xs :=
 ⟨h.1.alloc o,h.2.1.alloc o,h.2.2.alloc h.2.2.size o⟩
theorem Ow.drew{w:World}{n:Nat}(h:Ow w W g ss v n xs):Ow w W.drew g ss v n xs:=⟨h.1,h.2.1,h.2.2.drew⟩
theorem Il{w:World}(hS:G0 W g 0 ss)(hB:Up w W):Ow w (W.alloc (.cells #[] 9)) g ss (.slice (some ⟨W.heap.size,0,none⟩) 0 0) 0 [] :=
 ⟨C0 W #[] 0 hB.size (Nat.zero_le _) rfl,hS.alloc _,hB.alloc hB.size _⟩
theorem OI{o2 c:Nat}(h:G0 W g 0 ss)(ho:(if c=k then some (⟨g,0,none⟩:Addr) else some ⟨g,k,none⟩)=some ⟨g,o2,none⟩)(hc:ss.length<=c):G0 W g o2 (ss.drop k):=by
 by_cases h7:c=k
 .intro i s hs;have:=(A2.1 hs).1;simp at this;omega
 .rw[if_neg h7] at ho;obtain rfl:k=o2:=by simpa using ho
  have:=h.drop k;simpa using this
structure Ph where
 nm:ByteArray
 k:Int
 a:ByteArray
 b:ByteArray
 n:Int
 wi:Int
 t:ByteArray
 e:ByteArray
def Ph.cells(p:Ph):List Value:=[.string p.nm,.int .i64 p.k,.string p.a,.string p.b,.int .i64 p.n,.int .i64 p.wi,.string p.t,.string p.e]
def Ph.okB(p:Ph):Bool:=O7 p.nm p.k p.a p.b p.n p.wi p.t p.e
def G4(w:World)(b o:Nat)(ps:List Ph):Prop:=∀(i:Nat)(p:Ph),ps[i]?=some p->w.rangeAt b (o+i*8) p.cells
def Dz(ps:List Ph):Prop:=∀p∈ps,p.nm.size<=maxLen/\p.a.size<=maxLen/\p.b.size<=maxLen/\p.t.size<=maxLen/\p.e.size<=maxLen
def H7(ps:List Ph)(nm:ByteArray):Bool:=ps.any λp=>p.nm.toList==nm.toList
def M6(ps:List Ph)(nm:ByteArray):Int:=match ps.findIdx? λp=>p.nm.toList==nm.toList with
 | some i=>i
 | none=>-1
theorem G4.cells{w:World}{ps:List Ph}(h:G4 w b o ps)(i:Nat)(hi:i<ps.length):
  AS w b (o+i*8) (.string (ps[i]).nm)/\AS w b (o+i*8+1) (.int .i64 (ps[i]).k)/\AS w b (o+i*8+2) (.string (ps[i]).a)/\AS w b (o+i*8+3) (.string (ps[i]).b)/\
  AS w b (o+i*8+4) (.int .i64 (ps[i]).n)/\AS w b (o+i*8+5) (.int .i64 (ps[i]).wi)/\AS w b (o+i*8+6) (.string (ps[i]).t)/\AS w b (o+i*8+7) (.string (ps[i]).e):=by
 have hr:=h i ps[i] (by simp[hi]);exact⟨hr 0 _ rfl,hr 1 _ rfl,hr 2 _ rfl,hr 3 _ rfl,hr 4 _ rfl,hr 5 _ rfl,hr 6 _ rfl,hr 7 _ rfl⟩
theorem G4.drop{w:World}{ps:List Ph}(h:G4 w b o ps)(i:Nat):G4 w b (o+i*8) (ps.drop i):=λj p hp=>by
 have:=h (i+j) p (by simpa [List.getElem?_drop] using hp);rwa [show o+i*8+j*8=o+(i+j)*8 by omega]
theorem G4.up{w:World}{ps:List Ph}(h:G4 w b o ps)(hb:Below B w w')(hB:b<B):G4 w' b o ps:=λi p hp j v hv=>by
 rw[hb.cell (p:=⟨b,o+i*8+j,none⟩) hB];exact h i p hp j v hv
theorem OJ(ps:List Ph)(nm:ByteArray)(k:Nat)(h:k<ps.length):H7 (ps.take (k+1)) nm=(H7 (ps.take k) nm || ((ps[k]).nm.toList==nm.toList)):=by
 unfold H7;rw[A7 h,List.any_append];simp
theorem LP(ps:List Ph)(nm:ByteArray)(k:Nat)(h:¬k<ps.length)(hn:H7 (ps.take k) nm=false):H7 ps nm=false:=by
 rwa [D0 oM] at hn
theorem Abe(ps:List Ph)(nm:ByteArray)(k:Nat)(h:k<ps.length)(he:((ps[k]).nm.toList==nm.toList)=true):H7 ps nm=true:=by
 unfold H7;rw[List.any_eq_true];exact⟨ps[k],dC,he⟩
theorem Cb(ps:List Ph)(nm:ByteArray):H7 ps nm=true↔∃(j:Nat)(q:Ph),ps[j]?=some q/\(q.nm.toList==nm.toList)=true:=by
 unfold H7;rw[List.any_eq_true];constructor
 .rintro⟨q,hq,he⟩;obtain⟨j,hj,rfl⟩:=B7 hq;exact⟨j,ps[j],by simp[hj],he⟩
 .grind
theorem LQ(ps:List Ph)(nm:ByteArray)(h:H7 ps nm=false):M6 ps nm=-1:=by
 have:(ps.findIdx? λp=>p.nm.toList==nm.toList)=none:=by
  rw[List.findIdx?_eq_none_iff];simpa [H7] using h
 simp only[M6,this]
theorem OK(ps:List Ph)(nm:ByteArray)(k:Nat)(h:k<ps.length)(hn:H7 (ps.take k) nm=false)(he:((ps[k]).nm.toList==nm.toList)=true):M6 ps nm=k:=by
 have:(ps.findIdx? λp=>p.nm.toList==nm.toList)=some k:=by
  rw[List.findIdx?_eq_some_iff_getElem];refine⟨h,he,λj hj=>?_⟩;intro hc
  have:H7 (ps.take k) nm=true:=by
   rw[Cb];exact⟨j,ps[j],by simp[hj,Nat.lt_trans hj h],hc⟩
  rw[hn] at this;cases this
 simp only[M6,this]
def AP(later:List Ph)(nm:ByteArray):Bool:=K1 nm != 0 || H7 later nm
end
section
def Al(ps:List Ph)(i:Nat)(p:Ph):Bool:=p.okB && !H7 (ps.drop (i+1)) p.nm&&AP (ps.drop (i+1)) p.t&&AP (ps.drop (i+1)) p.e
def AQ(ps:List Ph)(i:Nat)(p:Ph):Bool:=p.okB&&M6 ps p.nm==(i:Int) && !(K1 p.t==0&&decide (M6 ps p.t<=(i:Int))) && !(K1 p.e==0&&decide (M6 ps p.e<=(i:Int)))
def GO(ps:List Ph)(k:Nat):Prop:=∀(i:Nat)(p:Ph),i<k->ps[i]?=some p->Al ps i p=true
def Ja(ps:List Ph)(k:Nat):Prop:=∀(i:Nat)(p:Ph),i<k->ps[i]?=some p->AQ ps i p=true
def M3(ps:List Ph):Bool:=decide (1<=ps.length)&&decide (ps.length<=12)&&(List.range ps.length).all λi=>(ps[i]?.map (Al ps i)).getD true
theorem J2(ps:List Ph):M3 ps=true↔1<=ps.length/\ps.length<=12/\GO ps ps.length:=by
 simp only[M3,Bool.and_eq_true,decide_eq_true_eq,List.all_eq_true,List.mem_range,GO,and_assoc];refine and_congr_right λ_=>and_congr_right λ_=>⟨λh i p hi hp=>?_,λh i hi=>?_⟩
 .grind
 .simp_all
theorem Dk(ps:List Ph)(nm:ByteArray)(i:Nat):H7 (ps.drop i) nm=true↔∃(j:Nat)(q:Ph),i<=j/\ps[j]?=some q/\(q.nm.toList==nm.toList)=true:=by
 rw[Cb];constructor
 .grind
 .rintro⟨j,q,hj,hq,he⟩;exact⟨j-i,q,by rw[List.getElem?_drop,show i+(j-i)=j by omega];exact hq,he⟩
theorem Dl(ps:List Ph)(nm:ByteArray):(H7 ps nm=false/\M6 ps nm=-1)\/∃(j:Nat)(q:Ph),ps[j]?=some q/\(q.nm.toList==nm.toList)=true/\M6 ps nm=(j:Int)/\∀(l:Nat)(r:Ph),l<j->ps[l]?=some r->(r.nm.toList==nm.toList)=false:=by
 cases h:ps.findIdx? λp=>p.nm.toList==nm.toList with
 | none =>
  left
  rw[List.findIdx?_eq_none_iff] at h;exact⟨by simpa [H7] using h,by simp only[M6,List.findIdx?_eq_none_iff.2 h]⟩
 | some j =>
  right
  have h':=h;rw[List.findIdx?_eq_some_iff_getElem] at h;obtain⟨hj,he,hl⟩:=h;refine⟨j,ps[j],by simp[hj],he,by simp only[M6,h'],λl r hlj hr=>?_⟩;obtain⟨a0,rfl⟩:=A2.1 hr;simpa using hl l hlj
theorem Wt{a b c:List UInt8}(h1:(a==b)=true)(h2:(c==b)=true):(a==c)=true:=by
 simp_all
theorem PN(ps:List Ph):GO ps ps.length↔Ja ps ps.length:=by
 have a0:∀{i:Nat} {p:Ph},ps[i]?=some p->i<ps.length:=λh=>(A2.1 h).1
 have a1:∀(i:Nat)(nm:ByteArray),(∀(l j:Nat)(r q:Ph),ps[l]?=some r->ps[j]?=some q->(r.nm.toList==q.nm.toList)=true->l=j)->
   (AP (ps.drop (i+1)) nm=true↔(!(K1 nm==0&&decide (M6 ps nm<=(i:Int))))=true):=by
  intro i nm hu;unfold AP;by_cases h0:K1 nm=0
  .simp only[h0,bne_self_eq_false,Bool.false_or,beq_self_eq_true,Bool.true_and,Bool.not_eq_true',decide_eq_false_iff_not];rw[Dk];rcases Dl ps nm with⟨hn,ha⟩|⟨j,q,hq,he,ha,_⟩
   .rw[ha];constructor
    .rintro⟨l,r,_,hr,hre⟩;have:H7 ps nm=true:=(Cb _ _).2 ⟨l,r,hr,hre⟩;rw[hn] at this;cases this
    .intro h;omega
   .grind
  .simp_all
 constructor
 .intro h i p hi hp
  have hu:∀(l j:Nat)(r q:Ph),ps[l]?=some r->ps[j]?=some q->(r.nm.toList==q.nm.toList)=true->l=j:=by
   intro l j r q hr hq he;rcases Nat.lt_trichotomy l j with hlj|rfl|hlj
   .have hs:=h l r (a0 hr) hr;simp only[Al,Bool.and_eq_true,Bool.not_eq_true'] at hs;have:H7 (ps.drop (l+1)) r.nm=true:=(Dk _ _ _).2 ⟨j,q,hlj,hq,by rw[Bool.beq_comm];exact he⟩;rw[hs.1.1.2] at this;cases this
   .rfl
   .have hs:=h j q (a0 hq) hq;simp only[Al,Bool.and_eq_true,Bool.not_eq_true'] at hs;have:H7 (ps.drop (j+1)) q.nm=true:=(Dk _ _ _).2 ⟨l,r,hlj,hr,he⟩;rw[hs.1.1.2] at this;cases this
  have hs:=h i p hi hp;simp only[Al,Bool.and_eq_true] at hs;simp only[AQ,Bool.and_eq_true];refine⟨⟨⟨hs.1.1.1,?_⟩,(a1 i p.t hu).1 hs.1.2⟩,(a1 i p.e hu).1 hs.2⟩;rcases Dl ps p.nm with⟨hn,_⟩|⟨j,q,hq,he,ha,_⟩
  .have:H7 ps p.nm=true:=(Cb _ _).2 ⟨i,p,hp,dC⟩;rw[hn] at this;cases this
  .grind
 .intro h i p hi hp
  have hu:∀(l j:Nat)(r q:Ph),ps[l]?=some r->ps[j]?=some q->(r.nm.toList==q.nm.toList)=true->l=j:=by
   intro l j r q hr hq he;have h1:=h l r (a0 hr) hr;have h2:=h j q (a0 hq) hq;simp only[AQ,Bool.and_eq_true,beq_iff_eq] at h1 h2
   have:M6 ps r.nm=M6 ps q.nm:=by
    have e:r.nm.toList=q.nm.toList:=by simpa using he
    simp only[M6,e]
   have:=h1.1.1.2.symm.trans (this.trans h2.1.1.2);omega
  have hs:=h i p hi hp;simp only[AQ,Bool.and_eq_true] at hs;simp only[Al,Bool.and_eq_true];refine⟨⟨⟨hs.1.1.1,?_⟩,(a1 i p.t hu).2 hs.1.2⟩,(a1 i p.e hu).2 hs.2⟩;rw[Bool.not_eq_true',← Bool.not_eq_true];intro hc;obtain⟨j,q,hj,hq,he⟩:=(Dk _ _ _).1 hc;have:=hu j i q p hq hp he;omega
theorem OL(ps:List Ph):M3 ps=true↔1<=ps.length/\ps.length<=12/\Ja ps ps.length:=by rw[J2,PN]
theorem UZ{x:Bool}{Q:Prop}[Decidable Q](h:¬(x=true/\Q)):(!(x&&decide Q))=true:=by cases x<;>simp_all
theorem Abf(ps:List Ph)(k:Nat)(hk:k<ps.length)(h:AQ ps k ps[k]=false):M3 ps=false:=by
 rw[← Bool.not_eq_true,OL];rintro⟨_,_,ha⟩;have:=ha k ps[k] hk (by simp[hk]);rw[h] at this;cases this
theorem Abg(ps:List Ph)(k:Nat)(hk:k<ps.length)(h:Al ps k ps[k]=false):M3 ps=false:=by
 rw[← Bool.not_eq_true,J2];rintro⟨_,_,ha⟩;have:=ha k ps[k] hk (by simp[hk]);rw[h] at this;cases this
theorem LR(ps:List Ph)(h:¬(1<=ps.length/\ps.length<=12)):M3 ps=false:=by
 rw[← Bool.not_eq_true,J2];rintro⟨h1,h2,_⟩;exact h ⟨h1,h2⟩
theorem YH{ps:List Ph}(h:Ja ps k)(hk:k<ps.length)(hs:AQ ps k ps[k]=true):Ja ps (k+1):=λi p hi hp=>by
 rcases Nat.lt_or_ge i k with h'|h'
 .exact h i p h' hp
 .grind
theorem YI{ps:List Ph}(h:GO ps k)(hk:k<ps.length)(hs:Al ps k ps[k]=true):GO ps (k+1):=λi p hi hp=>by
 rcases Nat.lt_or_ge i k with h'|h'
 .exact h i p h' hp
 .grind
theorem YJ(ps:List Ph):Ja ps 0:=λ_ _ h=>by omega
theorem YK(ps:List Ph):GO ps 0:=λ_ _ h=>by omega
theorem YL(ps:List Ph)(k:Nat)(h1:1<=ps.length/\ps.length<=12)(hk:k<=ps.length)(hk':¬k<ps.length)(ha:Ja ps k):M3 ps=true:=by
 obtain rfl:k=ps.length:=oM
 exact (OL ps).2 ⟨h1.1,h1.2,ha⟩
theorem YM(ps:List Ph)(k:Nat)(h1:1<=ps.length/\ps.length<=12)(hk:k<=ps.length)(hk':¬k<ps.length)(ha:GO ps k):M3 ps=true:=by
 obtain rfl:k=ps.length:=oM
 exact (J2 ps).2 ⟨h1.1,h1.2,ha⟩
end
section
open Go.RowKit
def Ad5(w:World)(rb:Nat)(v:Value)(len:Nat):Prop:=∃(a:Option Addr)(cap:Nat),v=.slice a len cap/\(len=0\/∃(b o:Nat)(z:Nat->Int),a=some ⟨b,o,none⟩/\b<rb/\∀i,i<len->w.cell? ⟨b,o+i,none⟩=some (.int .u8 (z i))/\0<=z i/\z i<=255)
def Rd(w:World)(rb:Nat)(v:Value)(len N:Nat):Prop:=∃p:Nat,p<=N/\w.cell? ⟨rb,0,none⟩=some v/\w.cell? ⟨rb,1,none⟩=some (.int .i64 p)/\w.frozen? ⟨rb,1,none⟩=false/\Ad5 w rb v len/\len<=2000
theorem DB(w:World)(ss:List ByteArray)(t:TypeId):G0 (w.alloc (.cells (ss.map Value.string).toArray t)) w.heap.size 0 ss:=λi s hs=>by
 simp_all
end
end Go.Proofs.YtaffjphkobhagaaGreatDoor
