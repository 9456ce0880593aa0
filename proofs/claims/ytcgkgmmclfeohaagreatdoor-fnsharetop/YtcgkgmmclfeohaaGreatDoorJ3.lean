/- Plain facts on names, ends and phases: no program in it. -/
import Derived.Laws.RangeAny
import Derived.Below
import Derived.Test.YtcgkgmmclfeohaaGreatDoorChecked
import Derived.WalkKit
import Derived.WalkSpells
import Derived.WalkLawsBesides
import Derived.Handy
import Derived.Outline
import Derived.Deep.Light
import Derived.Laws.Bits64
import Derived.BigQuiet
import Derived.Deep.QuietTactic
import Derived.Deep.DeepCutAuto
import Derived.Deep.RegionLaw
import Derived.Deep.RegionHeld
import Derived.Deep.RegionWith
import Derived.Laws.Strings
import Derived.Maps.Views
import Derived.Laws.OwnMore
import Derived.Deep.MidRow
namespace Go.Proofs.YtcgkgmmclfeohaaGreatDoor
open Go.Proofs.Tryz
@[simp,go_sem] abbrev At(w:World)(b o:Nat)(v:Value):Prop:=w.cell? ⟨b,o,none⟩=some v
abbrev Up(w w':World):Prop:=Go.RowKit.Below w.heap.size w w'
@[simp,go_sem] abbrev Sz(g n c:Nat):Value:=.slice (some ⟨g,0,none⟩) n c
@[simp,go_sem] abbrev Iz(x:Int):Value:=.int .i64 x
@[simp,go_sem] abbrev Sy(g o n c:Nat):Value:=.slice (some ⟨g,o,none⟩) n c
@[simp,go_sem] abbrev Nz:Value:=.slice none 0 0
@[simp,go_sem] abbrev Vz(a:Option Addr)(n c:Nat):Value:=.slice a n c
@[simp,go_sem] abbrev Tz(s:ByteArray):Value:=.string s
@[simp,go_sem] abbrev Ez:Value:=.string ⟨#[]⟩
@[simp,go_sem] abbrev Pz(b o:Nat):Value:=.pointer (some ⟨b,o,none⟩)
@[simp,go_sem] abbrev Kz(l:List Value)(T:TypeId):Obj:=.cells l.toArray T
abbrev BA:=ByteArray
theorem Swz{P:Program}{n:Nat}{a:Array Value}{w:World}{E:Ending}{Q:Ending→World→Prop}(h:Calls P n a w fun e w'=>e=E∧w'=w)(q:Q E w):Calls P n a w Q:=h.mono (by rintro e w' ⟨rfl,rfl⟩;exact q)
variable{ac:Act}{ops:Array Oper}{tmps:Array Value}{s:ByteArray}{all g' gone l order ss ss' tg:List ByteArray}{rest:List Oper}{cs xs ys:List Value}{B b base c e g i j k m n o off pb rb rk size x:Nat}{r:Option Nat}{P:Program}{T:TypeId}{u v x0 x1 x2 y0 y1:Value}{W Z a w w' w1:World}
theorem A0:type_of% @List.getElem?_eq_getElem:=@List.getElem?_eq_getElem
theorem A1:type_of% @Nat.lt_of_lt_of_le:=@Nat.lt_of_lt_of_le
theorem A2:type_of% @List.getElem?_eq_some_iff:=@List.getElem?_eq_some_iff
theorem A3:type_of% @Nat.le_refl:=@Nat.le_refl
theorem A4:type_of% @Go.RowKit.Below.refl:=@Go.RowKit.Below.refl
theorem A5:type_of% @Option.some.inj:=@Option.some.inj
theorem A6:type_of% @List.mem_of_getElem?:=@List.mem_of_getElem?
theorem A7:type_of% @List.take_succ_eq_append_getElem:=@List.take_succ_eq_append_getElem
theorem A8:type_of% @List.length_drop:=@List.length_drop
theorem A9:type_of% @List.length_append:=@List.length_append
theorem B3:type_of% @List.getElem?_map:=@List.getElem?_map
theorem B4:type_of% @Nat.le_trans:=@Nat.le_trans
theorem B5:type_of% @List.length_map:=@List.length_map
theorem B6:type_of% @Option.map_eq_some_iff:=@Option.map_eq_some_iff
theorem B7:type_of% @List.getElem_of_mem:=@List.getElem_of_mem
theorem B8:type_of% @List.length_take:=@List.length_take
theorem B9:type_of% @World.ownsRow_nil:=@World.ownsRow_nil
theorem C0:type_of% @World.ownsRow_lit:=@World.ownsRow_lit
theorem C1:type_of% @World.cell?_setCell_other:=@World.cell?_setCell_other
theorem C2:type_of% @World.cell?_of_block:=@World.cell?_of_block
theorem C4:type_of% @Nat.eq_zero_or_pos:=@Nat.eq_zero_or_pos
theorem C5:type_of% @List.length_eq_zero_iff:=@List.length_eq_zero_iff
theorem C6:type_of% @List.getElem?_eq_none:=@List.getElem?_eq_none
theorem C7:type_of% @List.mem_cons_of_mem:=@List.mem_cons_of_mem
theorem C8:type_of% @List.getElem?_append_right:=@List.getElem?_append_right
theorem C9:type_of% @List.mem_append:=@List.mem_append
theorem D0:type_of% @List.mem_singleton:=@List.mem_singleton
theorem D1:type_of% @List.take_of_length_le:=@List.take_of_length_le
theorem D2:type_of% @Array.getElem?_eq_some_iff:=@Array.getElem?_eq_some_iff
def Gq(n:Nat):Bool:=(decide (97<=n)&&decide (n<=122)) || (decide (48<=n)&&decide (n<=57)) || n==45
def Do(l:List UInt8):Bool:=l.all λb=>Gq b.toNat
def U0(s:ByteArray):Bool:=decide (1<=s.size)&&decide (s.size<=8)&&Do s.data.toList
theorem Lb(n:Nat):Gq n=true↔(97<=n/\n<=122)∨(48<=n/\n<=57)∨n=45:=by
 simp[Gq,or_assoc]
theorem Rb(n:Nat)(h:128<=n):Gq n=false:=by
 rw[← Bool.not_eq_true,Lb];omega
theorem XF(s:ByteArray)(k:Nat)(h:k<s.size):s.data.toList.take (k+1)=s.data.toList.take k++[s[k]]:=by
 rw[A7 (by simpa using h)];rfl
theorem XG(l:List UInt8)(b:UInt8):Do (l++[b])=(Do l&&Gq b.toNat):=by simp[Do]
theorem Pm(s:ByteArray)(k:Nat)(h:k<s.size):Do (s.data.toList.take (k+1))=(Do (s.data.toList.take k)&&Gq (s[k]).toNat):=by
 rw[XF s k h,XG]
theorem Oe(s:ByteArray)(k:Nat)(h:k<s.size)(hb:Gq (s[k]).toNat=false):Do s.data.toList=false:=by
 rw[← Bool.not_eq_true];intro ha;simp only[Do,List.all_eq_true] at ha;have:=ha (s[k]) (by show s.data[k]∈s.data.toList;simp);rw[hb] at this;cases this
theorem Rc(s:ByteArray)(k:Nat)(h:¬k<s.size)(ha:Do (s.data.toList.take k)=true):Do s.data.toList=true:=by
 rw[D1 (by simp;omega)] at ha;exact ha
def Re(n lo hi:Int):Bool:=decide (lo<=n)&&decide (n<=hi)
theorem Un(n lo hi:Int):Re n lo hi=true↔lo<=n/\n<=hi:=by simp[Re]
theorem Ae9(n lo hi:Int):Re n lo hi=false↔¬(lo<=n/\n<=hi):=by rw[← Un];simp
end Go.Proofs.YtcgkgmmclfeohaaGreatDoor
namespace Go.Proofs.YtcgkgmmclfeohaaGreatDoor
open Go.Proofs.Tryz
open Go.RowKit
variable{ac:Act}{ops:Array Oper}{tmps:Array Value}{s:ByteArray}{all g' gone l order ss ss' tg:List ByteArray}{rest:List Oper}{cs xs ys:List Value}{B b base c e g i j k m n o off pb rb rk size x:Nat}{r:Option Nat}{P:Program}{T:TypeId}{u v x0 x1 x2 y0 y1:Value}{W Z a w w' w1:World}
theorem J5{a b:Bool}(h:a=b):Ending.returned (.bool a)=.returned (.bool b):=by rw[h]
theorem GC{k:IntKind}{a b:Int}(h:a=b):Ending.returned (.int k a)=.returned (.int k b):=by rw[h]
theorem Of(w:World)(s:ByteArray)(p:Nat):Up w (w.iter s p):=(A4 _ _).alloc (A3 _) _
theorem Dp(hb:Up W w1):(∀b o,b<W.heap.size->w1.cell? ⟨b,o,none⟩=W.cell? ⟨b,o,none⟩)/\(∀b o,b<W.heap.size->w1.frozen? ⟨b,o,none⟩=W.frozen? ⟨b,o,none⟩) :=
 ⟨λb o h=>hb.cell (p:=⟨b,o,none⟩) h,λb o h=>hb.frozen (p:=⟨b,o,none⟩) h⟩
theorem D4{b c:World}(h:Up a b)(k:Up b c):Up a c:=h.trans (k.mono h.size)
theorem S3{b c:World}(h:a.grownBy b r)(k:b.grownBy c r):a.grownBy c r :=
 ⟨k.os.trans h.os,k.tape.trans h.tape,k.output.trans h.output,B4 h.size k.size,λi hi hr=>(k.block i (A1 hi h.size) hr).trans (h.block i hi hr)⟩
theorem F4(a:World)(r:Option Nat):a.grownBy a r:=⟨rfl,rfl,rfl,A3 _,λ_ _ _=>rfl⟩
theorem Cb{b:World}(h:a.grownBy b r):a.grownBy b.drew r:=⟨h.os,h.tape,h.output,h.size,h.block⟩
theorem Bm{b:World}(h:Up a b):a.grownBy b r:=⟨h.os,h.tape,h.output,h.size,λi hi _=>h.block i hi⟩
theorem ID{b:World}(h:a.grownBy b r)(o:Obj):a.grownBy (b.alloc o) r:=S3 h (Bm ((A4 _ _).alloc (A3 _) _))
theorem E6{b:World}(h:a.grownBy b (some rb))(u:Value):a.grownBy (b.setCell ⟨rb,off,none⟩ u) (some rb) :=
 S3 h ⟨rfl,rfl,rfl,by simp,λi _ hr=>Below.heap_setCell _ _ _ _ (λe=>hr (by rw[e]))⟩
theorem Tu{b:World}(h:a.grownBy b r)(n:Nat):a.grownBy (b.drewN n) r:=⟨h.os,h.tape,h.output,h.size,h.block⟩
def N3(w:World)(g o:Nat)(ss:List ByteArray):Prop:=∀(i:Nat)(s:ByteArray),ss[i]?=some s->w.cell? ⟨g,o+i,none⟩=some (.string s)
theorem N3.kept(h:N3 w g o ss)(hg:w.grownBy w' (some rb))(hne:g≠rb):N3 w' g o ss :=
 λi s hs=>hg.cell (h i s hs) (by simpa using hne)
theorem Kj(b:Nat):∀(vs:List Value)(o:Nat)(W w':World)(B:Nat),Below B W w'->B<=b->Below B W (w'.setCells b o vs)
 | [],_,_,_,_,h,_=>h
 | v::r,o,W,w',B,h,hB=>by
  rw[World.setCells];exact Kj b r (o+1) W _ B (h.setCell (p:=⟨b,o,none⟩) hB v) hB
theorem World.size_setCells'{b:Nat}:∀{vs:List Value} {o:Nat} {w:World},(w.setCells b o vs).heap.size=w.heap.size
 | [],_,_=>rfl
 | v::r,o,w=>by rw[World.setCells,World.size_setCells'];simp
def CB(w:World)(b:Nat)(cs:List Value):Prop:=w.rangeAt b 0 cs/\w.there b 0 cs.length/\b<w.heap.size
theorem CB.kept(h:CB w b cs)(hg:w.grownBy w' r)(hne:some b≠r):CB w' b cs:=by
 have hb:=hg.block b h.2.2 hne;refine⟨λj v hv=>?_,λj hj=>?_,A1 h.2.2 hg.size⟩
 ·rw[C2 (w:=w) (a:=⟨b,0+j,none⟩) hb];exact h.1 j v hv
 ·rw[C2 (w:=w) (a:=⟨b,0+j,none⟩) hb,World.frozen?_of_block (w:=w) (a:=⟨b,0+j,none⟩) hb];exact h.2.1 j hj
theorem CB.up(h:CB w b cs)(hb:Below B w w')(hB:b<B):CB w' b cs:=by
 have hk:=hb.block b hB;refine⟨λj v hv=>?_,λj hj=>?_,A1 h.2.2 hb.size⟩
 ·rw[C2 (w:=w) (a:=⟨b,0+j,none⟩) hk];exact h.1 j v hv
 ·rw[C2 (w:=w) (a:=⟨b,0+j,none⟩) hk,World.frozen?_of_block (w:=w) (a:=⟨b,0+j,none⟩) hk];exact h.2.1 j hj
theorem O7(w:World)(cs:List Value)(t:TypeId):CB (w.alloc (.cells cs.toArray t)) w.heap.size cs:=by
 have hr:(w.alloc (.cells cs.toArray t)).rangeAt w.heap.size 0 cs:=by
  intro j v hv;rw[Nat.zero_add,World.cell?_alloc_at]
  ·simpa using hv
  ·rfl
 refine⟨hr,λj hj=>⟨hr.isSome j hj,?_⟩,by simp⟩;simp[go_sem]
theorem Rf(h:w.rangeAt b 0 cs)(hj:j<cs.length):(w.setCell ⟨b,j,none⟩ u).rangeAt b 0 (cs.set j u):=by
 intro i x hx;rw[List.getElem?_set] at hx;by_cases e:j=i
 ·subst e;rw[if_pos rfl,if_pos hj] at hx;obtain rfl:=A5 hx;have hc:=h j cs[j] (by simp);rw[Nat.zero_add] at hc ⊢
  exact World.cell?_setCell_same _ _ _ hc
 ·rw[if_neg e] at hx;rw[C1 _ _ _ _ (by simp<;>omega)];exact h i x hx
theorem CB.set(h:CB w b cs)(hj:j<cs.length):CB (w.setCell ⟨b,j,none⟩ u) b (cs.set j u):=by
 refine⟨Rf h.1 hj,λi hi=>?_,by simpa using h.2.2⟩;have:=World.there_setCells h.2.1 b j [u] i (by simpa using hi);simpa [World.setCells] using this
theorem CB.other{q:Nat}(h:CB w b cs)(hne:b≠q):CB (w.setCell ⟨q,j,none⟩ u) b cs :=
 h.kept (r:=some q) ⟨rfl,rfl,rfl,by simp,λi _ hr=>Below.heap_setCell _ _ _ _ (λe=>hr (by rw[e]))⟩ (by simpa using hne)
theorem CB.c2(h:CB w b [x0,x1]):(At w b 0 x0/\At w b 1 x1)/\w.frozen? ⟨b,0,none⟩=false/\w.frozen? ⟨b,1,none⟩=false :=
 ⟨⟨h.1 0 _ rfl,h.1 1 _ rfl⟩,(h.2.1 0 (by simp)).2,(h.2.1 1 (by simp)).2⟩
theorem CB.c3(h:CB w b [x0,x1,x2]):(At w b 0 x0/\At w b 1 x1/\At w b 2 x2)/\w.frozen? ⟨b,0,none⟩=false/\w.frozen? ⟨b,1,none⟩=false/\w.frozen? ⟨b,2,none⟩=false :=
 ⟨⟨h.1 0 _ rfl,h.1 1 _ rfl,h.1 2 _ rfl⟩,(h.2.1 0 (by simp)).2,(h.2.1 1 (by simp)).2,(h.2.1 2 (by simp)).2⟩
theorem CB.c8{x3 x4 x5 x6 x7:Value}(h:CB w b [x0,x1,x2,x3,x4,x5,x6,x7]):
  (At w b 0 x0/\At w b 1 x1/\At w b 2 x2/\At w b 3 x3/\At w b 4 x4/\At w b 5 x5/\At w b 6 x6/\At w b 7 x7)/\
  w.frozen? ⟨b,0,none⟩=false/\w.frozen? ⟨b,1,none⟩=false/\w.frozen? ⟨b,2,none⟩=false/\w.frozen? ⟨b,3,none⟩=false/\w.frozen? ⟨b,4,none⟩=false/\w.frozen? ⟨b,5,none⟩=false/\w.frozen? ⟨b,6,none⟩=false/\w.frozen? ⟨b,7,none⟩=false :=
 ⟨⟨h.1 0 _ rfl,h.1 1 _ rfl,h.1 2 _ rfl,h.1 3 _ rfl,h.1 4 _ rfl,h.1 5 _ rfl,h.1 6 _ rfl,h.1 7 _ rfl⟩,(h.2.1 0 (by simp)).2,(h.2.1 1 (by simp)).2,(h.2.1 2 (by simp)).2,(h.2.1 3 (by simp)).2,(h.2.1 4 (by simp)).2,(h.2.1 5 (by simp)).2,(h.2.1 6 (by simp)).2,(h.2.1 7 (by simp)).2⟩
theorem CB.copy(h:CB w b ys)(xs:List Value)(hl:xs.length=ys.length):CB (w.setCells b 0 xs) b xs :=
 ⟨World.rangeAt_setCells_same _ _ _ _ (by rw[hl];exact h.2.1),World.there_setCells (by rw[hl];exact h.2.1) _ _ _,by rw[World.size_setCells'];exact h.2.2⟩
theorem MK(h:Below B a w)(hb:B<=b)(xs:List Value):Below B a (w.setCells b 0 xs):=Kj b xs 0 a w B h hb
theorem CB.room(h:CB w b ys)(hn:n=ys.length):w.there b 0 n:=by subst hn;exact h.2.1
theorem CB.copy2(h:CB w b [y0,y1])(x0 x1:Value):CB ((w.setCell ⟨b,0,none⟩ x0).setCell ⟨b,1,none⟩ x1) b [x0,x1]:=h.copy [x0,x1] rfl
theorem CB.copy3{y2:Value}(h:CB w b [y0,y1,y2])(x0 x1 x2:Value):CB (((w.setCell ⟨b,0,none⟩ x0).setCell ⟨b,1,none⟩ x1).setCell ⟨b,2,none⟩ x2) b [x0,x1,x2]:=h.copy [x0,x1,x2] rfl
theorem I4(h:Below B a w)(hb:B<=b)(x0 x1:Value):Below B a ((w.setCell ⟨b,0,none⟩ x0).setCell ⟨b,1,none⟩ x1):=MK h hb [x0,x1]
theorem VH(h:Below B a w)(hb:B<=b)(x0 x1 x2:Value):Below B a (((w.setCell ⟨b,0,none⟩ x0).setCell ⟨b,1,none⟩ x1).setCell ⟨b,2,none⟩ x2):=MK h hb [x0,x1,x2]
theorem XH{fn:Func}{q:Tmp}(h:fn.results=#[.cell q T]){d:TypeDesc}(hu:P.underlying T=some d)(hd:d.isRow=true)(hi:(P.info? T).map (·.size)=some cs.length)
  (ht:tmps.getD q undef=.pointer (some ⟨rk,0,none⟩)) (hZ:CB Z rk cs):(results fn tmps).run P Z=.ok (.agg cs.toArray) Z:=by
 have hl:=run_loadVar_mid (P:=P) Z rk 0 T cs d hZ.1 hu hd hi;have ha:(asAddr (.pointer (some ⟨rk,0,none⟩))).run P Z=.ok ⟨rk,0,none⟩ Z:=by simp[go_sem]
 have a0:tmps[q]?.getD undef=.pointer (some ⟨rk,0,none⟩):=by simpa using ht
 simp only[results,h];simp[Sem.run_bind,Result.andThen,a0,ha,hl]
theorem Fo{fn:Func}{q q2:Tmp}(h:fn.results=#[.cell q T,.tmp q2]){d:TypeDesc}(hu:P.underlying T=some d)(hd:d.isRow=true)(hi:(P.info? T).map (·.size)=some cs.length)
  {v:Value} (ht:tmps.getD q undef=.pointer (some ⟨rk,0,none⟩)) (hv:tmps.getD q2 undef=v) (hZ:CB Z rk cs):(results fn tmps).run P Z=.ok (.tuple #[.agg cs.toArray,v]) Z:=by
 have hl:=run_loadVar_mid (P:=P) Z rk 0 T cs d hZ.1 hu hd hi;have ha:(asAddr (.pointer (some ⟨rk,0,none⟩))).run P Z=.ok ⟨rk,0,none⟩ Z:=by simp[go_sem]
 have a0:tmps[q]?.getD undef=.pointer (some ⟨rk,0,none⟩):=by simpa using ht
 have a1:tmps[q2]?.getD undef=v:=by simpa using hv
 simp only[results,h];simp[Sem.run_bind,Result.andThen,a0,a1,ha,hl]
theorem ML(w:World)(x:List Value)(t:TypeId):CB (w.alloc (.cells x.toArray t)) w.heap.size x/\Up w (w.alloc (.cells x.toArray t))/\(w.alloc (.cells x.toArray t)).heap.size=w.heap.size+1 :=
 ⟨O7 w x t,(A4 _ _).alloc (A3 _) _,by simp⟩
theorem cb2(w:World)(x y:List Value)(t u:TypeId):CB ((w.alloc (.cells x.toArray t)).alloc (.cells y.toArray u)) w.heap.size x/\CB ((w.alloc (.cells x.toArray t)).alloc (.cells y.toArray u)) (w.heap.size+1) y/\
  Up w ((w.alloc (.cells x.toArray t)).alloc (.cells y.toArray u))/\((w.alloc (.cells x.toArray t)).alloc (.cells y.toArray u)).heap.size=w.heap.size+2:=by
 obtain⟨h1,hb,hs⟩:=ML w x t;obtain⟨h2,a0,a1⟩:=ML (w.alloc (.cells x.toArray t)) y u;refine⟨h1.up a0 (by rw[hs];omega),by rw[hs] at h2;exact h2,hb.trans (a0.mono (by rw[hs];omega)),by rw[a1,hs]⟩
theorem cb3(w:World)(x y z:List Value)(t u v:TypeId):CB (((w.alloc (.cells x.toArray t)).alloc (.cells y.toArray u)).alloc (.cells z.toArray v)) w.heap.size x/\CB (((w.alloc (.cells x.toArray t)).alloc (.cells y.toArray u)).alloc (.cells z.toArray v)) (w.heap.size+1) y/\
  CB (((w.alloc (.cells x.toArray t)).alloc (.cells y.toArray u)).alloc (.cells z.toArray v)) (w.heap.size+2) z/\
  Up w (((w.alloc (.cells x.toArray t)).alloc (.cells y.toArray u)).alloc (.cells z.toArray v))/\(((w.alloc (.cells x.toArray t)).alloc (.cells y.toArray u)).alloc (.cells z.toArray v)).heap.size=w.heap.size+3:=by
 obtain⟨h1,h2,hb,hs⟩:=cb2 w x y t u;obtain⟨h3,a0,a1⟩:=ML ((w.alloc (.cells x.toArray t)).alloc (.cells y.toArray u)) z v;refine⟨h1.up a0 (by rw[hs];omega),h2.up a0 (by rw[hs];omega),by rw[hs] at h3;exact h3,hb.trans (a0.mono (by rw[hs];omega)),by rw[a1,hs]⟩
theorem cbE1(w:World)(x:List Value)(t:TypeId):∃W,w.alloc (.cells x.toArray t)=W/\CB W w.heap.size x/\Up w W/\W.heap.size=w.heap.size+1:=⟨_,rfl,ML w x t⟩
theorem cbE2(w:World)(x:List Value)(t:TypeId)(y:List Value)(u:TypeId):∃W,(w.alloc (.cells x.toArray t)).alloc (.cells y.toArray u)=W/\CB W w.heap.size x/\CB W (w.heap.size+1) y/\Up w W/\W.heap.size=w.heap.size+2:=⟨_,rfl,cb2 w x y t u⟩
theorem cbE3(w:World)(x:List Value)(t:TypeId)(y:List Value)(u:TypeId)(z:List Value)(v:TypeId):∃W,((w.alloc (.cells x.toArray t)).alloc (.cells y.toArray u)).alloc (.cells z.toArray v)=W/\CB W w.heap.size x/\CB W (w.heap.size+1) y/\CB W (w.heap.size+2) z/\Up w W/\W.heap.size=w.heap.size+3:=⟨_,rfl,cb3 w x y z t u v⟩
theorem P0(h:W.ownsRow base e size v n xs)(hb:Up W w'):w'.ownsRow base e size v n xs:=by
 refine⟨h.1,?_⟩;rcases h.2 with h0|⟨g,cap,cur,hv,hg,hh,r⟩
 ·exact .inl h0
 ·refine .inr ⟨g,cap,cur,hv,hg,?_,r⟩;rw[hb.block g (D2.1 hh).1];exact hh
theorem AK{b:World}(h:a.grownBy b r)(hp:a.heap.size<=pb)(u:Value):a.grownBy (b.setCell ⟨pb,off,none⟩ u) r :=
 ⟨h.os,h.tape,h.output,by simpa using h.size,λi hi hr=>(Below.heap_setCell _ _ _ _ (by simp;omega)).trans (h.block i hi hr)⟩
theorem Bg:(prog.info? 9).map (λi=>(i.zero,i.size,i.bytes))=some (some (.string ⟨#[]⟩),1,16):=by kernel_rfl
theorem N3.alloc(h:N3 w g o ss)(ob:Obj):N3 (w.alloc ob) g o ss:=λi s hs=>by
 have:=h i s hs;rw[World.cell?_alloc_lt _ _ _ (World.block_lt_of_cell? w _ this)];exact this
theorem CD(h:N3 w g o ss):∀(j:Nat)(u:Value),(ss.map Value.string)[j]?=some u->w.cell? ((⟨g,o,none⟩:Addr).add j)=some u:=λj u hu=>by
 rw[B3,B6] at hu;obtain⟨s,hs,rfl⟩:=hu;rw[Addr.add_mid];exact h j s hs
theorem Mc(ss:List ByteArray):∀u∈ss.map Value.string,u.oneCell'=true:=λu hu=>by
 obtain⟨s,_,rfl⟩:=List.mem_map.1 hu;rfl
theorem U5(h:w.ownsRow base e size v n xs)(hn:0<n):∃g cap,v=.slice (some ⟨g,0,none⟩) n cap:=by
 rcases h.2 with⟨_,h0⟩|⟨g,cap,_,hv,_⟩
 ·omega
 ·exact⟨g,cap,hv⟩
theorem Tv{cap:Nat}(h:w.ownsRow base e 1 (.slice (some ⟨g,0,none⟩) n cap) n (ss.map Value.string))(hn:ss.length=n):N3 w g 0 ss:=λi s hs=>by
 have hi:i<ss.length:=(A2.1 hs).1;rw[Nat.zero_add,h.cellAt i (by omega),B3,hs];rfl
theorem N3.other(h:N3 w g o ss)(hne:g≠pb):N3 (w.setCell ⟨pb,off,none⟩ u) g o ss:=λi s hs=>by
 rw[C1 _ _ _ _ (by simp<;>omega)];exact h i s hs
theorem O3{P:Program}{ops:Array Oper}{o:Oper}{a:Act}{w:World}{K:Act->World->Prop}{Q:Exit->Act->World->Prop}{E:Prop}
  (hg:o.guard=none) (s x:Operand) (t:TypeId) (hop:o.op=Op.call {callee:=Callee.builtin Builtin.append,args:=#[s,x],argTypes:=#[t,t]})
  (base:Nat) (e:TypeId) (i:TypeInfo) (z:Value) (size bytes:Nat) (ht:P.underlying t=some (.slice e)) (hi:P.info? e=some i) (hz:i.zero=some z)
  (hsize:i.size=size) (hby:i.bytes=bytes) (hzs:z.cells.size=size) (hsz:0<size)
  (v:Value) (n:Nat) (xs:List Value) (hs:a.eval s=v) (hown:w.ownsRow base e size v n xs)
  (ad:Addr) (m c:Nat) (news:List Value) (hx:a.eval x=.slice (some ad) m c) (hl:news.length=m*size) (hnews:∀j u,news[j]?=some u->w.cell? (ad.add j)=some u) (h1:∀u∈news,u.oneCell'=true)
  (h63:n+m<=maxLen) (hbytes:(n+m)*bytes<=140737488355328) (hbase:base<=w.heap.size)
  (hK:∀v' w',w'.ownsRow base e size v' (n+m) (xs++news)->w.grownBy w' v.ownBlock->K (a.put o.dst v') w') :
  if Region.wanted o (yielded ops a.tmps)=true then Oper.wp P o a w K Q else E:=by
 have hw:Region.wanted o (yielded ops a.tmps)=true:=by simp[Region.wanted,hg]
 rw[if_pos hw];obtain⟨v',w',hr,h2,h3,_⟩:=run_append_own (P:=P) w base t o.type e i z size bytes ht hi hz hsize hby hzs hsz v n xs hown ad m c news hl hnews h1 h63 hbytes hbase;unfold Oper.wp;simp[execOp,hop,resolve,invoke,builtin,hs,hx,hr,Result.andThen];exact hK v' w' h2 h3
theorem J0(h:w.ownsRow base e size v n xs)(hg:w.grownBy w' (some rb))(hrb:rb<base):w'.ownsRow base e size v n xs:=by
 refine⟨h.1,?_⟩;rcases h.2 with h0|⟨g,cap,cur,hv,hb,hh,r⟩
 ·exact .inl h0
 ·refine .inr ⟨g,cap,cur,hv,hb,?_,r⟩;rw[hg.block g (D2.1 hh).1 (by simp;omega)];exact hh
theorem N1{base':Nat}(h:w.ownsRow base e size v n xs)(hb:base'<=base):w.ownsRow base' e size v n xs:=by
 refine⟨h.1,?_⟩;rcases h.2 with h0|⟨g,cap,cur,hv,hg,r⟩
 ·exact .inl h0
 ·exact .inr ⟨g,cap,cur,hv,B4 hb hg,r⟩
theorem Af(h:w.ownsRow base e size v n xs)(hb:b<base):some b≠v.ownBlock:=λe=>by
 have:=(h.lt b e.symm).1;omega
theorem Ih{b c:World}(h:a.grownBy b r)(hown:b.ownsRow base e size v n xs)(hg:b.grownBy c v.ownBlock)(hk:a.heap.size<=base):a.grownBy c r :=
 ⟨hg.os.trans h.os,hg.tape.trans h.tape,hg.output.trans h.output,B4 h.size hg.size,λi hi hr=>(hg.block i (A1 hi h.size) (Af hown (by omega))).trans (h.block i hi hr)⟩
theorem N3.own(h:N3 w g o ss)(hown:w.ownsRow base e size u n xs)(hg:w.grownBy w' u.ownBlock)(hk:g<base):N3 w' g o ss :=
 λi s hs=>hg.cell (h i s hs) (Af hown hk)
theorem N3.drew(h:N3 w g o ss):N3 w.drew g o ss:=h
theorem Rg(h:w.ownsRow base e size v n xs):w.drew.ownsRow base e size v n xs:=h
theorem N3.drop(h:N3 w g o ss)(k:Nat):N3 w g (o+k) (ss.drop k):=λi s hs=>by
 rw[List.getElem?_drop] at hs;rw[Nat.add_assoc];exact h (k+i) s hs
theorem N3.take(h:N3 w g o ss)(k:Nat):N3 w g o (ss.take k):=λi s hs=>by
 rw[List.getElem?_take] at hs;split at hs
 ·exact h i s hs
 ·cases hs
def GL(w:World)(v:Value)(ss:List ByteArray):Prop:=∃g c,v=.slice (some ⟨g,0,none⟩) ss.length c/\N3 w g 0 ss/\g<w.heap.size/\ss.length<=c/\c<=maxLen
theorem GL.up(h:GL w v ss)(hb:Up w w'):GL w' v ss:=by
 obtain⟨g,c,rfl,hS,hg,r⟩:=h;exact⟨g,c,rfl,λi s hs=>(hb.cell (p:=⟨g,0+i,none⟩) hg).trans (hS i s hs),A1 hg hb.size,r⟩
theorem GL.own(h:w.ownsRow base e 1 v n (ss.map Value.string))(hn:ss.length=n)(hv:∃g c,v=.slice (some ⟨g,0,none⟩) n c):GL w v ss:=by
 obtain⟨g,c,rfl⟩:=hv;refine⟨g,c,by rw[hn],Tv h hn,(h.lt g rfl).2,?_,?_⟩
 ·rcases h.2 with⟨h0,_⟩|⟨g',cap',cur,h',_,_,hc,_⟩
  ·cases h0
  ·cases h';omega
 ·rcases h.2 with⟨h0,_⟩|⟨g',cap',cur,h',_,_,_,hc,_⟩
  ·cases h0
  ·cases h';exact hc
theorem O6{W':World}(h:Up w W)(hown:W.ownsRow base e size v n xs)(hg:W.grownBy W' v.ownBlock)(hk:w.heap.size<=base):Up w W' :=
 {os:=hg.os.trans h.os,tape:=hg.tape.trans h.tape,output:=hg.output.trans h.output,size:=B4 h.size hg.size,block:=λi hi=>(hg.block i (A1 hi h.size) (Af hown (by omega))).trans (h.block i hi)}
theorem BZ(w:World)(s:ByteArray)(t:TypeId):∀(j:Nat)(u:Value),[Value.string s][j]?=some u->(w.alloc (.cells #[.string s] t)).cell? ((⟨w.heap.size,0,none⟩:Addr).add j)=some u:=λj u hj=>by
 match j,hj with
 | 0,hj=>simp at hj;subst hj;simp[Addr.add]
theorem Uo(h:At w b 0 (.string s)):∀(j:Nat)(u:Value),[Value.string s][j]?=some u->w.cell? ((⟨b,0,none⟩:Addr).add j)=some u:=λj u hj=>by
 match j,hj with
 | 0,hj=>simp at hj;subst hj;rw[Addr.add_mid];exact h
theorem Gk(s:ByteArray):∀u∈[Value.string s],u.oneCell'=true:=λu hu=>by simp at hu;subst hu;rfl
def LJ(w:World)(v:Value)(ss:List ByteArray):Prop:=(v=.slice none 0 0/\ss=[])∨GL w v ss
theorem LJ.up(h:LJ w v ss)(hb:Up w w'):LJ w' v ss:=by
 rcases h with h|h
 ·exact .inl h
 ·exact .inr (h.up hb)
theorem LJ.shape(h:LJ w v ss):∃a c,v=.slice a ss.length c:=by
 rcases h with⟨rfl,rfl⟩|⟨g,c,rfl,_⟩
 ·exact⟨none,0,rfl⟩
 ·exact⟨_,_,rfl⟩
def G3(w:World)(base:Nat)(u:Value)(ss:List ByteArray):Prop:=w.ownsRow base 9 1 u ss.length (ss.map Value.string)
theorem G3.lst(h:G3 w base u ss):LJ w u ss:=by
 rcases h.2 with⟨h0,h1⟩|⟨g,cap,cur,hv,_⟩
 ·exact .inl ⟨h0,C5.1 h1⟩
 ·exact .inr (GL.own h rfl ⟨g,cap,hv⟩)
theorem Md{b:World}(h:Up w a)(hg:a.grownBy b (some x))(hx:w.heap.size<=x):Up w b :=
 {os:=hg.os.trans h.os,tape:=hg.tape.trans h.tape,output:=hg.output.trans h.output,size:=B4 h.size hg.size,block:=λi hi=>(hg.block i (A1 hi h.size) (by simp;omega)).trans (h.block i hi)}
theorem LJ.lt(h:LJ w v ss):∀g,v.ownBlock=some g->g<w.heap.size:=by
 intro g hg;rcases h with⟨rfl,_⟩|⟨g',c,rfl,_,hlt,_⟩
 ·simp[Value.ownBlock] at hg
 ·simp[Value.ownBlock] at hg;omega
theorem G3.up(h:G3 w base u ss)(hb:Up w w'):G3 w' base u ss:=P0 h hb
theorem N0{b:World}(h:Below B a b)(n:Nat):Below B a (b.drewN n):={os:=h.os,tape:=h.tape,output:=h.output,size:=h.size,block:=h.block}
end Go.Proofs.YtcgkgmmclfeohaaGreatDoor
namespace Go.Proofs.YtcgkgmmclfeohaaGreatDoor
open Go.Proofs.Tryz
variable{ac:Act}{ops:Array Oper}{tmps:Array Value}{s:ByteArray}{all g' gone l order ss ss' tg:List ByteArray}{rest:List Oper}{cs xs ys:List Value}{B b base c e g i j k m n o off pb rb rk size x:Nat}{r:Option Nat}{P:Program}{T:TypeId}{u v x0 x1 x2 y0 y1:Value}{W Z a w w' w1:World}
structure Ba where
 nm:ByteArray
 has:List ByteArray
 nd:List ByteArray
structure Bk where
 tg:List ByteArray
 bs:List Ba
noncomputable def pB(p:Prop):Bool:=@decide p (Classical.propDecidable p)
theorem Au{p:Prop}(h:p):pB p=true:=by unfold pB;simp[h]
theorem AL{p:Prop}(h:¬p):pB p=false:=by unfold pB;simp[h]
theorem U9{p:Prop}:pB p=true↔p:=by unfold pB;simp
theorem Cc{p:Prop}:pB p=false↔¬p:=by unfold pB;simp
def Z9(a b:ByteArray):Bool:=Op.bytesLess a.toList b.toList
def D7(l:List ByteArray)(s:ByteArray):Bool:=l.any λx=>x.toList==s.toList
def P3(a b:List ByteArray):Bool:=a.any λs=>D7 b s
theorem GM{a b:ByteArray}(h:a.toList=b.toList):a=b:=by
 rw[Go.ByteArray.toList_eq,Go.ByteArray.toList_eq] at h;cases a;cases b;simp at h;rw[h]
theorem S0(l:List ByteArray)(s:ByteArray):D7 l s=true↔s∈l:=by
 simp only[D7,List.any_eq_true,beq_iff_eq];constructor
 ·rintro⟨x,hx,h⟩;rwa [← GM h]
 ·exact λh=>⟨s,h,rfl⟩
theorem Av(l:List ByteArray)(s:ByteArray):D7 l s=false↔s∉l:=by rw[← S0];simp
theorem Gs(a b:List ByteArray):P3 a b=true↔∃s,s∈a/\s∈b:=by
 simp only[P3,List.any_eq_true,S0]
theorem S9(a b:List ByteArray):P3 a b=false↔∀s,s∈a->s∉b:=by
 rw[← Bool.not_eq_true,Gs];simp
theorem FU(hk:k<l.length)(h:D7 (l.take k) s=false)(hq:((l[k]).toList==s.toList)=false):D7 (l.take (k+1)) s=false:=by
 rw[A7 hk,D7,List.any_append];rw[D7] at h;simp[h,hq]
theorem Gt(hk:k<l.length)(hq:((l[k]).toList==s.toList)=true):D7 l s=true:=by
 rw[D7,List.any_eq_true];exact⟨l[k],List.getElem_mem hk,hq⟩
theorem GN(hk:¬k<l.length)(h:D7 (l.take k) s=false):D7 l s=false:=by
 rwa [D1 (by omega)] at h
theorem Tw{a b:List ByteArray}(hk:k<a.length)(h:P3 (a.take k) b=false)(hq:D7 b a[k]=false):P3 (a.take (k+1)) b=false:=by
 rw[A7 hk,P3,List.any_append];rw[P3] at h;simp[h,hq]
theorem Rh{a b:List ByteArray}(hk:k<a.length)(hq:D7 b a[k]=true):P3 a b=true:=by
 rw[P3,List.any_eq_true];exact⟨a[k],List.getElem_mem hk,hq⟩
theorem VI{a b:List ByteArray}(hk:¬k<a.length)(h:P3 (a.take k) b=false):P3 a b=false:=by
 rwa [D1 (by omega)] at h
def Ao(l:List ByteArray)(k:Nat):Prop:=∀(i:Nat)(a b:ByteArray),i+1<k->l[i]?=some a->l[i+1]?=some b->Z9 a b=true
def Aw(l:List ByteArray)(k:Nat):Prop:=∀(i:Nat)(a:ByteArray),i<k->l[i]?=some a->U0 a=true
def BP(l all:List ByteArray)(k:Nat):Prop:=∀(i:Nat)(a:ByteArray),i<k->l[i]?=some a->D7 all a=true
def AM(l:List ByteArray):Prop:=Ao l l.length
def Dq(l:List ByteArray):Prop:=Aw l l.length
def Og(l all:List ByteArray):Prop:=BP l all l.length
def J3(l all:List ByteArray):Prop:=Og l all/\AM l
def CP(l:List ByteArray):Prop:=l.length<=8/\Dq l/\AM l
theorem Ao.zero(l:List ByteArray):Ao l 0:=λi _ _ h=>by omega
theorem Ao.one(l:List ByteArray):Ao l 1:=λi _ _ h=>by omega
theorem Aw.zero(l:List ByteArray):Aw l 0:=λi _ h=>by omega
theorem BP.zero(l all:List ByteArray):BP l all 0:=λi _ h=>by omega
theorem Ao.step(h:Ao l (k+1))(hk:k+1<l.length)(hl:Z9 l[k] l[k+1]=true):Ao l (k+2):=λi a b hi ha hb=>by
 by_cases e:i=k
 ·subst e;rw[A0 (by omega)] at ha hb;obtain rfl:=A5 ha;obtain rfl:=A5 hb;exact hl
 ·exact h i a b (by omega) ha hb
theorem Aw.step(h:Aw l k)(hk:k<l.length)(hl:U0 l[k]=true):Aw l (k+1):=λi a hi ha=>by
 by_cases e:i=k
 ·subst e;rw[A0 hk] at ha;obtain rfl:=A5 ha;exact hl
 ·exact h i a (by omega) ha
theorem BP.step(h:BP l all k)(hk:k<l.length)(hl:D7 all l[k]=true):BP l all (k+1):=λi a hi ha=>by
 by_cases e:i=k
 ·subst e;rw[A0 hk] at ha;obtain rfl:=A5 ha;exact hl
 ·exact h i a (by omega) ha
theorem Lc(h:Ao l k)(hk:¬k<l.length):AM l:=λi a b hi ha hb=>h i a b (by omega) ha hb
theorem Kk(h:Aw l k)(hk:¬k<l.length):Dq l:=λi a hi ha=>h i a (by omega) ha
theorem Ri(h:BP l all k)(hk:¬k<l.length):Og l all:=λi a hi ha=>h i a (by omega) ha
theorem Rj(h:AM l)(hk:k+1<l.length):Z9 l[k] l[k+1]=true:=h k _ _ hk (by rw[A0]) (by rw[A0])
theorem Me(h:Dq l)(hk:k<l.length):U0 l[k]=true:=h k _ hk (by rw[A0])
theorem Oh(h:Og l all)(hk:k<l.length):D7 all l[k]=true:=h k _ hk (by rw[A0])
theorem XI(h:Dq l)(hs:s∈l):U0 s=true:=by
 obtain⟨i,hi,rfl⟩:=B7 hs;exact Me h hi
theorem GO(h:Og l all)(hs:s∈l):s∈all:=by
 obtain⟨i,hi,rfl⟩:=B7 hs;exact (S0 _ _).1 (Oh h hi)
def GP(tg:List ByteArray)(x:Ba):Prop:=J3 x.nd tg/\J3 x.has x.nd
def Bu(tg:List ByteArray)(bs:List Ba)(k:Nat):Prop:=∀(i:Nat)(x:Ba),i<k->bs[i]?=some x->GP tg x
def Z2(bs:List Ba)(n m:Nat):Prop:=∀(i j:Nat)(x y:Ba),j<i->(i<n∨i=n/\j<m)->bs[i]?=some x->bs[j]?=some y->P3 x.has y.has=false
def I3(bs:List Ba):List ByteArray:=bs.map (·.nm)
def CQ(bs:List Ba):Prop:=Z2 bs bs.length 0
def I8(b:Bk):Prop:=CP b.tg/\b.bs.length<=5/\Dq (I3 b.bs)/\AM (I3 b.bs)/\Bu b.tg b.bs b.bs.length/\CQ b.bs
noncomputable def J6(b:Bk):Bool:=pB (I8 b)
theorem N7(bs:List Ba):(I3 bs).length=bs.length:=by simp[I3]
theorem CE(bs:List Ba)(k:Nat)(hk:k<bs.length):(I3 bs)[k]'(by rw[N7];exact hk)=(bs[k]).nm:=by simp[I3]
theorem Rk(bs:List Ba)(k:Nat):I3 (bs.take k)=(I3 bs).take k:=by simp[I3]
theorem Bu.zero(tg:List ByteArray)(bs:List Ba):Bu tg bs 0:=λi _ h=>by omega
theorem Bu.step{bs:List Ba}(h:Bu tg bs k)(hk:k<bs.length)(hl:GP tg bs[k]):Bu tg bs (k+1):=λi a hi ha=>by
 by_cases e:i=k
 ·subst e;rw[A0 hk] at ha;obtain rfl:=A5 ha;exact hl
 ·exact h i a (by omega) ha
theorem Bu.at{bs:List Ba}(h:Bu tg bs n)(hn:k<n)(hk:k<bs.length):GP tg bs[k]:=h k _ hn (by rw[A0])
theorem Uq{bs:List Ba}(h:Bu tg bs k)(hk:¬k<bs.length):Bu tg bs bs.length:=λi a hi ha=>h i a (by omega) ha
theorem Z2.zero(bs:List Ba):Z2 bs 0 0:=λi j _ _ _ h=>by omega
theorem Z2.step{bs:List Ba}(h:Z2 bs n m)(hn:n<bs.length)(hm:m<n)(hq:P3 (bs[n]).has (bs[m]).has=false):Z2 bs n (m+1):=λi j x y hji hi hx hy=>by
 by_cases e:i=n/\j=m
 ·obtain⟨rfl,rfl⟩:=e;rw[A0 (by omega)] at hx hy;obtain rfl:=A5 hx;obtain rfl:=A5 hy;exact hq
 ·exact h i j x y hji (by omega) hx hy
theorem Z2.next{bs:List Ba}(h:Z2 bs n m)(hm:¬m<n):Z2 bs (n+1) 0:=λi j x y hji hi hx hy=>h i j x y hji (by omega) hx hy
theorem XJ{bs:List Ba}(h:Z2 bs n 0)(hn:¬n<bs.length):CQ bs:=λi j x y hji hi hx hy=>h i j x y hji (by
 have:=(A2.1 hx).1;omega) hx hy
theorem CQ.at{bs:List Ba}(h:CQ bs)(hn:n<bs.length)(hm:m<n):P3 (bs[n]).has (bs[m]).has=false:=h n m _ _ hm (by omega) (by rw[A0]) (by rw[A0])
def Ei(bs:List Ba)(s:ByteArray):ByteArray:=((bs.find? λx=>D7 x.has s).map (·.nm)).getD ⟨#[]⟩
noncomputable def Kl(b:Bk)(s:ByteArray):ByteArray:=if J6 b=true then Ei b.bs s else ⟨#[]⟩
def GQ(bs:List Ba)(s:ByteArray)(k:Nat):Prop:=∀(i:Nat)(x:Ba),i<k->bs[i]?=some x->D7 x.has s=false
theorem GQ.zero(bs:List Ba)(s:ByteArray):GQ bs s 0:=λi _ h=>by omega
theorem GQ.step{bs:List Ba}(h:GQ bs s k)(hk:k<bs.length)(hl:D7 (bs[k]).has s=false):GQ bs s (k+1):=λi a hi ha=>by
 by_cases e:i=k
 ·subst e;rw[A0 hk] at ha;obtain rfl:=A5 ha;exact hl
 ·exact h i a (by omega) ha
theorem Ur{bs:List Ba}(hk:k<bs.length)(h:GQ bs s k)(hl:D7 (bs[k]).has s=true):Ei bs s=(bs[k]).nm:=by
 have:bs.find? (λx=>D7 x.has s)=some bs[k]:=by
  rw[List.find?_eq_some_iff_getElem];exact⟨hl,k,hk,rfl,λj hj=>by rw[h j _ hj (by rw[A0 (by omega)])];rfl⟩
 rw[Ei,this];rfl
theorem XK{bs:List Ba}(hk:¬k<bs.length)(h:GQ bs s k):Ei bs s=⟨#[]⟩:=by
 have:bs.find? (λx=>D7 x.has s)=none:=by
  rw[List.find?_eq_none];intro x hx;obtain⟨i,hi,rfl⟩:=B7 hx;rw[h i _ (by omega) (by rw[A0])];simp
 rw[Ei,this];rfl
def BK(l:List ByteArray)(s:ByteArray):Int:=if D7 l s=true then (l.findIdx λx=>x.toList==s.toList:Nat) else -1
theorem Gu(hk:k<l.length)(h:D7 (l.take k) s=false)(hq:((l[k]).toList==s.toList)=true):BK l s=(k:Int):=by
 have hf:l.findIdx (λx=>x.toList==s.toList)=k:=by
  rw[List.findIdx_eq hk];refine⟨hq,λj hj=>?_⟩;rw[D7,List.any_eq_false] at h;have:=h (l[j]) (by rw[List.mem_take_iff_getElem];exact⟨j,by omega,rfl⟩);simpa using this
 rw[BK,if_pos (Gt hk hq),hf]
theorem Cd(h:D7 l s=false):BK l s=-1:=by rw[BK,h];simp
theorem Mf(l:List ByteArray)(s:ByteArray):decide (0<=BK l s)=D7 l s:=by
 cases h:D7 l s
 ·rw[Cd h];rfl
 ·rw[BK,if_pos h];simp
theorem Jk(a b:List UInt8):(a==b)=(b==a):=by
 rw[Bool.eq_iff_iff,beq_iff_eq,beq_iff_eq];exact eq_comm
end Go.Proofs.YtcgkgmmclfeohaaGreatDoor
namespace Go.Proofs.YtcgkgmmclfeohaaGreatDoor
open Go.Proofs.Tryz
open Go.RowKit
variable{ac:Act}{ops:Array Oper}{tmps:Array Value}{s:ByteArray}{all g' gone l order ss ss' tg:List ByteArray}{rest:List Oper}{cs xs ys:List Value}{B b base c e g i j k m n o off pb rb rk size x:Nat}{r:Option Nat}{P:Program}{T:TypeId}{u v x0 x1 x2 y0 y1:Value}{W Z a w w' w1:World}
def Ls(w:World)(v:Value)(ss:List ByteArray):Prop :=
 ∃a c,v=.slice a ss.length c/\ss.length<=maxLen/\(∀s∈ss,s.size<=maxLen)/\(0<ss.length->∃b o,a=some ⟨b,o,none⟩/\N3 w b o ss/\b<w.heap.size)
theorem N3.up(h:N3 w g o ss)(hb:Up w w')(hg:g<w.heap.size):N3 w' g o ss :=
 λi s hs=>(hb.cell (p:=⟨g,o+i,none⟩) hg).trans (h i s hs)
theorem N3.cell(h:N3 w g o ss)(hk:k<ss.length):At w g (o+k) (.string ss[k]):=h k _ (by rw[A0])
theorem Ls.up(h:Ls w v ss)(hb:Up w w'):Ls w' v ss:=by
 obtain⟨a,c,rfl,h1,h2,h3⟩:=h;refine⟨a,c,rfl,h1,h2,λhp=>?_⟩;obtain⟨b,o,rfl,hS,a0⟩:=h3 hp;exact⟨b,o,rfl,hS.up hb a0,A1 a0 hb.size⟩
theorem Ls.inv{a:Option Addr}(h:Ls w (.slice a n c) ss):ss.length<=maxLen/\(∀s∈ss,s.size<=maxLen)/\(0<ss.length->∃b o,a=some ⟨b,o,none⟩/\N3 w b o ss/\b<w.heap.size):=by
 obtain⟨a',c',e,h1⟩:=h;obtain⟨rfl,-,rfl⟩:=Value.slice.inj e;exact h1
theorem Ls.drew(h:Ls w v ss):Ls w.drew v ss:=h
theorem Ls.drewN(h:Ls w v ss):Ls (w.drewN n) v ss:=h
theorem Ls.take{a:Option Addr}(h:Ls w (.slice a ss.length c) ss)(hk:k<=ss.length)(c':Nat):Ls w (.slice a k c') (ss.take k):=by
 obtain⟨a',c',e,h1,h2,h3⟩:=h;obtain⟨rfl,-,rfl⟩:=Value.slice.inj e;have hl:(ss.take k).length=k:=by rw[B8];omega
 refine⟨a,_,by rw[hl],by rw[hl];omega,λs hs=>h2 s (List.mem_of_mem_take hs),λhp=>?_⟩;obtain⟨b,o,rfl,hS,a0⟩:=h3 (by omega);exact⟨b,o,rfl,hS.take k,a0⟩
theorem Ls.nil(w:World)(a:Option Addr)(c:Nat):Ls w (.slice a 0 c) []:=⟨a,c,rfl,by simp,λs hs=>by simp at hs,λh=>by simp at h⟩
theorem LJ.ls(h:LJ w v ss)(hz:∀s∈ss,s.size<=maxLen):Ls w v ss:=by
 rcases h with⟨rfl,rfl⟩|⟨g,c,rfl,hS,hg,h1,h2⟩
 ·exact Ls.nil _ _ _
 ·exact⟨_,c,rfl,by omega,hz,λ_=>⟨g,0,rfl,hS,hg⟩⟩
def Jl(w:World)(b o:Nat)(x:Ba):Prop:=∃hv nv,w.rangeAt b o [.string x.nm,hv,nv]/\Ls w hv x.has/\Ls w nv x.nd/\x.nm.size<=maxLen
theorem Jl.up{x:Ba}(h:Jl w b o x)(hb:Up w w')(hlt:b<w.heap.size):Jl w' b o x:=by
 obtain⟨hv,nv,hr,h1,h2,h3⟩:=h;exact⟨hv,nv,λj v hv=>(hb.cell (p:=⟨b,o+j,none⟩) hlt).trans (hr j v hv),h1.up hb,h2.up hb,h3⟩
def Jm(w:World)(b o:Nat)(bs:List Ba):Prop:=∀(i:Nat)(x:Ba),bs[i]?=some x->Jl w b (o+i*3) x
theorem Jm.up{bs:List Ba}(h:Jm w b o bs)(hb:Up w w')(hlt:b<w.heap.size):Jm w' b o bs:=λi x hx=>(h i x hx).up hb hlt
theorem Jm.at{bs:List Ba}(h:Jm w b o bs)(hk:k<bs.length):Jl w b (o+k*3) bs[k]:=h k _ (by rw[A0])
theorem Jl.cells{x:Ba}(h:Jl w b o x):∃a1 c1 a2 c2,At w b o (.string x.nm)/\At w b (o+1) (.slice a1 x.has.length c1)/\At w b (o+2) (.slice a2 x.nd.length c2)/\
  Ls w (.slice a1 x.has.length c1) x.has/\Ls w (.slice a2 x.nd.length c2) x.nd/\x.nm.size<=maxLen:=by
 obtain⟨hv,nv,hr,h1,h2,h3⟩:=h;obtain⟨a1,c1,rfl,-⟩:=id h1;obtain⟨a2,c2,rfl,-⟩:=id h2;exact⟨a1,c1,a2,c2,hr 0 _ rfl,hr 1 _ rfl,hr 2 _ rfl,h1,h2,h3⟩
def Bs(w:World)(v:Value)(bs:List Ba):Prop:=∃a c,v=.slice a bs.length c/\bs.length<=maxLen/\(0<bs.length->∃b o,a=some ⟨b,o,none⟩/\Jm w b o bs/\b<w.heap.size)
theorem Bs.up{bs:List Ba}(h:Bs w v bs)(hb:Up w w'):Bs w' v bs:=by
 obtain⟨a,c,rfl,h1,h3⟩:=h;refine⟨a,c,rfl,h1,λhp=>?_⟩;obtain⟨b,o,rfl,hS,a0⟩:=h3 hp;exact⟨b,o,rfl,hS.up hb a0,A1 a0 hb.size⟩
theorem Bs.drew{bs:List Ba}(h:Bs w v bs):Bs w.drew v bs:=h
def K6(w:World)(v:Value)(b:Bk):Prop:=∃tv bv,v=.agg #[tv,bv]/\Ls w tv b.tg/\Bs w bv b.bs
theorem K6.up{b:Bk}(h:K6 w v b)(hb:Up w w'):K6 w' v b:=by
 obtain⟨tv,bv,rfl,h1,h2⟩:=h;exact⟨tv,bv,rfl,h1.up hb,h2.up hb⟩
theorem K6.drew{b:Bk}(h:K6 w v b):K6 w.drew v b:=h
theorem K6.parts{b:Bk}(h:K6 w v b):∃a1 c1 a2 c2,v=.agg #[.slice a1 b.tg.length c1,.slice a2 b.bs.length c2]/\Ls w (.slice a1 b.tg.length c1) b.tg/\Bs w (.slice a2 b.bs.length c2) b.bs:=by
 obtain⟨tv,bv,rfl,h1,h2⟩:=h;obtain⟨a1,c1,rfl,-⟩:=id h1;obtain⟨a2,c2,rfl,-⟩:=id h2;exact⟨a1,c1,a2,c2,rfl,h1,h2⟩
theorem CB.c2'(h:CB w b [x0,x1]):At w b 0 x0/\At w b 1 x1:=h.c2.1
theorem Bs.at{a:Option Addr}{bs:List Ba}(h:Bs w (.slice a n c) bs):bs.length<=maxLen/\(0<bs.length->∃b o,a=some ⟨b,o,none⟩/\Jm w b o bs/\b<w.heap.size):=by
 obtain⟨a',c',e,h1⟩:=h;obtain⟨rfl,-,rfl⟩:=Value.slice.inj e;exact h1
theorem Mg(n:Nat)(w:World):
  Calls prog 67 #[.int .i32 n] w λe w'=>e=.returned (.bool (Gq n))/\w'=w:=by
 go_in;go_wp2
 all_goals
  go_ret;exact⟨J5 (by rw[Bool.eq_iff_iff,Lb];simp;omega),rfl⟩
end Go.Proofs.YtcgkgmmclfeohaaGreatDoor
namespace Go.Proofs.YtcgkgmmclfeohaaGreatDoor
open Go.Proofs.Tryz
open Go.Maps
variable{ac:Act}{ops:Array Oper}{tmps:Array Value}{s:ByteArray}{all g' gone l order ss ss' tg:List ByteArray}{rest:List Oper}{cs xs ys:List Value}{B b base c e g i j k m n o off pb rb rk size x:Nat}{r:Option Nat}{P:Program}{T:TypeId}{u v x0 x1 x2 y0 y1:Value}{W Z a w w' w1:World}
theorem AbO:∀(x y:List UInt8),Op.bytesLess x y=decide (x<y)
 | [],[]=>by simp[Op.bytesLess]
 | _::_,[]=>by simp[Op.bytesLess]
 | [],_::_=>by simp[Op.bytesLess]
 | a::x,b::y=>by
  rw[Op.bytesLess,AbO x y];simp only[List.cons_lt_cons_iff];by_cases h1:a<b<;>by_cases h2:a=b<;>by_cases h3:x<y<;>simp[h1,h2,h3]
theorem DT(a b:ByteArray):Z9 a b=true↔a.toList<b.toList:=by rw[Z9,AbO];simp
theorem FV{a b c:ByteArray}(h:Z9 a b=true)(k:Z9 b c=true):Z9 a c=true:=by
 rw[DT] at *;exact List.lt_trans h k
theorem DU(a:ByteArray):Z9 a a=false:=by
 rw[← Bool.not_eq_true,DT];exact List.lt_irrefl _
theorem El{l:List ByteArray}(h:AM l):∀(d i:Nat)(a b:ByteArray),l[i]?=some a->l[i+1+d]?=some b->Z9 a b=true
 | 0,i,a,b,ha,hb=>h i a b (A2.1 hb).1 ha hb
 | d+1,i,a,b,ha,hb=>by
  have hl:i+1+(d+1)<l.length:=(A2.1 hb).1;have hm:l[i+1]?=some l[i+1]:=A0 (by omega);exact FV (h i a _ (by omega) ha hm) (El h d (i+1) _ b hm (by rw[show i+1+1+d=i+1+(d+1) by omega];exact hb))
theorem IL(h:AM l){a:ByteArray}(hi:l[i]?=some a)(hj:l[j]?=some a):i=j:=by
 rcases Nat.lt_trichotomy i j with h1|h1|h1
 ·have:=El h (j-i-1) i a a hi (by rw[show i+1+(j-i-1)=j by omega];exact hj);rw[DU] at this;cases this
 ·exact h1
 ·have:=El h (i-j-1) j a a hj (by rw[show j+1+(i-j-1)=i by omega];exact hi);rw[DU] at this;cases this
theorem Fp:∀(l m:List ByteArray),(∀(i j:Nat)(a:ByteArray),l[i]?=some a->l[j]?=some a->i=j)->(∀s∈l,s∈m)->l.length<=m.length
 | [],m,_,_=>by simp
 | x::r,m,hd,hs=>by
  have hx:x∈m:=hs x (by simp);obtain⟨m1,m2,rfl⟩:=List.append_of_mem hx
  have:=Fp r (m1++m2) (λi j a hi hj=>by
   have:=hd (i+1) (j+1) a (by simpa using hi) (by simpa using hj);omega) (λs h=>by
   have h1:=hs s (by simp[h]);rcases C9.1 h1 with h2|h2
   ·simp[h2]
   ·rcases List.mem_cons.1 h2 with h3|h3
    ·subst h3;obtain⟨i,hi,e⟩:=B7 h;have:=hd 0 (i+1) s (by simp) (by simp[A0 hi,e]);omega
    ·simp[h3])
  simp at this ⊢;omega
theorem Ac(h:J3 l all):l.length<=all.length:=Fp l all (λ_ _ _ hi hj=>IL h.2 hi hj) (λ_ hs=>GO h.1 hs)
def kl(s:ByteArray):Lit:=.string s.data.toList
theorem AeA{a b:ByteArray}(h:kl a=kl b):a=b:=by
 simp only[kl,Lit.string.injEq] at h;cases a;cases b;simp at h;rw[h]
theorem XL(s:ByteArray):WideAt.IsKeyLit (kl s):=trivial
def CA(bs:List Ba)(k m:Nat)(s:ByteArray)(i:Nat):Prop:=∃x,bs[i]?=some x/\(i<k/\s∈x.has∨i=k/\s∈x.has.take m)
def Z6(D:DataW Unit)(bs:List Ba)(k m:Nat):Prop:=IsMap D/\(∀s,Maps.has D (kl s)=true->∃i,CA bs k m s i)/\(∀s i,CA bs k m s i->Maps.has D (kl s)=true/\∀z,D.atKey (kl s) z=.lit (.int .i64 (i:Int)))
theorem Z6.start(bs:List Ba):Z6 (.map []) bs 0 0:=by
 refine⟨isMap_empty,λs h=>by simp[Maps.has] at h,λs i h=>?_⟩;obtain⟨x,_,h|h⟩:=h
 ·omega
 ·simp at h
theorem CA.up{bs:List Ba}(h:CA bs k m s i):CA bs k (m+1) s i:=by
 obtain⟨x,hx,h|⟨h1,h2⟩⟩:=h
 ·exact⟨x,hx,.inl h⟩
 ·refine⟨x,hx,.inr ⟨h1,?_⟩⟩;rw[List.mem_take_iff_getElem] at h2 ⊢
  obtain⟨j,hj,e⟩:=h2;exact⟨j,by omega,e⟩
theorem CA.new{bs:List Ba}(hk:k<bs.length)(hm:m<(bs[k]).has.length):CA bs k (m+1) ((bs[k]).has[m]) k :=
 ⟨bs[k],A0 hk,.inr ⟨rfl,by rw[List.mem_take_iff_getElem];exact⟨m,by omega,rfl⟩⟩⟩
theorem CA.split{bs:List Ba}(hk:k<bs.length)(hm:m<(bs[k]).has.length)(h:CA bs k (m+1) s i):CA bs k m s i∨(i=k/\s=(bs[k]).has[m]):=by
 obtain⟨x,hx,h|⟨rfl,h2⟩⟩:=h
 ·exact .inl ⟨x,hx,.inl h⟩
 ·rw[A0 hk] at hx;obtain rfl:=A5 hx;rw[A7 hm] at h2;rcases C9.1 h2 with h3|h3
  ·exact .inl ⟨_,A0 hk,.inr ⟨rfl,h3⟩⟩
  ·exact .inr ⟨rfl,by simpa using h3⟩
theorem Z6.step{D:DataW Unit}{bs:List Ba}(h:Z6 D bs k m)(hk:k<bs.length)(hm:m<(bs[k]).has.length)(hn:Maps.has D (kl ((bs[k]).has[m]))=false):
  Z6 (D.put (kl ((bs[k]).has[m])) (.lit (.int .i64 (k:Int)))) bs k (m+1):=by
 obtain⟨h1,h2,h3⟩:=h;refine⟨h1.put _ _,λs hs=>?_,λs i hi=>?_⟩
 ·by_cases e:kl s=kl ((bs[k]).has[m])
  ·obtain rfl:=AeA e;exact⟨k,CA.new hk hm⟩
  ·rw[has_put_other e] at hs;obtain⟨i,hi⟩:=h2 s hs;exact⟨i,hi.up⟩
 ·rcases hi.split hk hm with h4|⟨rfl,rfl⟩
  ·have e:kl s≠kl ((bs[k]).has[m]):=λe=>by
    have:=(h3 s i h4).1;rw[e,hn] at this;cases this
   exact⟨by rw[has_put_other e];exact (h3 s i h4).1,λz=>by rw[atKey_put_other e];exact (h3 s i h4).2 z⟩
  ·exact⟨has_put_same h1 (XL _) _,λz=>atKey_put_same h1 (XL _) _ z⟩
theorem CA.next{bs:List Ba}(hk:k<bs.length)(hm:¬m<(bs[k]).has.length):CA bs k m s i↔CA bs (k+1) 0 s i:=by
 constructor
 ·rintro⟨x,hx,h|⟨rfl,h2⟩⟩
  ·exact⟨x,hx,.inl ⟨by omega,h.2⟩⟩
  ·exact⟨x,hx,.inl ⟨by omega,List.mem_of_mem_take h2⟩⟩
 ·rintro⟨x,hx,h|⟨_,h2⟩⟩
  ·by_cases e:i=k
   ·subst e;rw[A0 hk] at hx;obtain rfl:=A5 hx;exact⟨_,A0 hk,.inr ⟨rfl,by rw[D1 (by omega)];exact h.2⟩⟩
   ·exact⟨x,hx,.inl ⟨by omega,h.2⟩⟩
  ·simp at h2
theorem Z6.next{D:DataW Unit}{bs:List Ba}(h:Z6 D bs k m)(hk:k<bs.length)(hm:¬m<(bs[k]).has.length):Z6 D bs (k+1) 0 :=
 ⟨h.1,λs hs=>by obtain⟨i,hi⟩:=h.2.1 s hs;exact⟨i,(CA.next hk hm).1 hi⟩,λs i hi=>h.2.2 s i ((CA.next hk hm).2 hi)⟩
theorem Z6.twice{D:DataW Unit}{bs:List Ba}(h:Z6 D bs k m)(hk:k<bs.length)(hm:m<(bs[k]).has.length)(hd:AM (bs[k]).has)(hn:Maps.has D (kl ((bs[k]).has[m]))=true):¬CQ bs:=λha=>by
 obtain⟨i,x,hx,h4|⟨rfl,h4⟩⟩:=h.2.1 _ hn
 ·have hi:i<bs.length:=(A2.1 hx).1;have:=ha.at hk h4.1;rw[S9] at this;rw[A0 hi] at hx;obtain rfl:=A5 hx;exact this _ (List.getElem_mem hm) h4.2
 ·rw[A0 hk] at hx;obtain rfl:=A5 hx;rw[List.mem_take_iff_getElem] at h4;obtain⟨j,hj,e⟩:=h4;have:=IL hd (i:=j) (j:=m) (A0 (by omega)) (by rw[e];exact A0 hm);omega
theorem Z6.apart{D:DataW Unit}{bs:List Ba}(h:Z6 D bs k 0)(hk:¬k<bs.length):CQ bs:=λi j x y hji hi hx hy=>by
 have li:=(A2.1 hx).1;have lj:=(A2.1 hy).1;rw[S9];intro s h1 h2;have e1:=(h.2.2 s i ⟨x,hx,.inl ⟨by omega,h1⟩⟩).2 .nil;have e2:=(h.2.2 s j ⟨y,hy,.inl ⟨by omega,h2⟩⟩).2 .nil;rw[e1] at e2;simp at e2;omega
theorem Z6.who{D:DataW Unit}{bs:List Ba}(h:Z6 D bs k 0)(hs:Maps.has D (kl s)=true):∃(i:Nat)(hi:i<bs.length),(∀z,D.atKey (kl s) z=.lit (.int .i64 (i:Int)))/\Ei bs s=(bs[i]).nm:=by
 obtain⟨i,hi⟩:=h.2.1 s hs;have hz:=(h.2.2 s i hi).2;obtain⟨x,hx,h4|⟨_,h4⟩⟩:=hi
 ·have li:=(A2.1 hx).1;refine⟨i,li,hz,Ur li (λj y hj hy=>?_) ?_⟩
  ·rw[Av];intro h5;have:=(h.2.2 s j ⟨y,hy,.inl ⟨by omega,h5⟩⟩).2 .nil;rw[hz] at this;simp at this;omega
  ·rw[S0];rw[A0 li] at hx;obtain rfl:=A5 hx;exact h4.2
 ·simp at h4
theorem Z6.whoNone{D:DataW Unit}{bs:List Ba}(h:Z6 D bs k 0)(hk:¬k<bs.length)(hs:Maps.has D (kl s)=false):Ei bs s=⟨#[]⟩ :=
 XK hk λi x hi hx=>by
  rw[Av];intro h5;have:=(h.2.2 s i ⟨x,hx,.inl ⟨hi,h5⟩⟩).1;rw[hs] at this;cases this
end Go.Proofs.YtcgkgmmclfeohaaGreatDoor
namespace Go.Proofs.YtcgkgmmclfeohaaGreatDoor
open Go.Proofs.Tryz
open Go.RowKit
variable{ac:Act}{ops:Array Oper}{tmps:Array Value}{s:ByteArray}{all g' gone l order ss ss' tg:List ByteArray}{rest:List Oper}{cs xs ys:List Value}{B b base c e g i j k m n o off pb rb rk size x:Nat}{r:Option Nat}{P:Program}{T:TypeId}{u v x0 x1 x2 y0 y1:Value}{W Z a w w' w1:World}
theorem Dr(base:Nat)(t ty e:TypeId)(i:TypeInfo)(size:Nat)(ht:P.underlying t=some (.slice e))(hi:P.info? e=some i)
  (v:Value) (n:Nat) (xs:List Value) (hown:w.ownsRow base e size v n xs) (a:Option Addr) (c:Nat):(Builtin.append_ #[t,t] ty #[v,.slice a 0 c]).run P w=.ok v w:=by
 rcases hown.2 with⟨rfl,rfl⟩|⟨g,cap,cur,rfl,_,_,hnc,_⟩
 ·cases a<;>simp[Builtin.append_,run_underlying ht,sizeOf,typeInfo,hi,Builtin.lenOf,Builtin.firstCells,loadCells,loadCellsFrom,Result.andThen]
 ·cases a<;>simp[Builtin.append_,run_underlying ht,sizeOf,typeInfo,hi,Builtin.lenOf,Builtin.firstCells,hnc,storeCells,loadCells,loadCellsFrom,Result.andThen]
theorem Km(w:World){o:Oper}{Q:Exit->Act->World->Prop}(hg:o.guard=none)(s x:Operand)(t:TypeId)(hop:o.op=.call {callee:=.builtin .append,args:=#[s,x],argTypes:=#[t,t]})
  (base:Nat) (e:TypeId) (i:TypeInfo) (size:Nat) (ht:P.underlying t=some (.slice e)) (hi:P.info? e=some i) (v:Value) (n:Nat) (xs:List Value) (hs:ac.eval s=v) (hown:w.ownsRow base e size v n xs) (a:Option Addr) (c:Nat) (hx:ac.eval x=.slice a 0 c)
  (h:wpList P ops Q rest (ac.put o.dst v) w):wpList P ops Q (o::rest) ac w:=by
 refine wpList_plain hg λK hK=>?_;have hr:=Dr (P:=P) base t o.type e i size ht hi v n xs hown a c;unfold Oper.wp;simp[execOp,hop,resolve,invoke,builtin,hs,hx,hr,Result.andThen];exact hK _ _ h
def NN(u:Value):Prop:=∃g n c,u=.slice (some ⟨g,0,none⟩) n c
theorem EG(w:World):G3 (w.alloc (.cells #[] 9)) w.heap.size (.slice (some ⟨w.heap.size,0,none⟩) 0 0) []:=C0 w #[] 0 (A3 _) (by unfold maxLen;omega) rfl
end Go.Proofs.YtcgkgmmclfeohaaGreatDoor
namespace Go.Proofs.YtcgkgmmclfeohaaGreatDoor
open Go.Proofs.Tryz
variable{ac:Act}{ops:Array Oper}{tmps:Array Value}{s:ByteArray}{all g' gone l order ss ss' tg:List ByteArray}{rest:List Oper}{cs xs ys:List Value}{B b base c e g i j k m n o off pb rb rk size x:Nat}{r:Option Nat}{P:Program}{T:TypeId}{u v x0 x1 x2 y0 y1:Value}{W Z a w w' w1:World}
def G4:List ByteArray->(ByteArray->Bool)->Nat
 | [],_=>0
 | t::r,P=>(if P t=true then 1 else 0)+2*G4 r P
theorem MM(P:ByteArray->Bool)(t:ByteArray):∀l:List ByteArray,G4 (l++[t]) P=G4 l P+(if P t=true then 2 ^ l.length else 0)
 | []=>by simp[G4]
 | x::r=>by
  rw[List.cons_append,G4,G4,MM P t r,List.length_cons,Nat.pow_succ];split<;>split<;>omega
theorem Rl(P:ByteArray->Bool):∀l:List ByteArray,G4 l P<2 ^ l.length
 | []=>by simp[G4]
 | x::r=>by
  have:=Rl P r;rw[G4,List.length_cons,Nat.pow_succ];split<;>omega
theorem U6(h:l.length<=8)(P:ByteArray->Bool):G4 l P<256 :=
 A1 (Rl P l) (Nat.pow_le_pow_right (by omega) h)
theorem Em{P Q:ByteArray->Bool}:∀{l:List ByteArray},(∀t∈l,P t=Q t)->G4 l P=G4 l Q
 | [],_=>rfl
 | x::r,h=>by rw[G4,G4,h x (by simp),Em λt ht=>h t (by simp[ht])]
theorem Ii{P Q:ByteArray->Bool}:∀{l:List ByteArray},(∀t∈l,P t=true->Q t=false)->G4 l P+G4 l Q=G4 l λt=>P t || Q t
 | [],_=>rfl
 | x::r,h=>by
  have h1:=Ii (P:=P) (Q:=Q) (l:=r) λt ht=>h t (by simp[ht]);have h2:=h x (by simp);rw[G4,G4,G4,← h1];cases hp:P x<;>cases hq:Q x<;>simp_all<;>omega
theorem XM{P Q:ByteArray->Bool}(h:∀t∈l,Q t=true->P t=true):G4 l P=G4 l Q+G4 l λt=>P t && !Q t:=by
 rw[Ii (λt _ hq=>by simp[hq])];refine Em λt ht=>?_;cases hq:Q t
 ·simp
 ·simp[h t ht hq]
theorem ER(P:ByteArray->Bool):∀(l:List ByteArray)(i:Nat),(G4 l P).testBit i=(l[i]?.map P).getD false
 | [],i=>by simp[G4]
 | x::r,0=>by
  rw[G4,Nat.testBit_zero];have e:((if P x=true then 1 else 0)+2*G4 r P) % 2=(if P x=true then 1 else 0):=by split<;>omega
  rw[e];cases h:P x<;>simp[h]
 | x::r,i+1=>by
  rw[G4,Nat.testBit_succ,List.getElem?_cons_succ,← ER P r i];congr 1
  split<;>omega
theorem XN{P Q:ByteArray->Bool}(hl:l.length<=8):(G4 l P &&& (18446744073709551615-G4 l Q)=0)↔∀t∈l,P t=true->Q t=true:=by
 have hQ:=U6 hl Q;have e:18446744073709551615-G4 l Q=2 ^ 64-(G4 l Q+1):=by omega
 constructor
 ·intro h t ht hp;obtain⟨i,hi,rfl⟩:=B7 ht;have h1:=congrArg (Nat.testBit · i) h;simp only[Nat.testBit_and,Nat.zero_testBit] at h1;rw[e,Nat.testBit_two_pow_sub_succ (by omega),ER,ER,A0 hi] at h1;simp[hp] at h1;exact h1 (by omega)
 ·intro h;refine Nat.eq_of_testBit_eq λi=>?_;rw[Nat.testBit_and,Nat.zero_testBit,e,Nat.testBit_two_pow_sub_succ (by omega),ER,ER];rcases Nat.lt_or_ge i l.length with hi|hi
  ·rw[A0 hi];have:=h l[i] (List.getElem_mem hi);cases hp:P l[i]<;>simp_all
  ·rw[C6 hi];simp
def Ds(bs:List Ba)(at':Nat)(gone:List ByteArray)(k:Nat):Prop:=∀(i:Nat)(x y:Ba),i<k->i≠at'->bs[i]?=some x->bs[at']?=some y->D7 gone x.nm=false->P3 x.has y.nd=false
def ES(bs:List Ba)(at':Nat)(gone:List ByteArray):Prop:=Ds bs at' gone bs.length
theorem Ds.zero(bs:List Ba)(a:Nat)(gone:List ByteArray):Ds bs a gone 0:=λi _ _ h=>by omega
theorem Ac5{bs:List Ba}{a:Nat}(h:Ds bs a gone k)(hk:¬k<bs.length):ES bs a gone:=λi x y hi hne hx hy hm=>h i x y (by omega) hne hx hy hm
theorem Ds.step{bs:List Ba}{a:Nat}(h:Ds bs a gone k)(hk:k<bs.length)(ha:a<bs.length)(h1:k=a∨D7 gone (bs[k]).nm=true∨P3 (bs[k]).has (bs[a]).nd=false):Ds bs a gone (k+1):=λi x y hi hne hx hy hm=>by
 by_cases e:i=k
 ·subst e;rw[A0 hk] at hx;rw[A0 ha] at hy;obtain rfl:=A5 hx;obtain rfl:=A5 hy;rcases h1 with h1|h1|h1
  ·exact absurd h1 hne
  ·rw[hm] at h1;cases h1
  ·exact h1
 ·exact h i x y (by omega) hne hx hy hm
theorem AeB{bs:List Ba}{a:Nat}(hk:k<bs.length)(ha:a<bs.length)(hne:k≠a)(hm:D7 gone (bs[k]).nm=false)(hs:P3 (bs[k]).has (bs[a]).nd=true):¬ES bs a gone:=λh=>by
 have:=h k _ _ hk hne (A0 hk) (A0 ha) hm;rw[hs] at this;cases this
def Qu(bs:List Ba)(G:Nat->Bool)(k:Nat)(t:ByteArray):Bool:=(List.range k).all λi=>G i || !((bs[i]?.map λx=>D7 x.has t).getD false)
theorem Kn(bs:List Ba)(G:Nat->Bool)(k:Nat)(t:ByteArray):Qu bs G k t=true↔∀(i:Nat)(x:Ba),i<k->bs[i]?=some x->G i=false->D7 x.has t=false:=by
 simp only[Qu,List.all_eq_true,List.mem_range];constructor
 ·intro h i x hi hx hg;have:=h i hi;rw[hx,hg] at this;simpa using this
 ·intro h i hi;cases hg:G i
  ·cases hx:bs[i]? with
   | none=>simp
   | some x=>simp[h i x hi hx hg]
  ·rfl
theorem Aag{b:Bk}(hok:I8 b){a:Nat}(ha:a<b.bs.length){G:Nat->Bool}(hG:∀(i:Nat)(hi:i<b.bs.length),G i=D7 gone (b.bs[i]).nm)(hga:G a=false):
  (∀t∈b.tg,D7 (b.bs[a]).nd t=true->(Qu b.bs G b.bs.length t || D7 (b.bs[a]).has t)=true)↔ES b.bs a gone:=by
 have hb:=hok.2.2.2.2.1.at ha ha;constructor
 ·intro h i x y hi hne hx hy hm;rw[A0 hi] at hx;rw[A0 ha] at hy;obtain rfl:=A5 hx;obtain rfl:=A5 hy;rw[S9];intro s h1 h2;have h3:=h s (GO hb.1.1 h2) ((S0 _ _).2 h2);rcases Bool.or_eq_true_iff.1 h3 with h4|h4
  ·have:=(Kn _ _ _ _).1 h4 i _ hi (A0 hi) (by rw[hG i hi];exact hm);rw[Av] at this;exact this h1
  ·have h5:=(S0 _ _).1 h4;rcases Nat.lt_or_gt_of_ne hne with h6|h6
   ·have:=hok.2.2.2.2.2.at ha h6;rw[S9] at this;exact this s h5 h1
   ·have:=hok.2.2.2.2.2.at hi h6;rw[S9] at this;exact this s h1 h5
 ·intro h t ht hn;cases hh:D7 (b.bs[a]).has t
  ·rw[Bool.or_false,Kn];intro i x hi hx hg;rw[A0 hi] at hx;obtain rfl:=A5 hx;by_cases e:i=a
   ·subst e;exact hh
   ·have:=h i _ _ hi e (A0 hi) (A0 ha) (by rw[← hG i hi];exact hg);rw[S9] at this;rw[Av];exact λh1=>this t h1 ((S0 _ _).1 hn)
  ·simp
def FW(bs:List Ba)(order:List ByteArray)(k:Nat):Prop:=∀(i:Nat)(s:ByteArray),i<k->order[i]?=some s->0<=BK (I3 bs) s/\D7 (order.take i) s=false/\ES bs (BK (I3 bs) s).toNat (order.take i)
def Ko(b:Bk)(order:List ByteArray):Prop:=I8 b/\order.length=b.bs.length/\FW b.bs order order.length
theorem FW.zero(bs:List Ba)(order:List ByteArray):FW bs order 0:=λi _ h=>by omega
theorem FW.step{bs:List Ba}(h:FW bs order k)(hk:k<order.length)(h1:0<=BK (I3 bs) order[k]/\D7 (order.take k) order[k]=false/\ES bs (BK (I3 bs) order[k]).toNat (order.take k)):FW bs order (k+1):=λi s hi hs=>by
 by_cases e:i=k
 ·subst e;rw[A0 hk] at hs;obtain rfl:=A5 hs;exact h1
 ·exact h i s (by omega) hs
theorem IM(h:0<=BK l s):∃k:Nat,BK l s=(k:Int)/\∃hk:k<l.length,l[k]=s:=by
 rw[BK] at h ⊢
 split at h
 ·rename_i hm;rw[if_pos hm];refine⟨_,rfl,?_⟩
  have hl:l.findIdx (λx=>x.toList==s.toList)<l.length:=by
   rw[List.findIdx_lt_length];rw[D7,List.any_eq_true] at hm;exact hm
  refine⟨hl,?_⟩;have:=List.findIdx_getElem (w:=hl);exact GM (by simpa using this)
 ·omega
abbrev Tr:=Ba×Bool
def Gl(tg:List ByteArray)(p:Tr):List Value:=[.string p.1.nm,.int .u64 (G4 tg (D7 p.1.has):Nat),.int .u64 (G4 tg (D7 p.1.nd):Nat),.bool p.2]
def AN(tg:List ByteArray):List Tr->List Value
 | []=>[]
 | p::r=>Gl tg p++AN tg r
theorem MN(tg:List ByteArray)(p:Tr):∀ts:List Tr,AN tg (ts++[p])=AN tg ts++Gl tg p
 | []=>by simp[AN]
 | q::r=>by rw[List.cons_append,AN,AN,MN tg p r,List.append_assoc]
theorem FX(tg:List ByteArray):∀(ts:List Tr)(i j:Nat)(p:Tr),ts[i]?=some p->j<4->(AN tg ts)[i*4+j]?=(Gl tg p)[j]?
 | [],i,j,p,h,_=>by simp at h
 | q::r,0,j,p,h,hj=>by
  simp at h;subst h
  rw[AN,List.getElem?_append_left (by simp[Gl];omega)];simp
 | q::r,i+1,j,p,h,hj=>by
  rw[AN,C8 (by simp[Gl];omega)];have e:(i+1)*4+j-(Gl tg q).length=i*4+j:=by simp[Gl];omega
  rw[e];exact FX tg r i j p (by simpa using h) hj
theorem Pn(tg:List ByteArray):∀(ts:List Tr)(i:Nat)(p:Tr),ts[i]?=some p->(AN tg ts).set (i*4+3) (.bool true)=AN tg (ts.set i (p.1,true))
 | [],i,p,h=>by simp at h
 | q::r,0,p,h=>by
  simp at h;subst h
  simp[AN,Gl]
 | q::r,i+1,p,h=>by
  rw[AN,List.set_append_right _ _ (by simp[Gl];omega)];have e:(i+1)*4+3-(Gl tg q).length=i*4+3:=by simp[Gl];omega
  rw[e,Pn tg r i p (by simpa using h)];simp[AN]
def U1(ts:List Tr)(t:ByteArray):Bool:=ts.all λp=>p.2 || !D7 p.1.has t
theorem EH(ts:List Tr)(t:ByteArray):U1 ts t=true↔∀(i:Nat)(p:Tr),ts[i]?=some p->p.2=false->D7 p.1.has t=false:=by
 simp only[U1,List.all_eq_true,Bool.or_eq_true,Bool.not_eq_true'];constructor
 ·intro h i p hp h2;rcases h p (A6 hp) with h3|h3
  ·rw[h2] at h3;cases h3
  ·exact h3
 ·intro h p hp;obtain⟨i,hi,rfl⟩:=B7 hp;cases h2:ts[i].2
  ·exact .inr (h i _ (A0 hi) h2)
  ·exact .inl rfl
theorem Rm{bs:List Ba}{ts:List Tr}(h:ts.map (·.1)=bs)(t:ByteArray):U1 ts t=Qu bs (λi=>(ts[i]?.map (·.2)).getD false) bs.length t:=by
 rw[Bool.eq_iff_iff,EH,Kn];subst h;constructor
 ·intro h i x hi hx hg;rw[B3,B6] at hx;obtain⟨p,hp,rfl⟩:=hx;exact h i p hp (by rw[hp] at hg;simpa using hg)
 ·intro h i p hp h2;exact h i p.1 (by simpa using (A2.1 hp).1) (by rw[B3,hp];rfl) (by rw[hp];simpa using h2)
theorem VJ(ts:List Tr)(p:Tr)(t:ByteArray):U1 (ts++[p]) t=(U1 ts t&&(p.2 || !D7 p.1.has t)):=by simp[U1]
theorem En{bs:List Ba}{ts:List Tr}(h:ts.map (·.1)=bs){p:Tr}(hp:ts[i]?=some p):bs[i]?=some p.1:=by subst h;rw[B3,hp];rfl
theorem XO{bs:List Ba}(ha:CQ bs){ts:List Tr}(hk:k<bs.length)(h:ts.map (·.1)=bs.take k)(tg:List ByteArray):
  G4 tg (U1 ts)=G4 tg (D7 (bs[k]).has)+G4 tg (U1 (ts++[(bs[k],false)])):=by
 rw[XM (P:=U1 ts) (Q:=D7 (bs[k]).has)]
 ·congr 1
  refine Em λt _=>?_;rw[VJ];simp
 ·intro t _ hm;rw[EH];intro i p hp _;have h1:=En h hp;rw[List.getElem?_take] at h1;split at h1
  ·rename_i hi;rw[A0 (by omega)] at h1;obtain h1:=A5 h1;have:=ha.at hk hi;rw[S9] at this;rw[Av,← h1];exact this t ((S0 _ _).1 hm)
  ·cases h1
theorem VK{bs:List Ba}(ha:CQ bs){ts:List Tr}{p:Tr}(h:ts.map (·.1)=bs)(hp:ts[i]?=some p)(hg:p.2=false)(tg:List ByteArray):
  G4 tg (U1 ts)+G4 tg (D7 p.1.has)=G4 tg (U1 (ts.set i (p.1,true))):=by
 have hi:=(A2.1 hp).1;have hb:=En h hp;have a1:i<bs.length:=by rw[← h];simpa using hi
 rw[Ii]
 ·refine Em λt _=>?_;rw[Bool.eq_iff_iff,Bool.or_eq_true,EH,EH];constructor
  ·rintro (h1|h1) j q hq hg2
   ·rw[List.getElem?_set] at hq;split at hq
    ·obtain rfl:=A5 hq;cases hg2
    ·exact h1 j q hq hg2
   ·rw[List.getElem?_set] at hq;split at hq
    ·obtain rfl:=A5 hq;cases hg2
    ·rename_i hne;have a0:=En h hq;have a2:=(A2.1 a0).1;rw[Av];intro h5;have h6:=(S0 _ _).1 h1;rw[A0 a2] at a0;rw[A0 a1] at hb;have a3:=A5 a0;have a4:=A5 hb;rcases Nat.lt_or_gt_of_ne hne with h7|h7
     ·have:=ha.at a2 h7;rw[S9,a3,a4] at this;exact this t h5 h6
     ·have:=ha.at a1 h7;rw[S9,a3,a4] at this;exact this t h6 h5
  ·intro h1;cases hm:D7 p.1.has t
   ·refine .inl λj q hq hg2=>?_;by_cases e:i=j
    ·subst e;rw[hp] at hq;obtain rfl:=A5 hq;exact hm
    ·exact h1 j q (by rw[List.getElem?_set,if_neg e];exact hq) hg2
   ·exact .inr rfl
 ·intro t _ h1;exact (EH _ _).1 h1 i p hp hg
theorem Oi{b:Bk}(hok:I8 b){ts:List Tr}(h:ts.map (·.1)=b.bs)(hG:∀(i:Nat)(p:Tr),ts[i]?=some p->p.2=D7 gone p.1.nm){a:Nat}{p:Tr}(hp:ts[a]?=some p)(hg:p.2=false):
  (G4 b.tg (D7 p.1.nd) &&& (18446744073709551615-(G4 b.tg (U1 ts)+G4 b.tg (D7 p.1.has)))=0)↔ES b.bs a gone:=by
 have hb:=En h hp;have a1:a<b.bs.length:=(A2.1 hb).1;have a2:b.bs[a]=p.1:=by rw[A0 a1] at hb;exact A5 hb
 rw[Ii (λt _ h1=>(EH _ _).1 h1 a p hp hg),XN hok.1.1,
  ← Aag hok a1 (gone:=gone) (G:=λi=>(ts[i]?.map (·.2)).getD false) (λi hi=>?_) (by simp[hp,hg]),a2]
 ·constructor
  ·intro h1 t ht hn;rw[← Rm h];exact h1 t ht hn
  ·intro h1 t ht hn;have:=h1 t ht hn;rwa [← Rm h] at this
 ·have a0:i<ts.length:=by rw[← h] at hi;simpa using hi
  have e:=En h (A0 a0);rw[A0 hi] at e;rw[A0 a0];simp only[Option.map_some,Option.getD_some];rw[hG i _ (A0 a0),A5 e]
def Good(bs:List Ba)(gone:List ByteArray)(k:Nat):Prop:=∃x,bs[k]?=some x/\D7 gone x.nm=false/\ES bs k gone
def Ag(bs:List Ba)(gone:List ByteArray)(n:Int):Prop:=(n=-1/\∀k,k<bs.length->¬Good bs gone k)∨∃k:Nat,n=(k:Int)/\k<bs.length/\Good bs gone k/\∀j,j<k->¬Good bs gone j
theorem Ag.uniq{bs:List Ba}{m n:Int}(h:Ag bs gone m)(h':Ag bs gone n):m=n:=by
 rcases h with⟨rfl,h1⟩|⟨k,rfl,hk,hg,hl⟩<;>rcases h' with⟨rfl,h2⟩|⟨j,rfl,hj,gg,gl⟩
 ·rfl
 ·exact absurd gg (h1 j hj)
 ·exact absurd hg (h2 k hk)
 ·rcases Nat.lt_trichotomy k j with h3|h3|h3
  ·exact absurd hg (gl k h3)
  ·rw[h3]
  ·exact absurd gg (hl j h3)
inductive AD (bs:List Ba):Nat->List ByteArray->Prop
 | none:AD bs 0 []
 | more {n:Nat} {gone:List ByteArray} {k:Nat} {x:Ba}:AD bs n gone->Ag bs gone (k:Int)->bs[k]?=some x->AD bs (n+1) (gone++[x.nm])
theorem AD.length{bs:List Ba}(h:AD bs n gone):gone.length=n:=by
 induction h with
 | none=>rfl
 | more _ _ _ ih=>simp[ih]
theorem AD.uniq{bs:List Ba}{g:List ByteArray}(h:AD bs n g)(h':AD bs n g'):g=g':=by
 induction h generalizing g' with
 | none=>cases h';rfl
 | more h1 h2 h3 ih =>
  cases h' with
  | more k1 k2 k3 =>
   obtain rfl:=ih k1;have e:=h2.uniq k2;obtain rfl:_=_:=Int.ofNat.inj e;rw[h3] at k3;obtain rfl:=A5 k3;rfl
theorem AD.part{bs:List Ba}(h:AD bs n gone):∀m,m<=n->AD bs m (gone.take m):=by
 induction h with
 | none=>intro m hm;obtain rfl:m=0:=(by omega);exact .none
 | @more n gone k x h1 h2 h3 ih =>
  intro m hm;have hl:=h1.length;by_cases e:m=n+1
  ·subst e;rw[D1 (by simp[hl])];exact .more h1 h2 h3
  ·rw[List.take_append_of_le_length (by omega)];exact ih m (by omega)
def Y3(b:Bk)(ss:List ByteArray)(ok:Bool):Prop:=(ok=true/\I8 b/\AD b.bs b.bs.length ss)∨(ok=false/\ss=[]/\(¬I8 b∨∃n gone,n<b.bs.length/\AD b.bs n gone/\Ag b.bs gone (-1)))
theorem Y3.uniq{b:Bk}{ok ok':Bool}(h:Y3 b ss ok)(h':Y3 b ss' ok'):ss=ss'/\ok=ok':=by
 have no:∀{t},I8 b->AD b.bs b.bs.length t->¬(¬I8 b∨∃n a0,n<b.bs.length/\AD b.bs n a0/\Ag b.bs a0 (-1)):=by
  rintro t hb hg (h1|⟨n,a0,hn,h2,h3⟩)
  ·exact h1 hb
  ·have h4:=hg.part (n+1) (by omega);have hl:=hg.length;generalize hq:t.take (n+1)=q at h4;cases h4 with
   | more k1 k2 k3 =>
    obtain rfl:=h2.uniq k1;have:=h3.uniq k2;omega
 rcases h with⟨rfl,h1,h2⟩|⟨rfl,rfl,h2⟩<;>rcases h' with⟨rfl,g1,g2⟩|⟨rfl,rfl,g2⟩
 ·exact⟨h2.uniq g2,rfl⟩
 ·exact absurd g2 (no h1 h2)
 ·exact absurd h2 (no g1 g2)
 ·exact⟨rfl,rfl⟩
theorem FI{bs:List Ba}(h:∀j,j<k->¬Good bs gone j)(h1:¬Good bs gone k):∀j,j<k+1->¬Good bs gone j:=λj hj=>by
 by_cases e:j=k
 ·subst e;exact h1
 ·exact h j (by omega)
theorem Aah{bs:List Ba}(hk:k<bs.length):Good bs gone k↔D7 gone (bs[k]).nm=false/\ES bs k gone:=by
 constructor
 ·rintro⟨x,hx,h⟩;rw[A0 hk] at hx;obtain rfl:=A5 hx;exact h
 ·exact λh=>⟨_,A0 hk,h⟩
end Go.Proofs.YtcgkgmmclfeohaaGreatDoor
namespace Go.Proofs.YtcgkgmmclfeohaaGreatDoor
open Go.Proofs.Tryz
open Go.RowKit
variable{ac:Act}{ops:Array Oper}{tmps:Array Value}{s:ByteArray}{all g' gone l order ss ss' tg:List ByteArray}{rest:List Oper}{cs xs ys:List Value}{B b base c e g i j k m n o off pb rb rk size x:Nat}{r:Option Nat}{P:Program}{T:TypeId}{u v x0 x1 x2 y0 y1:Value}{W Z a w w' w1:World}
theorem IE(ss:List ByteArray)(u v:Value)(w:World)(h:Ls w u ss)(h2:Ls w v ss):
  Calls prog 35 #[u,v] w λe w'=>e=.returned (.bool true)/\Up w w':=by
 obtain⟨a,c,rfl,hn,-,a1⟩:=h;obtain⟨a2,c2,rfl,-,-,a0⟩:=h2;unfold maxLen at hn;go_in;go_wp2_with fail;go_loopw [5] (λi w'=>∃k:Nat,k<=ss.length/\i=.int .i64 k/\Up w w') (λi _=>ss.length-(intOf i).toNat)
 case atStart=>exact⟨0,by omega,rfl,A4 _ _⟩
 case round =>
  obtain⟨k,hk,rfl,hB⟩:=hrel;by_cases hp:k<ss.length
  ·obtain⟨b,o,rfl,hS,hb⟩:=a1 (by omega);obtain⟨b2,o2,rfl,a3,a4⟩:=a0 (by omega);have c0:=(hB.cell (p:=⟨b,o+k,none⟩) hb).trans (hS.cell hp);have c1:=(hB.cell (p:=⟨b2,o2+k,none⟩) a4).trans (a3.cell hp);generalize ss[k]=s0 at *;go_wp2_with fail;go_quiet (fail);go_wp2_with fail;go_roundw
   case rel=>exact⟨k+1,by omega,by go_num,N0 hB _⟩
   case measure=>simp[intOf];omega
  ·go_wp2_with fail;go_ret;exact⟨rfl,hB⟩
theorem XP(ss:List ByteArray)(v:Value)(s:ByteArray)(w:World)(h:Ls w v ss):
  Calls prog 44 #[v,.string s] w λe w'=>e=.returned (.bool (D7 ss s))/\w'=w:=by
 obtain⟨a,c,rfl,hn,-,a0⟩:=h;unfold maxLen at hn;go_in;go_wp2;go_loop [5] (λi=>∃k:Nat,k<=ss.length/\i=.int .i64 k/\D7 (ss.take k) s=false) (λi=>ss.length-(intOf i).toNat)
 case atStart=>exact⟨0,by omega,rfl,rfl⟩
 case round =>
  obtain⟨k,hk,rfl,a1⟩:=hrel;have Hal:Hid (D7 (ss.take k) s=false):=a1;clear a1;by_cases hp:k<ss.length
  ·obtain⟨b,o,rfl,hS,hb⟩:=a0 (by omega);have c0:=hS.cell hp;cases hq:((ss[k]).toList==s.toList)
   ·have Hq:Hid (D7 (ss.take (k+1)) s=false):=FU hp Hal.out hq;go_wp2;go_round
    case rel=>exact⟨k+1,by omega,by go_num,Hq.out⟩
    case measure=>simp[intOf];omega
   ·have Hq:Hid (D7 ss s=true):=Gt hp hq;go_wp2;go_ret;exact⟨J5 Hq.out.symm,rfl⟩
  ·have Hq:Hid (D7 ss s=false):=GN hp Hal.out;go_wp2;go_ret;exact⟨J5 Hq.out.symm,rfl⟩
end Go.Proofs.YtcgkgmmclfeohaaGreatDoor
