/- Plain facts on names, ends and phases: no program in it. -/
import Derived.Laws.RangeAny
import Derived.Below
import Derived.Test.YtmfjakieahkacaaGreatDoorChecked
import Derived.WalkKit
import Derived.WalkSpells
import Derived.WalkLawsBesides
import Derived.Handy
import Derived.Outline
import Derived.Deep.Light
import Derived.Laws.Bits64
import Derived.BigQuiet
import Derived.Deep.QuietTactic
import Derived.Deep.DeepCutAuto
import Derived.Deep.RegionLaw
import Derived.Deep.RegionHeld
import Derived.Deep.RegionWith
import Derived.Laws.Strings
import Derived.Maps.Views
import Derived.LaidEql
import Derived.Stop.Asserts
import Derived.RowKitTokens
import Derived.Deep.MidRow
namespace Go.Proofs.YtmfjakieahkacaaGreatDoor
theorem A0:type_of% @List.getElem?_eq_getElem:=@List.getElem?_eq_getElem
theorem A1:type_of% @Nat.lt_of_lt_of_le:=@Nat.lt_of_lt_of_le
theorem A2:type_of% @List.getElem?_eq_some_iff:=@List.getElem?_eq_some_iff
theorem A3:type_of% @Nat.le_refl:=@Nat.le_refl
theorem A4:type_of% @Go.RowKit.Below.refl:=@Go.RowKit.Below.refl
theorem A5:type_of% @Option.some.inj:=@Option.some.inj
theorem A6:type_of% @List.mem_of_getElem?:=@List.mem_of_getElem?
theorem A7:type_of% @List.take_succ_eq_append_getElem:=@List.take_succ_eq_append_getElem
theorem A8:type_of% @List.length_append:=@List.length_append
theorem A9:type_of% @List.getElem?_map:=@List.getElem?_map
theorem B3:type_of% @Nat.le_trans:=@Nat.le_trans
theorem B4:type_of% @World.ownsRow.stored:=@World.ownsRow.stored
theorem B5:type_of% @List.length_map:=@List.length_map
theorem B6:type_of% @Option.map_eq_some_iff:=@Option.map_eq_some_iff
theorem B7:type_of% @List.getElem_of_mem:=@List.getElem_of_mem
theorem B8:type_of% @List.length_take:=@List.length_take
theorem B9:type_of% @World.ownsRow_nil:=@World.ownsRow_nil
theorem C0:type_of% @World.ownsRow_lit:=@World.ownsRow_lit
theorem C1:type_of% @World.cell?_setCell_other:=@World.cell?_setCell_other
theorem C2:type_of% @World.cell?_of_block:=@World.cell?_of_block
theorem C3:type_of% @Nat.eq_zero_or_pos:=@Nat.eq_zero_or_pos
theorem C4:type_of% @List.length_eq_zero_iff:=@List.length_eq_zero_iff
theorem C5:type_of% @List.mem_cons_of_mem:=@List.mem_cons_of_mem
theorem C6:type_of% @List.mem_append:=@List.mem_append
theorem C7:type_of% @List.mem_singleton:=@List.mem_singleton
theorem C8:type_of% @List.take_of_length_le:=@List.take_of_length_le
theorem C9:type_of% @Array.getElem?_eq_some_iff:=@Array.getElem?_eq_some_iff
def EU(n:Nat):Bool:=(decide (97<=n)&&decide (n<=122)) || (decide (48<=n)&&decide (n<=57)) || n==45
def CI(l:List UInt8):Bool:=l.all λb=>EU b.toNat
def U9(s:ByteArray):Bool:=decide (1<=s.size)&&decide (s.size<=8)&&CI s.data.toList
theorem Jo(n:Nat):EU n=true↔(97<=n/\n<=122)∨(48<=n/\n<=57)∨n=45:=by
 simp[EU,or_assoc]
theorem Ol(n:Nat)(h:128<=n):EU n=false:=by
 rw[← Bool.not_eq_true,Jo];omega
theorem Ug(s:ByteArray)(k:Nat)(h:k<s.size):s.data.toList.take (k+1)=s.data.toList.take k++[s[k]]:=by
 rw[A7 (by simpa using h)];rfl
theorem Uh(l:List UInt8)(b:UInt8):CI (l++[b])=(CI l&&EU b.toNat):=by simp[CI]
theorem MK(s:ByteArray)(k:Nat)(h:k<s.size):CI (s.data.toList.take (k+1))=(CI (s.data.toList.take k)&&EU (s[k]).toNat):=by
 rw[Ug s k h,Uh]
theorem LM(s:ByteArray)(k:Nat)(h:k<s.size)(hb:EU (s[k]).toNat=false):CI s.data.toList=false:=by
 rw[← Bool.not_eq_true];intro ha;simp only[CI,List.all_eq_true] at ha;have:=ha (s[k]) (by show s.data[k]∈s.data.toList;simp);rw[hb] at this;cases this
theorem Om(s:ByteArray)(k:Nat)(h:¬k<s.size)(ha:CI (s.data.toList.take k)=true):CI s.data.toList=true:=by
 rw[C8 (by simp;omega)] at ha;exact ha
def Oo(n lo hi:Int):Bool:=decide (lo<=n)&&decide (n<=hi)
theorem Ro(n lo hi:Int):Oo n lo hi=true↔lo<=n/\n<=hi:=by simp[Oo]
theorem AaA(n lo hi:Int):Oo n lo hi=false↔¬(lo<=n/\n<=hi):=by rw[← Ro];simp
end Go.Proofs.YtmfjakieahkacaaGreatDoor
namespace Go.Proofs.YtmfjakieahkacaaGreatDoor
open Go.RowKit
theorem F6{a b:Bool}(h:a=b):Ending.returned (.bool a)=.returned (.bool b):=by rw[h]
theorem Fl{k:IntKind}{a b:Int}(h:a=b):Ending.returned (.int k a)=.returned (.int k b):=by rw[h]
theorem LO(w:World)(s:ByteArray)(p:Nat):Below w.heap.size w (w.iter s p):=(A4 _ _).alloc (A3 _) _
theorem CN{W w1:World}(hb:Below W.heap.size W w1):(∀b o,b<W.heap.size->w1.cell? ⟨b,o,none⟩=W.cell? ⟨b,o,none⟩)/\(∀b o,b<W.heap.size->w1.frozen? ⟨b,o,none⟩=W.frozen? ⟨b,o,none⟩) :=
 ⟨λb o h=>hb.cell (p:=⟨b,o,none⟩) h,λb o h=>hb.frozen (p:=⟨b,o,none⟩) h⟩
theorem D1{a b c:World}(h:Below a.heap.size a b)(k:Below b.heap.size b c):Below a.heap.size a c:=h.trans (k.mono h.size)
theorem L0{a b c:World}{r:Option Nat}(h:a.grownBy b r)(k:b.grownBy c r):a.grownBy c r :=
 ⟨k.os.trans h.os,k.tape.trans h.tape,k.output.trans h.output,B3 h.size k.size,λi hi hr=>(k.block i (A1 hi h.size) hr).trans (h.block i hi hr)⟩
theorem F7(a:World)(r:Option Nat):a.grownBy a r:=⟨rfl,rfl,rfl,A3 _,λ_ _ _=>rfl⟩
theorem DS{a b:World}{r:Option Nat}(h:a.grownBy b r):a.grownBy b.drew r:=⟨h.os,h.tape,h.output,h.size,h.block⟩
theorem O2{a b:World}{r:Option Nat}(h:Below a.heap.size a b):a.grownBy b r:=⟨h.os,h.tape,h.output,h.size,λi hi _=>h.block i hi⟩
theorem Gt{a b:World}{r:Option Nat}(h:a.grownBy b r)(o:Obj):a.grownBy (b.alloc o) r:=L0 h (O2 ((A4 _ _).alloc (A3 _) _))
theorem E3{a b:World}{rb off:Nat}(h:a.grownBy b (some rb))(u:Value):a.grownBy (b.setCell ⟨rb,off,none⟩ u) (some rb) :=
 L0 h ⟨rfl,rfl,rfl,by simp,λi _ hr=>Below.heap_setCell _ _ _ _ (λe=>hr (by rw[e]))⟩
theorem Qx{a b:World}{r:Option Nat}(h:a.grownBy b r)(n:Nat):a.grownBy (b.drewN n) r:=⟨h.os,h.tape,h.output,h.size,h.block⟩
def L6(w:World)(g o:Nat)(ss:List ByteArray):Prop:=∀(i:Nat)(s:ByteArray),ss[i]?=some s->w.cell? ⟨g,o+i,none⟩=some (.string s)
theorem L6.kept{w w':World}{g o rb:Nat}{ss:List ByteArray}(h:L6 w g o ss)(hg:w.grownBy w' (some rb))(hne:g≠rb):L6 w' g o ss :=
 λi s hs=>hg.cell (h i s hs) (by simpa using hne)
theorem Ix(b:Nat):∀(vs:List Value)(o:Nat)(W w':World)(B:Nat),Below B W w'->B<=b->Below B W (w'.setCells b o vs)
 | [],_,_,_,_,h,_=>h
 | v::r,o,W,w',B,h,hB=>by
  rw[World.setCells];exact Ix b r (o+1) W _ B (h.setCell (p:=⟨b,o,none⟩) hB v) hB
theorem World.size_setCells'{b:Nat}:∀{vs:List Value} {o:Nat} {w:World},(w.setCells b o vs).heap.size=w.heap.size
 | [],_,_=>rfl
 | v::r,o,w=>by rw[World.setCells,World.size_setCells'];simp
def CB(w:World)(b:Nat)(cs:List Value):Prop:=w.rangeAt b 0 cs/\w.there b 0 cs.length/\b<w.heap.size
theorem CB.kept{w w':World}{b:Nat}{cs:List Value}{r:Option Nat}(h:CB w b cs)(hg:w.grownBy w' r)(hne:some b≠r):CB w' b cs:=by
 have hb:=hg.block b h.2.2 hne;refine⟨λj v hv=>?_,λj hj=>?_,A1 h.2.2 hg.size⟩
 ·rw[C2 (w:=w) (a:=⟨b,0+j,none⟩) hb];exact h.1 j v hv
 ·rw[C2 (w:=w) (a:=⟨b,0+j,none⟩) hb,World.frozen?_of_block (w:=w) (a:=⟨b,0+j,none⟩) hb];exact h.2.1 j hj
theorem CB.up{w w':World}{b B:Nat}{cs:List Value}(h:CB w b cs)(hb:Below B w w')(hB:b<B):CB w' b cs:=by
 have hk:=hb.block b hB;refine⟨λj v hv=>?_,λj hj=>?_,A1 h.2.2 hb.size⟩
 ·rw[C2 (w:=w) (a:=⟨b,0+j,none⟩) hk];exact h.1 j v hv
 ·rw[C2 (w:=w) (a:=⟨b,0+j,none⟩) hk,World.frozen?_of_block (w:=w) (a:=⟨b,0+j,none⟩) hk];exact h.2.1 j hj
theorem T6(w:World)(cs:List Value)(t:TypeId):CB (w.alloc (.cells cs.toArray t)) w.heap.size cs:=by
 have hr:(w.alloc (.cells cs.toArray t)).rangeAt w.heap.size 0 cs:=by
  intro j v hv;rw[Nat.zero_add,World.cell?_alloc_at]
  ·simpa using hv
  ·rfl
 refine⟨hr,λj hj=>⟨hr.isSome j hj,?_⟩,by simp⟩;simp[go_sem]
theorem Oq{w:World}{b:Nat}{cs:List Value}{j:Nat}{u:Value}(h:w.rangeAt b 0 cs)(hj:j<cs.length):(w.setCell ⟨b,j,none⟩ u).rangeAt b 0 (cs.set j u):=by
 intro i x hx;rw[List.getElem?_set] at hx;by_cases e:j=i
 ·subst e;rw[if_pos rfl,if_pos hj] at hx;obtain rfl:=A5 hx;have hc:=h j cs[j] (by simp);rw[Nat.zero_add] at hc ⊢
  exact World.cell?_setCell_same _ _ _ hc
 ·rw[if_neg e] at hx;rw[C1 _ _ _ _ (by simp<;>omega)];exact h i x hx
theorem CB.set{w:World}{b j:Nat}{cs:List Value}{u:Value}(h:CB w b cs)(hj:j<cs.length):CB (w.setCell ⟨b,j,none⟩ u) b (cs.set j u):=by
 refine⟨Oq h.1 hj,λi hi=>?_,by simpa using h.2.2⟩;have:=World.there_setCells h.2.1 b j [u] i (by simpa using hi);simpa [World.setCells] using this
theorem CB.other{w:World}{b q j:Nat}{cs:List Value}{u:Value}(h:CB w b cs)(hne:b≠q):CB (w.setCell ⟨q,j,none⟩ u) b cs :=
 h.kept (r:=some q) ⟨rfl,rfl,rfl,by simp,λi _ hr=>Below.heap_setCell _ _ _ _ (λe=>hr (by rw[e]))⟩ (by simpa using hne)
theorem CB.c2{w:World}{b:Nat}{x0 x1:Value}(h:CB w b [x0,x1]):(w.cell? ⟨b,0,none⟩=some x0/\w.cell? ⟨b,1,none⟩=some x1)/\w.frozen? ⟨b,0,none⟩=false/\w.frozen? ⟨b,1,none⟩=false :=
 ⟨⟨h.1 0 _ rfl,h.1 1 _ rfl⟩,(h.2.1 0 (by simp)).2,(h.2.1 1 (by simp)).2⟩
theorem CB.c3{w:World}{b:Nat}{x0 x1 x2:Value}(h:CB w b [x0,x1,x2]):(w.cell? ⟨b,0,none⟩=some x0/\w.cell? ⟨b,1,none⟩=some x1/\w.cell? ⟨b,2,none⟩=some x2)/\w.frozen? ⟨b,0,none⟩=false/\w.frozen? ⟨b,1,none⟩=false/\w.frozen? ⟨b,2,none⟩=false :=
 ⟨⟨h.1 0 _ rfl,h.1 1 _ rfl,h.1 2 _ rfl⟩,(h.2.1 0 (by simp)).2,(h.2.1 1 (by simp)).2,(h.2.1 2 (by simp)).2⟩
theorem CB.c8{w:World}{b:Nat}{x0 x1 x2 x3 x4 x5 x6 x7:Value}(h:CB w b [x0,x1,x2,x3,x4,x5,x6,x7]):
  (w.cell? ⟨b,0,none⟩=some x0/\w.cell? ⟨b,1,none⟩=some x1/\w.cell? ⟨b,2,none⟩=some x2/\w.cell? ⟨b,3,none⟩=some x3/\w.cell? ⟨b,4,none⟩=some x4/\w.cell? ⟨b,5,none⟩=some x5/\w.cell? ⟨b,6,none⟩=some x6/\w.cell? ⟨b,7,none⟩=some x7)/\
  w.frozen? ⟨b,0,none⟩=false/\w.frozen? ⟨b,1,none⟩=false/\w.frozen? ⟨b,2,none⟩=false/\w.frozen? ⟨b,3,none⟩=false/\w.frozen? ⟨b,4,none⟩=false/\w.frozen? ⟨b,5,none⟩=false/\w.frozen? ⟨b,6,none⟩=false/\w.frozen? ⟨b,7,none⟩=false :=
 ⟨⟨h.1 0 _ rfl,h.1 1 _ rfl,h.1 2 _ rfl,h.1 3 _ rfl,h.1 4 _ rfl,h.1 5 _ rfl,h.1 6 _ rfl,h.1 7 _ rfl⟩,(h.2.1 0 (by simp)).2,(h.2.1 1 (by simp)).2,(h.2.1 2 (by simp)).2,(h.2.1 3 (by simp)).2,(h.2.1 4 (by simp)).2,(h.2.1 5 (by simp)).2,(h.2.1 6 (by simp)).2,(h.2.1 7 (by simp)).2⟩
theorem CB.copy{w:World}{b:Nat}{ys:List Value}(h:CB w b ys)(xs:List Value)(hl:xs.length=ys.length):CB (w.setCells b 0 xs) b xs :=
 ⟨World.rangeAt_setCells_same _ _ _ _ (by rw[hl];exact h.2.1),World.there_setCells (by rw[hl];exact h.2.1) _ _ _,by rw[World.size_setCells'];exact h.2.2⟩
theorem KB{B:Nat}{a w:World}{b:Nat}(h:Below B a w)(hb:B<=b)(xs:List Value):Below B a (w.setCells b 0 xs):=Ix b xs 0 a w B h hb
theorem CB.room{w:World}{b:Nat}{ys:List Value}(h:CB w b ys){n:Nat}(hn:n=ys.length):w.there b 0 n:=by subst hn;exact h.2.1
theorem CB.copy2{w:World}{b:Nat}{y0 y1:Value}(h:CB w b [y0,y1])(x0 x1:Value):CB ((w.setCell ⟨b,0,none⟩ x0).setCell ⟨b,1,none⟩ x1) b [x0,x1]:=h.copy [x0,x1] rfl
theorem CB.copy3{w:World}{b:Nat}{y0 y1 y2:Value}(h:CB w b [y0,y1,y2])(x0 x1 x2:Value):CB (((w.setCell ⟨b,0,none⟩ x0).setCell ⟨b,1,none⟩ x1).setCell ⟨b,2,none⟩ x2) b [x0,x1,x2]:=h.copy [x0,x1,x2] rfl
theorem I7{B:Nat}{a w:World}{b:Nat}(h:Below B a w)(hb:B<=b)(x0 x1:Value):Below B a ((w.setCell ⟨b,0,none⟩ x0).setCell ⟨b,1,none⟩ x1):=KB h hb [x0,x1]
theorem SI{B:Nat}{a w:World}{b:Nat}(h:Below B a w)(hb:B<=b)(x0 x1 x2:Value):Below B a (((w.setCell ⟨b,0,none⟩ x0).setCell ⟨b,1,none⟩ x1).setCell ⟨b,2,none⟩ x2):=KB h hb [x0,x1,x2]
theorem Ui{P:Program}{fn:Func}{q:Tmp}{T:TypeId}(h:fn.results=#[.cell q T]){d:TypeDesc}(hu:P.underlying T=some d)(hd:d.isRow=true){tmps:Array Value}{Z:World}{rk:Nat}{cs:List Value}(hi:(P.info? T).map (·.size)=some cs.length)
  (ht:tmps.getD q undef=.pointer (some ⟨rk,0,none⟩)) (hZ:CB Z rk cs):(results fn tmps).run P Z=.ok (.agg cs.toArray) Z:=by
 have hl:=run_loadVar_mid (P:=P) Z rk 0 T cs d hZ.1 hu hd hi;have ha:(asAddr (.pointer (some ⟨rk,0,none⟩))).run P Z=.ok ⟨rk,0,none⟩ Z:=by simp[go_sem]
 have ht':tmps[q]?.getD undef=.pointer (some ⟨rk,0,none⟩):=by simpa using ht
 simp only[results,h];simp[Sem.run_bind,Result.andThen,ht',ha,hl]
theorem Jp{P:Program}{fn:Func}{q q2:Tmp}{T:TypeId}(h:fn.results=#[.cell q T,.tmp q2]){d:TypeDesc}(hu:P.underlying T=some d)(hd:d.isRow=true){tmps:Array Value}{Z:World}{rk:Nat}{cs:List Value}(hi:(P.info? T).map (·.size)=some cs.length)
  {v:Value} (ht:tmps.getD q undef=.pointer (some ⟨rk,0,none⟩)) (hv:tmps.getD q2 undef=v) (hZ:CB Z rk cs):(results fn tmps).run P Z=.ok (.tuple #[.agg cs.toArray,v]) Z:=by
 have hl:=run_loadVar_mid (P:=P) Z rk 0 T cs d hZ.1 hu hd hi;have ha:(asAddr (.pointer (some ⟨rk,0,none⟩))).run P Z=.ok ⟨rk,0,none⟩ Z:=by simp[go_sem]
 have ht':tmps[q]?.getD undef=.pointer (some ⟨rk,0,none⟩):=by simpa using ht
 have hv':tmps[q2]?.getD undef=v:=by simpa using hv
 simp only[results,h];simp[Sem.run_bind,Result.andThen,ht',hv',ha,hl]
theorem Iy(w:World)(x:List Value)(t:TypeId):CB (w.alloc (.cells x.toArray t)) w.heap.size x/\Below w.heap.size w (w.alloc (.cells x.toArray t))/\(w.alloc (.cells x.toArray t)).heap.size=w.heap.size+1 :=
 ⟨T6 w x t,(A4 _ _).alloc (A3 _) _,by simp⟩
theorem cb2(w:World)(x y:List Value)(t u:TypeId):CB ((w.alloc (.cells x.toArray t)).alloc (.cells y.toArray u)) w.heap.size x/\CB ((w.alloc (.cells x.toArray t)).alloc (.cells y.toArray u)) (w.heap.size+1) y/\
  Below w.heap.size w ((w.alloc (.cells x.toArray t)).alloc (.cells y.toArray u))/\((w.alloc (.cells x.toArray t)).alloc (.cells y.toArray u)).heap.size=w.heap.size+2:=by
 obtain⟨h1,hb,hs⟩:=Iy w x t;obtain⟨h2,hb2,hs2⟩:=Iy (w.alloc (.cells x.toArray t)) y u;refine⟨h1.up hb2 (by rw[hs];omega),by rw[hs] at h2;exact h2,hb.trans (hb2.mono (by rw[hs];omega)),by rw[hs2,hs]⟩
theorem cb3(w:World)(x y z:List Value)(t u v:TypeId):CB (((w.alloc (.cells x.toArray t)).alloc (.cells y.toArray u)).alloc (.cells z.toArray v)) w.heap.size x/\CB (((w.alloc (.cells x.toArray t)).alloc (.cells y.toArray u)).alloc (.cells z.toArray v)) (w.heap.size+1) y/\
  CB (((w.alloc (.cells x.toArray t)).alloc (.cells y.toArray u)).alloc (.cells z.toArray v)) (w.heap.size+2) z/\
  Below w.heap.size w (((w.alloc (.cells x.toArray t)).alloc (.cells y.toArray u)).alloc (.cells z.toArray v))/\(((w.alloc (.cells x.toArray t)).alloc (.cells y.toArray u)).alloc (.cells z.toArray v)).heap.size=w.heap.size+3:=by
 obtain⟨h1,h2,hb,hs⟩:=cb2 w x y t u;obtain⟨h3,hb3,hs3⟩:=Iy ((w.alloc (.cells x.toArray t)).alloc (.cells y.toArray u)) z v;refine⟨h1.up hb3 (by rw[hs];omega),h2.up hb3 (by rw[hs];omega),by rw[hs] at h3;exact h3,hb.trans (hb3.mono (by rw[hs];omega)),by rw[hs3,hs]⟩
theorem cbE1(w:World)(x:List Value)(t:TypeId):∃W,w.alloc (.cells x.toArray t)=W/\CB W w.heap.size x/\Below w.heap.size w W/\W.heap.size=w.heap.size+1:=⟨_,rfl,Iy w x t⟩
theorem cbE2(w:World)(x:List Value)(t:TypeId)(y:List Value)(u:TypeId):∃W,(w.alloc (.cells x.toArray t)).alloc (.cells y.toArray u)=W/\CB W w.heap.size x/\CB W (w.heap.size+1) y/\Below w.heap.size w W/\W.heap.size=w.heap.size+2:=⟨_,rfl,cb2 w x y t u⟩
theorem cbE3(w:World)(x:List Value)(t:TypeId)(y:List Value)(u:TypeId)(z:List Value)(v:TypeId):∃W,((w.alloc (.cells x.toArray t)).alloc (.cells y.toArray u)).alloc (.cells z.toArray v)=W/\CB W w.heap.size x/\CB W (w.heap.size+1) y/\CB W (w.heap.size+2) z/\Below w.heap.size w W/\W.heap.size=w.heap.size+3:=⟨_,rfl,cb3 w x y z t u v⟩
theorem P8{W w':World}{base e size n:Nat}{v:Value}{xs:List Value}(h:W.ownsRow base e size v n xs)(hb:Below W.heap.size W w'):w'.ownsRow base e size v n xs:=by
 refine⟨h.1,?_⟩;rcases h.2 with h0|⟨g,cap,cur,hv,hg,hh,r⟩
 ·exact .inl h0
 ·refine .inr ⟨g,cap,cur,hv,hg,?_,r⟩;rw[hb.block g (C9.1 hh).1];exact hh
theorem K8{a b:World}{r:Option Nat}{pb off:Nat}(h:a.grownBy b r)(hp:a.heap.size<=pb)(u:Value):a.grownBy (b.setCell ⟨pb,off,none⟩ u) r :=
 ⟨h.os,h.tape,h.output,by simpa using h.size,λi hi hr=>(Below.heap_setCell _ _ _ _ (by simp;omega)).trans (h.block i hi hr)⟩
theorem Z0:(Tryz.prog.info? 9).map (λi=>(i.zero,i.size,i.bytes))=some (some (.string ⟨#[]⟩),1,16):=by kernel_rfl
theorem L6.alloc{w:World}{g o:Nat}{ss:List ByteArray}(h:L6 w g o ss)(ob:Obj):L6 (w.alloc ob) g o ss:=λi s hs=>by
 have:=h i s hs;rw[World.cell?_alloc_lt _ _ _ (World.block_lt_of_cell? w _ this)];exact this
theorem BE{w:World}{g o:Nat}{ss:List ByteArray}(h:L6 w g o ss):∀(j:Nat)(u:Value),(ss.map Value.string)[j]?=some u->w.cell? ((⟨g,o,none⟩:Addr).add j)=some u:=λj u hu=>by
 rw[A9,B6] at hu;obtain⟨s,hs,rfl⟩:=hu;rw[Addr.add_mid];exact h j s hs
theorem IA(ss:List ByteArray):∀u∈ss.map Value.string,u.oneCell'=true:=λu hu=>by
 obtain⟨s,_,rfl⟩:=List.mem_map.1 hu;rfl
theorem T7{w:World}{base e size n:Nat}{v:Value}{xs:List Value}(h:w.ownsRow base e size v n xs)(hn:0<n):∃g cap,v=.slice (some ⟨g,0,none⟩) n cap:=by
 rcases h.2 with⟨_,h0⟩|⟨g,cap,_,hv,_⟩
 ·omega
 ·exact⟨g,cap,hv⟩
theorem Qy{w:World}{base e g n cap:Nat}{ss:List ByteArray}(h:w.ownsRow base e 1 (.slice (some ⟨g,0,none⟩) n cap) n (ss.map Value.string))(hn:ss.length=n):L6 w g 0 ss:=λi s hs=>by
 have hi:i<ss.length:=(A2.1 hs).1;rw[Nat.zero_add,h.cellAt i (by omega),A9,hs];rfl
theorem L6.other{w:World}{g o pb off:Nat}{u:Value}{ss:List ByteArray}(h:L6 w g o ss)(hne:g≠pb):L6 (w.setCell ⟨pb,off,none⟩ u) g o ss:=λi s hs=>by
 rw[C1 _ _ _ _ (by simp<;>omega)];exact h i s hs
theorem O0{P:Program}{ops:Array Oper}{o:Oper}{a:Act}{w:World}{K:Act->World->Prop}{Q:Exit->Act->World->Prop}{E:Prop}
  (hg:o.guard=none) (s x:Operand) (t:TypeId) (hop:o.op=Op.call {callee:=Callee.builtin Builtin.append,args:=#[s,x],argTypes:=#[t,t]})
  (base:Nat) (e:TypeId) (i:TypeInfo) (z:Value) (size bytes:Nat) (ht:P.underlying t=some (.slice e)) (hi:P.info? e=some i) (hz:i.zero=some z)
  (hsize:i.size=size) (hby:i.bytes=bytes) (hzs:z.cells.size=size) (hsz:0<size)
  (v:Value) (n:Nat) (xs:List Value) (hs:a.eval s=v) (hown:w.ownsRow base e size v n xs)
  (ad:Addr) (m c:Nat) (news:List Value) (hx:a.eval x=.slice (some ad) m c) (hl:news.length=m*size) (hnews:∀j u,news[j]?=some u->w.cell? (ad.add j)=some u) (h1:∀u∈news,u.oneCell'=true)
  (h63:n+m<=maxLen) (hbytes:(n+m)*bytes<=140737488355328) (hbase:base<=w.heap.size)
  (hK:∀v' w',w'.ownsRow base e size v' (n+m) (xs++news)->w.grownBy w' v.ownBlock->K (a.put o.dst v') w') :
  if Region.wanted o (yielded ops a.tmps)=true then Oper.wp P o a w K Q else E:=by
 have hw:Region.wanted o (yielded ops a.tmps)=true:=by simp[Region.wanted,hg]
 rw[if_pos hw];obtain⟨v',w',hr,h2,h3,_⟩:=run_append_own (P:=P) w base t o.type e i z size bytes ht hi hz hsize hby hzs hsz v n xs hown ad m c news hl hnews h1 h63 hbytes hbase;unfold Oper.wp;simp[execOp,hop,resolve,invoke,builtin,hs,hx,hr,Result.andThen];exact hK v' w' h2 h3
theorem G9{w w':World}{base e size n rb:Nat}{v:Value}{xs:List Value}(h:w.ownsRow base e size v n xs)(hg:w.grownBy w' (some rb))(hrb:rb<base):w'.ownsRow base e size v n xs:=by
 refine⟨h.1,?_⟩;rcases h.2 with h0|⟨g,cap,cur,hv,hb,hh,r⟩
 ·exact .inl h0
 ·refine .inr ⟨g,cap,cur,hv,hb,?_,r⟩;rw[hg.block g (C9.1 hh).1 (by simp;omega)];exact hh
theorem N3{w:World}{base base' e size n:Nat}{v:Value}{xs:List Value}(h:w.ownsRow base e size v n xs)(hb:base'<=base):w.ownsRow base' e size v n xs:=by
 refine⟨h.1,?_⟩;rcases h.2 with h0|⟨g,cap,cur,hv,hg,r⟩
 ·exact .inl h0
 ·exact .inr ⟨g,cap,cur,hv,B3 hb hg,r⟩
theorem R3{w:World}{base e size n b:Nat}{v:Value}{xs:List Value}(h:w.ownsRow base e size v n xs)(hb:b<base):some b≠v.ownBlock:=λe=>by
 have:=(h.lt b e.symm).1;omega
theorem AN{a b c:World}{r:Option Nat}{base e size n:Nat}{v:Value}{xs:List Value}(h:a.grownBy b r)(hown:b.ownsRow base e size v n xs)(hg:b.grownBy c v.ownBlock)(hk:a.heap.size<=base):a.grownBy c r :=
 ⟨hg.os.trans h.os,hg.tape.trans h.tape,hg.output.trans h.output,B3 h.size hg.size,λi hi hr=>(hg.block i (A1 hi h.size) (R3 hown (by omega))).trans (h.block i hi hr)⟩
theorem L6.own{w w':World}{g o base e size n:Nat}{u:Value}{xs:List Value}{ss:List ByteArray}(h:L6 w g o ss)(hown:w.ownsRow base e size u n xs)(hg:w.grownBy w' u.ownBlock)(hk:g<base):L6 w' g o ss :=
 λi s hs=>hg.cell (h i s hs) (R3 hown hk)
theorem L6.drew{w:World}{g o:Nat}{ss:List ByteArray}(h:L6 w g o ss):L6 w.drew g o ss:=h
theorem Ot{w:World}{base e size n:Nat}{v:Value}{xs:List Value}(h:w.ownsRow base e size v n xs):w.drew.ownsRow base e size v n xs:=h
theorem L6.drop{w:World}{g o:Nat}{ss:List ByteArray}(h:L6 w g o ss)(k:Nat):L6 w g (o+k) (ss.drop k):=λi s hs=>by
 rw[List.getElem?_drop] at hs;rw[Nat.add_assoc];exact h (k+i) s hs
theorem L6.take{w:World}{g o:Nat}{ss:List ByteArray}(h:L6 w g o ss)(k:Nat):L6 w g o (ss.take k):=λi s hs=>by
 rw[List.getElem?_take] at hs;split at hs
 ·exact h i s hs
 ·cases hs
def Fv(w:World)(v:Value)(ss:List ByteArray):Prop:=∃g c,v=.slice (some ⟨g,0,none⟩) ss.length c/\L6 w g 0 ss/\g<w.heap.size/\ss.length<=c/\c<=maxLen
theorem Fv.up{w w':World}{v:Value}{ss:List ByteArray}(h:Fv w v ss)(hb:Below w.heap.size w w'):Fv w' v ss:=by
 obtain⟨g,c,rfl,hS,hg,r⟩:=h;exact⟨g,c,rfl,λi s hs=>(hb.cell (p:=⟨g,0+i,none⟩) hg).trans (hS i s hs),A1 hg hb.size,r⟩
theorem Fv.own{w:World}{base e n:Nat}{v:Value}{ss:List ByteArray}(h:w.ownsRow base e 1 v n (ss.map Value.string))(hn:ss.length=n)(hv:∃g c,v=.slice (some ⟨g,0,none⟩) n c):Fv w v ss:=by
 obtain⟨g,c,rfl⟩:=hv;refine⟨g,c,by rw[hn],Qy h hn,(h.lt g rfl).2,?_,?_⟩
 ·rcases h.2 with⟨h0,_⟩|⟨g',cap',cur,h',_,_,hc,_⟩
  ·cases h0
  ·cases h';omega
 ·rcases h.2 with⟨h0,_⟩|⟨g',cap',cur,h',_,_,_,hc,_⟩
  ·cases h0
  ·cases h';exact hc
theorem N5{w W W':World}{base e size n:Nat}{v:Value}{xs:List Value}(h:Below w.heap.size w W)(hown:W.ownsRow base e size v n xs)(hg:W.grownBy W' v.ownBlock)(hk:w.heap.size<=base):Below w.heap.size w W' :=
 {os:=hg.os.trans h.os,tape:=hg.tape.trans h.tape,output:=hg.output.trans h.output,size:=B3 h.size hg.size,block:=λi hi=>(hg.block i (A1 hi h.size) (R3 hown (by omega))).trans (h.block i hi)}
theorem Z1(w:World)(s:ByteArray)(t:TypeId):∀(j:Nat)(u:Value),[Value.string s][j]?=some u->(w.alloc (.cells #[.string s] t)).cell? ((⟨w.heap.size,0,none⟩:Addr).add j)=some u:=λj u hj=>by
 match j,hj with
 | 0,hj=>simp at hj;subst hj;simp[Addr.add]
theorem Rp{w:World}{b:Nat}{s:ByteArray}(h:w.cell? ⟨b,0,none⟩=some (.string s)):∀(j:Nat)(u:Value),[Value.string s][j]?=some u->w.cell? ((⟨b,0,none⟩:Addr).add j)=some u:=λj u hj=>by
 match j,hj with
 | 0,hj=>simp at hj;subst hj;rw[Addr.add_mid];exact h
theorem CJ(s:ByteArray):∀u∈[Value.string s],u.oneCell'=true:=λu hu=>by simp at hu;subst hu;rfl
def JQ(w:World)(v:Value)(ss:List ByteArray):Prop:=(v=.slice none 0 0/\ss=[])∨Fv w v ss
theorem JQ.up{w w':World}{v:Value}{ss:List ByteArray}(h:JQ w v ss)(hb:Below w.heap.size w w'):JQ w' v ss:=by
 rcases h with h|h
 ·exact .inl h
 ·exact .inr (h.up hb)
theorem JQ.shape{w:World}{v:Value}{ss:List ByteArray}(h:JQ w v ss):∃a c,v=.slice a ss.length c:=by
 rcases h with⟨rfl,rfl⟩|⟨g,c,rfl,_⟩
 ·exact⟨none,0,rfl⟩
 ·exact⟨_,_,rfl⟩
def E5(w:World)(base:Nat)(u:Value)(ss:List ByteArray):Prop:=w.ownsRow base 9 1 u ss.length (ss.map Value.string)
theorem E5.lst{w:World}{base:Nat}{u:Value}{ss:List ByteArray}(h:E5 w base u ss):JQ w u ss:=by
 rcases h.2 with⟨h0,h1⟩|⟨g,cap,cur,hv,_⟩
 ·exact .inl ⟨h0,C4.1 h1⟩
 ·exact .inr (Fv.own h rfl ⟨g,cap,hv⟩)
theorem Kh{w a b:World}{x:Nat}(h:Below w.heap.size w a)(hg:a.grownBy b (some x))(hx:w.heap.size<=x):Below w.heap.size w b :=
 {os:=hg.os.trans h.os,tape:=hg.tape.trans h.tape,output:=hg.output.trans h.output,size:=B3 h.size hg.size,block:=λi hi=>(hg.block i (A1 hi h.size) (by simp;omega)).trans (h.block i hi)}
theorem JQ.lt{w:World}{v:Value}{ss:List ByteArray}(h:JQ w v ss):∀g,v.ownBlock=some g->g<w.heap.size:=by
 intro g hg;rcases h with⟨rfl,_⟩|⟨g',c,rfl,_,hlt,_⟩
 ·simp[Value.ownBlock] at hg
 ·simp[Value.ownBlock] at hg;omega
theorem E5.up{w w':World}{base:Nat}{u:Value}{ss:List ByteArray}(h:E5 w base u ss)(hb:Below w.heap.size w w'):E5 w' base u ss:=P8 h hb
theorem M3{a b:World}{B:Nat}(h:Below B a b)(n:Nat):Below B a (b.drewN n):={os:=h.os,tape:=h.tape,output:=h.output,size:=h.size,block:=h.block}
end Go.Proofs.YtmfjakieahkacaaGreatDoor
namespace Go.Proofs.YtmfjakieahkacaaGreatDoor
structure Ba where
 nm:ByteArray
 has:List ByteArray
 nd:List ByteArray
structure Bk where
 tg:List ByteArray
 bs:List Ba
noncomputable def pB(p:Prop):Bool:=@decide p (Classical.propDecidable p)
theorem Z3{p:Prop}(h:p):pB p=true:=by unfold pB;simp[h]
theorem V4{p:Prop}(h:¬p):pB p=false:=by unfold pB;simp[h]
theorem O7{p:Prop}:pB p=true↔p:=by unfold pB;simp
theorem Bd{p:Prop}:pB p=false↔¬p:=by unfold pB;simp
def Z9(a b:ByteArray):Bool:=Op.bytesLess a.toList b.toList
def D2(l:List ByteArray)(s:ByteArray):Bool:=l.any λx=>x.toList==s.toList
def O4(a b:List ByteArray):Bool:=a.any λs=>D2 b s
theorem EG{a b:ByteArray}(h:a.toList=b.toList):a=b:=by
 rw[Go.ByteArray.toList_eq,Go.ByteArray.toList_eq] at h;cases a;cases b;simp at h;rw[h]
theorem R8(l:List ByteArray)(s:ByteArray):D2 l s=true↔s∈l:=by
 simp only[D2,List.any_eq_true,beq_iff_eq];constructor
 ·rintro⟨x,hx,h⟩;rwa [← EG h]
 ·exact λh=>⟨s,h,rfl⟩
theorem AD(l:List ByteArray)(s:ByteArray):D2 l s=false↔s∉l:=by rw[← R8];simp
theorem GN(a b:List ByteArray):O4 a b=true↔∃s,s∈a/\s∈b:=by
 simp only[O4,List.any_eq_true,R8]
theorem X9(a b:List ByteArray):O4 a b=false↔∀s,s∈a->s∉b:=by
 rw[← Bool.not_eq_true,GN];simp
theorem EH{l:List ByteArray}{s:ByteArray}{k:Nat}(hk:k<l.length)(h:D2 (l.take k) s=false)(hq:((l[k]).toList==s.toList)=false):D2 (l.take (k+1)) s=false:=by
 rw[A7 hk,D2,List.any_append];rw[D2] at h;simp[h,hq]
theorem EW{l:List ByteArray}{s:ByteArray}{k:Nat}(hk:k<l.length)(hq:((l[k]).toList==s.toList)=true):D2 l s=true:=by
 rw[D2,List.any_eq_true];exact⟨l[k],List.getElem_mem hk,hq⟩
theorem Fw{l:List ByteArray}{s:ByteArray}{k:Nat}(hk:¬k<l.length)(h:D2 (l.take k) s=false):D2 l s=false:=by
 rwa [C8 (by omega)] at h
theorem Qz{a b:List ByteArray}{k:Nat}(hk:k<a.length)(h:O4 (a.take k) b=false)(hq:D2 b a[k]=false):O4 (a.take (k+1)) b=false:=by
 rw[A7 hk,O4,List.any_append];rw[O4] at h;simp[h,hq]
theorem Ou{a b:List ByteArray}{k:Nat}(hk:k<a.length)(hq:D2 b a[k]=true):O4 a b=true:=by
 rw[O4,List.any_eq_true];exact⟨a[k],List.getElem_mem hk,hq⟩
theorem SJ{a b:List ByteArray}{k:Nat}(hk:¬k<a.length)(h:O4 (a.take k) b=false):O4 a b=false:=by
 rwa [C8 (by omega)] at h
def Z4(l:List ByteArray)(k:Nat):Prop:=∀(i:Nat)(a b:ByteArray),i+1<k->l[i]?=some a->l[i+1]?=some b->Z9 a b=true
def Aa(l:List ByteArray)(k:Nat):Prop:=∀(i:Nat)(a:ByteArray),i<k->l[i]?=some a->U9 a=true
def Bo(l all:List ByteArray)(k:Nat):Prop:=∀(i:Nat)(a:ByteArray),i<k->l[i]?=some a->D2 all a=true
def Bg(l:List ByteArray):Prop:=Z4 l l.length
def DT(l:List ByteArray):Prop:=Aa l l.length
def LP(l all:List ByteArray):Prop:=Bo l all l.length
def J9(l all:List ByteArray):Prop:=LP l all/\Bg l
def CW(l:List ByteArray):Prop:=l.length<=8/\DT l/\Bg l
theorem Z4.zero(l:List ByteArray):Z4 l 0:=λi _ _ h=>by omega
theorem Z4.one(l:List ByteArray):Z4 l 1:=λi _ _ h=>by omega
theorem Aa.zero(l:List ByteArray):Aa l 0:=λi _ h=>by omega
theorem Bo.zero(l all:List ByteArray):Bo l all 0:=λi _ h=>by omega
theorem Z4.step{l:List ByteArray}{k:Nat}(h:Z4 l (k+1))(hk:k+1<l.length)(hl:Z9 l[k] l[k+1]=true):Z4 l (k+2):=λi a b hi ha hb=>by
 by_cases e:i=k
 ·subst e;rw[A0 (by omega)] at ha hb;obtain rfl:=A5 ha;obtain rfl:=A5 hb;exact hl
 ·exact h i a b (by omega) ha hb
theorem Aa.step{l:List ByteArray}{k:Nat}(h:Aa l k)(hk:k<l.length)(hl:U9 l[k]=true):Aa l (k+1):=λi a hi ha=>by
 by_cases e:i=k
 ·subst e;rw[A0 hk] at ha;obtain rfl:=A5 ha;exact hl
 ·exact h i a (by omega) ha
theorem Bo.step{l all:List ByteArray}{k:Nat}(h:Bo l all k)(hk:k<l.length)(hl:D2 all l[k]=true):Bo l all (k+1):=λi a hi ha=>by
 by_cases e:i=k
 ·subst e;rw[A0 hk] at ha;obtain rfl:=A5 ha;exact hl
 ·exact h i a (by omega) ha
theorem Jq{l:List ByteArray}{k:Nat}(h:Z4 l k)(hk:¬k<l.length):Bg l:=λi a b hi ha hb=>h i a b (by omega) ha hb
theorem IB{l:List ByteArray}{k:Nat}(h:Aa l k)(hk:¬k<l.length):DT l:=λi a hi ha=>h i a (by omega) ha
theorem Ov{l all:List ByteArray}{k:Nat}(h:Bo l all k)(hk:¬k<l.length):LP l all:=λi a hi ha=>h i a (by omega) ha
theorem Ox{l:List ByteArray}(h:Bg l){k:Nat}(hk:k+1<l.length):Z9 l[k] l[k+1]=true:=h k _ _ hk (by rw[A0]) (by rw[A0])
theorem Oy{l:List ByteArray}(h:DT l){k:Nat}(hk:k<l.length):U9 l[k]=true:=h k _ hk (by rw[A0])
theorem LQ{l all:List ByteArray}(h:LP l all){k:Nat}(hk:k<l.length):D2 all l[k]=true:=h k _ hk (by rw[A0])
theorem Fx{l all:List ByteArray}(h:LP l all){s:ByteArray}(hs:s∈l):s∈all:=by
 obtain⟨i,hi,rfl⟩:=B7 hs;exact (R8 _ _).1 (LQ h hi)
def Fy(tg:List ByteArray)(x:Ba):Prop:=J9 x.nd tg/\J9 x.has x.nd
def AR(tg:List ByteArray)(bs:List Ba)(k:Nat):Prop:=∀(i:Nat)(x:Ba),i<k->bs[i]?=some x->Fy tg x
def V5(bs:List Ba)(n m:Nat):Prop:=∀(i j:Nat)(x y:Ba),j<i->(i<n∨i=n/\j<m)->bs[i]?=some x->bs[j]?=some y->O4 x.has y.has=false
def I9(bs:List Ba):List ByteArray:=bs.map (·.nm)
def CO(bs:List Ba):Prop:=V5 bs bs.length 0
def J0(b:Bk):Prop:=CW b.tg/\b.bs.length<=5/\DT (I9 b.bs)/\Bg (I9 b.bs)/\AR b.tg b.bs b.bs.length/\CO b.bs
noncomputable def I1(b:Bk):Bool:=pB (J0 b)
theorem O1(bs:List Ba):(I9 bs).length=bs.length:=by simp[I9]
theorem BF(bs:List Ba)(k:Nat)(hk:k<bs.length):(I9 bs)[k]'(by rw[O1];exact hk)=(bs[k]).nm:=by simp[I9]
theorem Oz(bs:List Ba)(k:Nat):I9 (bs.take k)=(I9 bs).take k:=by simp[I9]
theorem AR.zero(tg:List ByteArray)(bs:List Ba):AR tg bs 0:=λi _ h=>by omega
theorem AR.step{tg:List ByteArray}{bs:List Ba}{k:Nat}(h:AR tg bs k)(hk:k<bs.length)(hl:Fy tg bs[k]):AR tg bs (k+1):=λi a hi ha=>by
 by_cases e:i=k
 ·subst e;rw[A0 hk] at ha;obtain rfl:=A5 ha;exact hl
 ·exact h i a (by omega) ha
theorem AR.at{tg:List ByteArray}{bs:List Ba}{n k:Nat}(h:AR tg bs n)(hn:k<n)(hk:k<bs.length):Fy tg bs[k]:=h k _ hn (by rw[A0])
theorem Rq{tg:List ByteArray}{bs:List Ba}{k:Nat}(h:AR tg bs k)(hk:¬k<bs.length):AR tg bs bs.length:=λi a hi ha=>h i a (by omega) ha
theorem V5.zero(bs:List Ba):V5 bs 0 0:=λi j _ _ _ h=>by omega
theorem V5.step{bs:List Ba}{n m:Nat}(h:V5 bs n m)(hn:n<bs.length)(hm:m<n)(hq:O4 (bs[n]).has (bs[m]).has=false):V5 bs n (m+1):=λi j x y hji hi hx hy=>by
 by_cases e:i=n/\j=m
 ·obtain⟨rfl,rfl⟩:=e;rw[A0 (by omega)] at hx hy;obtain rfl:=A5 hx;obtain rfl:=A5 hy;exact hq
 ·exact h i j x y hji (by omega) hx hy
theorem V5.next{bs:List Ba}{n m:Nat}(h:V5 bs n m)(hm:¬m<n):V5 bs (n+1) 0:=λi j x y hji hi hx hy=>h i j x y hji (by omega) hx hy
theorem Uj{bs:List Ba}{n:Nat}(h:V5 bs n 0)(hn:¬n<bs.length):CO bs:=λi j x y hji hi hx hy=>h i j x y hji (by
 have:=(A2.1 hx).1;omega) hx hy
theorem CO.at{bs:List Ba}(h:CO bs){n m:Nat}(hn:n<bs.length)(hm:m<n):O4 (bs[n]).has (bs[m]).has=false:=h n m _ _ hm (by omega) (by rw[A0]) (by rw[A0])
def CK(bs:List Ba)(s:ByteArray):ByteArray:=((bs.find? λx=>D2 x.has s).map (·.nm)).getD ⟨#[]⟩
noncomputable def X5(b:Bk)(s:ByteArray):ByteArray:=if I1 b=true then CK b.bs s else ⟨#[]⟩
def Fz(bs:List Ba)(s:ByteArray)(k:Nat):Prop:=∀(i:Nat)(x:Ba),i<k->bs[i]?=some x->D2 x.has s=false
theorem Fz.zero(bs:List Ba)(s:ByteArray):Fz bs s 0:=λi _ h=>by omega
theorem Fz.step{bs:List Ba}{s:ByteArray}{k:Nat}(h:Fz bs s k)(hk:k<bs.length)(hl:D2 (bs[k]).has s=false):Fz bs s (k+1):=λi a hi ha=>by
 by_cases e:i=k
 ·subst e;rw[A0 hk] at ha;obtain rfl:=A5 ha;exact hl
 ·exact h i a (by omega) ha
theorem Rr{bs:List Ba}{s:ByteArray}{k:Nat}(hk:k<bs.length)(h:Fz bs s k)(hl:D2 (bs[k]).has s=true):CK bs s=(bs[k]).nm:=by
 have:bs.find? (λx=>D2 x.has s)=some bs[k]:=by
  rw[List.find?_eq_some_iff_getElem];exact⟨hl,k,hk,rfl,λj hj=>by rw[h j _ hj (by rw[A0 (by omega)])];rfl⟩
 rw[CK,this];rfl
theorem Uk{bs:List Ba}{s:ByteArray}{k:Nat}(hk:¬k<bs.length)(h:Fz bs s k):CK bs s=⟨#[]⟩:=by
 have:bs.find? (λx=>D2 x.has s)=none:=by
  rw[List.find?_eq_none];intro x hx;obtain⟨i,hi,rfl⟩:=B7 hx;rw[h i _ (by omega) (by rw[A0])];simp
 rw[CK,this];rfl
def Z7(l:List ByteArray)(s:ByteArray):Int:=if D2 l s=true then (l.findIdx λx=>x.toList==s.toList:Nat) else -1
theorem EX{l:List ByteArray}{s:ByteArray}{k:Nat}(hk:k<l.length)(h:D2 (l.take k) s=false)(hq:((l[k]).toList==s.toList)=true):Z7 l s=(k:Int):=by
 have hf:l.findIdx (λx=>x.toList==s.toList)=k:=by
  rw[List.findIdx_eq hk];refine⟨hq,λj hj=>?_⟩;rw[D2,List.any_eq_false] at h;have:=h (l[j]) (by rw[List.mem_take_iff_getElem];exact⟨j,by omega,rfl⟩);simpa using this
 rw[Z7,if_pos (EW hk hq),hf]
theorem BH{l:List ByteArray}{s:ByteArray}(h:D2 l s=false):Z7 l s=-1:=by rw[Z7,h];simp
theorem Ki(l:List ByteArray)(s:ByteArray):decide (0<=Z7 l s)=D2 l s:=by
 cases h:D2 l s
 ·rw[BH h];rfl
 ·rw[Z7,if_pos h];simp
theorem GO(a b:List UInt8):(a==b)=(b==a):=by
 rw[Bool.eq_iff_iff,beq_iff_eq,beq_iff_eq];exact eq_comm
end Go.Proofs.YtmfjakieahkacaaGreatDoor
namespace Go.Proofs.YtmfjakieahkacaaGreatDoor
open Go.RowKit
def Ls(w:World)(v:Value)(ss:List ByteArray):Prop :=
 ∃a c,v=.slice a ss.length c/\ss.length<=maxLen/\(∀s∈ss,s.size<=maxLen)/\(0<ss.length->∃b o,a=some ⟨b,o,none⟩/\L6 w b o ss/\b<w.heap.size)
theorem L6.up{w w':World}{g o:Nat}{ss:List ByteArray}(h:L6 w g o ss)(hb:Below w.heap.size w w')(hg:g<w.heap.size):L6 w' g o ss :=
 λi s hs=>(hb.cell (p:=⟨g,o+i,none⟩) hg).trans (h i s hs)
theorem L6.cell{w:World}{g o:Nat}{ss:List ByteArray}(h:L6 w g o ss){k:Nat}(hk:k<ss.length):w.cell? ⟨g,o+k,none⟩=some (.string ss[k]):=h k _ (by rw[A0])
theorem Ls.up{w w':World}{v:Value}{ss:List ByteArray}(h:Ls w v ss)(hb:Below w.heap.size w w'):Ls w' v ss:=by
 obtain⟨a,c,rfl,h1,h2,h3⟩:=h;refine⟨a,c,rfl,h1,h2,λhp=>?_⟩;obtain⟨b,o,rfl,hS,hlt⟩:=h3 hp;exact⟨b,o,rfl,hS.up hb hlt,A1 hlt hb.size⟩
theorem Ls.inv{w:World}{a:Option Addr}{n c:Nat}{ss:List ByteArray}(h:Ls w (.slice a n c) ss):ss.length<=maxLen/\(∀s∈ss,s.size<=maxLen)/\(0<ss.length->∃b o,a=some ⟨b,o,none⟩/\L6 w b o ss/\b<w.heap.size):=by
 obtain⟨a',c',e,h1⟩:=h;obtain⟨rfl,-,rfl⟩:=Value.slice.inj e;exact h1
theorem Ls.drew{w:World}{v:Value}{ss:List ByteArray}(h:Ls w v ss):Ls w.drew v ss:=h
theorem Ls.drewN{w:World}{v:Value}{ss:List ByteArray}(h:Ls w v ss){n:Nat}:Ls (w.drewN n) v ss:=h
theorem Ls.take{w:World}{a:Option Addr}{c:Nat}{ss:List ByteArray}(h:Ls w (.slice a ss.length c) ss){k:Nat}(hk:k<=ss.length)(c':Nat):Ls w (.slice a k c') (ss.take k):=by
 obtain⟨a',c',e,h1,h2,h3⟩:=h;obtain⟨rfl,-,rfl⟩:=Value.slice.inj e;have hl:(ss.take k).length=k:=by rw[B8];omega
 refine⟨a,_,by rw[hl],by rw[hl];omega,λs hs=>h2 s (List.mem_of_mem_take hs),λhp=>?_⟩;obtain⟨b,o,rfl,hS,hlt⟩:=h3 (by omega);exact⟨b,o,rfl,hS.take k,hlt⟩
theorem Ls.nil(w:World)(a:Option Addr)(c:Nat):Ls w (.slice a 0 c) []:=⟨a,c,rfl,by simp,λs hs=>by simp at hs,λh=>by simp at h⟩
theorem JQ.ls{w:World}{v:Value}{ss:List ByteArray}(h:JQ w v ss)(hz:∀s∈ss,s.size<=maxLen):Ls w v ss:=by
 rcases h with⟨rfl,rfl⟩|⟨g,c,rfl,hS,hg,h1,h2⟩
 ·exact Ls.nil _ _ _
 ·exact⟨_,c,rfl,by omega,hz,λ_=>⟨g,0,rfl,hS,hg⟩⟩
def GP(w:World)(b o:Nat)(x:Ba):Prop:=∃hv nv,w.rangeAt b o [.string x.nm,hv,nv]/\Ls w hv x.has/\Ls w nv x.nd/\x.nm.size<=maxLen
theorem GP.up{w w':World}{b o:Nat}{x:Ba}(h:GP w b o x)(hb:Below w.heap.size w w')(hlt:b<w.heap.size):GP w' b o x:=by
 obtain⟨hv,nv,hr,h1,h2,h3⟩:=h;exact⟨hv,nv,λj v hv=>(hb.cell (p:=⟨b,o+j,none⟩) hlt).trans (hr j v hv),h1.up hb,h2.up hb,h3⟩
def GQ(w:World)(b o:Nat)(bs:List Ba):Prop:=∀(i:Nat)(x:Ba),bs[i]?=some x->GP w b (o+i*3) x
theorem GQ.up{w w':World}{b o:Nat}{bs:List Ba}(h:GQ w b o bs)(hb:Below w.heap.size w w')(hlt:b<w.heap.size):GQ w' b o bs:=λi x hx=>(h i x hx).up hb hlt
theorem GQ.at{w:World}{b o:Nat}{bs:List Ba}(h:GQ w b o bs){k:Nat}(hk:k<bs.length):GP w b (o+k*3) bs[k]:=h k _ (by rw[A0])
theorem GP.cells{w:World}{b o:Nat}{x:Ba}(h:GP w b o x):∃a1 c1 a2 c2,w.cell? ⟨b,o,none⟩=some (.string x.nm)/\w.cell? ⟨b,o+1,none⟩=some (.slice a1 x.has.length c1)/\w.cell? ⟨b,o+2,none⟩=some (.slice a2 x.nd.length c2)/\
  Ls w (.slice a1 x.has.length c1) x.has/\Ls w (.slice a2 x.nd.length c2) x.nd/\x.nm.size<=maxLen:=by
 obtain⟨hv,nv,hr,h1,h2,h3⟩:=h;obtain⟨a1,c1,rfl,-⟩:=id h1;obtain⟨a2,c2,rfl,-⟩:=id h2;exact⟨a1,c1,a2,c2,hr 0 _ rfl,hr 1 _ rfl,hr 2 _ rfl,h1,h2,h3⟩
def Bs(w:World)(v:Value)(bs:List Ba):Prop:=∃a c,v=.slice a bs.length c/\bs.length<=maxLen/\(0<bs.length->∃b o,a=some ⟨b,o,none⟩/\GQ w b o bs/\b<w.heap.size)
theorem Bs.up{w w':World}{v:Value}{bs:List Ba}(h:Bs w v bs)(hb:Below w.heap.size w w'):Bs w' v bs:=by
 obtain⟨a,c,rfl,h1,h3⟩:=h;refine⟨a,c,rfl,h1,λhp=>?_⟩;obtain⟨b,o,rfl,hS,hlt⟩:=h3 hp;exact⟨b,o,rfl,hS.up hb hlt,A1 hlt hb.size⟩
theorem Bs.drew{w:World}{v:Value}{bs:List Ba}(h:Bs w v bs):Bs w.drew v bs:=h
def K0(w:World)(v:Value)(b:Bk):Prop:=∃tv bv,v=.agg #[tv,bv]/\Ls w tv b.tg/\Bs w bv b.bs
theorem K0.up{w w':World}{v:Value}{b:Bk}(h:K0 w v b)(hb:Below w.heap.size w w'):K0 w' v b:=by
 obtain⟨tv,bv,rfl,h1,h2⟩:=h;exact⟨tv,bv,rfl,h1.up hb,h2.up hb⟩
theorem K0.drew{w:World}{v:Value}{b:Bk}(h:K0 w v b):K0 w.drew v b:=h
theorem K0.parts{w:World}{v:Value}{b:Bk}(h:K0 w v b):∃a1 c1 a2 c2,v=.agg #[.slice a1 b.tg.length c1,.slice a2 b.bs.length c2]/\Ls w (.slice a1 b.tg.length c1) b.tg/\Bs w (.slice a2 b.bs.length c2) b.bs:=by
 obtain⟨tv,bv,rfl,h1,h2⟩:=h;obtain⟨a1,c1,rfl,-⟩:=id h1;obtain⟨a2,c2,rfl,-⟩:=id h2;exact⟨a1,c1,a2,c2,rfl,h1,h2⟩
theorem CB.c2'{w:World}{b:Nat}{x0 x1:Value}(h:CB w b [x0,x1]):w.cell? ⟨b,0,none⟩=some x0/\w.cell? ⟨b,1,none⟩=some x1:=h.c2.1
theorem Bs.at{w:World}{a:Option Addr}{n c:Nat}{bs:List Ba}(h:Bs w (.slice a n c) bs):bs.length<=maxLen/\(0<bs.length->∃b o,a=some ⟨b,o,none⟩/\GQ w b o bs/\b<w.heap.size):=by
 obtain⟨a',c',e,h1⟩:=h;obtain⟨rfl,-,rfl⟩:=Value.slice.inj e;exact h1
theorem Kj(n:Nat)(w:World):
  Calls Tryz.prog 67 #[.int .i32 n] w λe w'=>e=.returned (.bool (EU n))/\w'=w:=by
 go_enter Tryz.func67,Tryz.ntmps67;go_wp2
 all_goals
  go_ret;exact⟨F6 (by rw[Bool.eq_iff_iff,Jo];simp;omega),rfl⟩
end Go.Proofs.YtmfjakieahkacaaGreatDoor
namespace Go.Proofs.YtmfjakieahkacaaGreatDoor
open Go.Maps
theorem Yw:∀(x y:List UInt8),Op.bytesLess x y=decide (x<y)
 | [],[]=>by simp[Op.bytesLess]
 | _::_,[]=>by simp[Op.bytesLess]
 | [],_::_=>by simp[Op.bytesLess]
 | a::x,b::y=>by
  rw[Op.bytesLess,Yw x y];simp only[List.cons_lt_cons_iff];by_cases h1:a<b<;>by_cases h2:a=b<;>by_cases h3:x<y<;>simp[h1,h2,h3]
theorem LR(a b:ByteArray):Z9 a b=true↔a.toList<b.toList:=by rw[Z9,Yw];simp
theorem FW{a b c:ByteArray}(h:Z9 a b=true)(k:Z9 b c=true):Z9 a c=true:=by
 rw[LR] at *;exact List.lt_trans h k
theorem Dg(a:ByteArray):Z9 a a=false:=by
 rw[← Bool.not_eq_true,LR];exact List.lt_irrefl _
theorem Dr{l:List ByteArray}(h:Bg l):∀(d i:Nat)(a b:ByteArray),l[i]?=some a->l[i+1+d]?=some b->Z9 a b=true
 | 0,i,a,b,ha,hb=>h i a b (A2.1 hb).1 ha hb
 | d+1,i,a,b,ha,hb=>by
  have hl:i+1+(d+1)<l.length:=(A2.1 hb).1;have hm:l[i+1]?=some l[i+1]:=A0 (by omega);exact FW (h i a _ (by omega) ha hm) (Dr h d (i+1) _ b hm (by rw[show i+1+1+d=i+1+(d+1) by omega];exact hb))
theorem GB{l:List ByteArray}(h:Bg l){i j:Nat}{a:ByteArray}(hi:l[i]?=some a)(hj:l[j]?=some a):i=j:=by
 rcases Nat.lt_trichotomy i j with h1|h1|h1
 ·have:=Dr h (j-i-1) i a a hi (by rw[show i+1+(j-i-1)=j by omega];exact hj);rw[Dg] at this;cases this
 ·exact h1
 ·have:=Dr h (i-j-1) j a a hj (by rw[show j+1+(i-j-1)=i by omega];exact hi);rw[Dg] at this;cases this
theorem Ei:∀(l m:List ByteArray),(∀(i j:Nat)(a:ByteArray),l[i]?=some a->l[j]?=some a->i=j)->(∀s∈l,s∈m)->l.length<=m.length
 | [],m,_,_=>by simp
 | x::r,m,hd,hs=>by
  have hx:x∈m:=hs x (by simp);obtain⟨m1,m2,rfl⟩:=List.append_of_mem hx
  have:=Ei r (m1++m2) (λi j a hi hj=>by
   have:=hd (i+1) (j+1) a (by simpa using hi) (by simpa using hj);omega) (λs h=>by
   have h1:=hs s (by simp[h]);rcases C6.1 h1 with h2|h2
   ·simp[h2]
   ·rcases List.mem_cons.1 h2 with h3|h3
    ·subst h3;obtain⟨i,hi,e⟩:=B7 h;have:=hd 0 (i+1) s (by simp) (by simp[A0 hi,e]);omega
    ·simp[h3])
  simp at this ⊢;omega
theorem Z5{l all:List ByteArray}(h:J9 l all):l.length<=all.length:=Ei l all (λ_ _ _ hi hj=>GB h.2 hi hj) (λ_ hs=>Fx h.1 hs)
def kl(s:ByteArray):Lit:=.string s.data.toList
theorem AaB{a b:ByteArray}(h:kl a=kl b):a=b:=by
 simp only[kl,Lit.string.injEq] at h;cases a;cases b;simp at h;rw[h]
theorem Ul(s:ByteArray):WideAt.IsKeyLit (kl s):=trivial
def Cc(bs:List Ba)(k m:Nat)(s:ByteArray)(i:Nat):Prop:=∃x,bs[i]?=some x/\(i<k/\s∈x.has∨i=k/\s∈x.has.take m)
def X7(D:DataW Unit)(bs:List Ba)(k m:Nat):Prop:=IsMap D/\(∀s,Maps.has D (kl s)=true->∃i,Cc bs k m s i)/\(∀s i,Cc bs k m s i->Maps.has D (kl s)=true/\∀z,D.atKey (kl s) z=.lit (.int .i64 (i:Int)))
theorem X7.start(bs:List Ba):X7 (.map []) bs 0 0:=by
 refine⟨isMap_empty,λs h=>by simp[Maps.has] at h,λs i h=>?_⟩;obtain⟨x,_,h|h⟩:=h
 ·omega
 ·simp at h
theorem Cc.up{bs:List Ba}{k m i:Nat}{s:ByteArray}(h:Cc bs k m s i):Cc bs k (m+1) s i:=by
 obtain⟨x,hx,h|⟨h1,h2⟩⟩:=h
 ·exact⟨x,hx,.inl h⟩
 ·refine⟨x,hx,.inr ⟨h1,?_⟩⟩;rw[List.mem_take_iff_getElem] at h2 ⊢
  obtain⟨j,hj,e⟩:=h2;exact⟨j,by omega,e⟩
theorem Cc.new{bs:List Ba}{k m:Nat}(hk:k<bs.length)(hm:m<(bs[k]).has.length):Cc bs k (m+1) ((bs[k]).has[m]) k :=
 ⟨bs[k],A0 hk,.inr ⟨rfl,by rw[List.mem_take_iff_getElem];exact⟨m,by omega,rfl⟩⟩⟩
theorem Cc.split{bs:List Ba}{k m i:Nat}{s:ByteArray}(hk:k<bs.length)(hm:m<(bs[k]).has.length)(h:Cc bs k (m+1) s i):Cc bs k m s i∨(i=k/\s=(bs[k]).has[m]):=by
 obtain⟨x,hx,h|⟨rfl,h2⟩⟩:=h
 ·exact .inl ⟨x,hx,.inl h⟩
 ·rw[A0 hk] at hx;obtain rfl:=A5 hx;rw[A7 hm] at h2;rcases C6.1 h2 with h3|h3
  ·exact .inl ⟨_,A0 hk,.inr ⟨rfl,h3⟩⟩
  ·exact .inr ⟨rfl,by simpa using h3⟩
theorem X7.step{D:DataW Unit}{bs:List Ba}{k m:Nat}(h:X7 D bs k m)(hk:k<bs.length)(hm:m<(bs[k]).has.length)(hn:Maps.has D (kl ((bs[k]).has[m]))=false):
  X7 (D.put (kl ((bs[k]).has[m])) (.lit (.int .i64 (k:Int)))) bs k (m+1):=by
 obtain⟨h1,h2,h3⟩:=h;refine⟨h1.put _ _,λs hs=>?_,λs i hi=>?_⟩
 ·by_cases e:kl s=kl ((bs[k]).has[m])
  ·obtain rfl:=AaB e;exact⟨k,Cc.new hk hm⟩
  ·rw[has_put_other e] at hs;obtain⟨i,hi⟩:=h2 s hs;exact⟨i,hi.up⟩
 ·rcases hi.split hk hm with h4|⟨rfl,rfl⟩
  ·have e:kl s≠kl ((bs[k]).has[m]):=λe=>by
    have:=(h3 s i h4).1;rw[e,hn] at this;cases this
   exact⟨by rw[has_put_other e];exact (h3 s i h4).1,λz=>by rw[atKey_put_other e];exact (h3 s i h4).2 z⟩
  ·exact⟨has_put_same h1 (Ul _) _,λz=>atKey_put_same h1 (Ul _) _ z⟩
theorem Cc.next{bs:List Ba}{k m i:Nat}{s:ByteArray}(hk:k<bs.length)(hm:¬m<(bs[k]).has.length):Cc bs k m s i↔Cc bs (k+1) 0 s i:=by
 constructor
 ·rintro⟨x,hx,h|⟨rfl,h2⟩⟩
  ·exact⟨x,hx,.inl ⟨by omega,h.2⟩⟩
  ·exact⟨x,hx,.inl ⟨by omega,List.mem_of_mem_take h2⟩⟩
 ·rintro⟨x,hx,h|⟨_,h2⟩⟩
  ·by_cases e:i=k
   ·subst e;rw[A0 hk] at hx;obtain rfl:=A5 hx;exact⟨_,A0 hk,.inr ⟨rfl,by rw[C8 (by omega)];exact h.2⟩⟩
   ·exact⟨x,hx,.inl ⟨by omega,h.2⟩⟩
  ·simp at h2
theorem X7.next{D:DataW Unit}{bs:List Ba}{k m:Nat}(h:X7 D bs k m)(hk:k<bs.length)(hm:¬m<(bs[k]).has.length):X7 D bs (k+1) 0 :=
 ⟨h.1,λs hs=>by obtain⟨i,hi⟩:=h.2.1 s hs;exact⟨i,(Cc.next hk hm).1 hi⟩,λs i hi=>h.2.2 s i ((Cc.next hk hm).2 hi)⟩
theorem X7.twice{D:DataW Unit}{bs:List Ba}{k m:Nat}(h:X7 D bs k m)(hk:k<bs.length)(hm:m<(bs[k]).has.length)(hd:Bg (bs[k]).has)(hn:Maps.has D (kl ((bs[k]).has[m]))=true):¬CO bs:=λha=>by
 obtain⟨i,x,hx,h4|⟨rfl,h4⟩⟩:=h.2.1 _ hn
 ·have hi:i<bs.length:=(A2.1 hx).1;have:=ha.at hk h4.1;rw[X9] at this;rw[A0 hi] at hx;obtain rfl:=A5 hx;exact this _ (List.getElem_mem hm) h4.2
 ·rw[A0 hk] at hx;obtain rfl:=A5 hx;rw[List.mem_take_iff_getElem] at h4;obtain⟨j,hj,e⟩:=h4;have:=GB hd (i:=j) (j:=m) (A0 (by omega)) (by rw[e];exact A0 hm);omega
theorem X7.apart{D:DataW Unit}{bs:List Ba}{k:Nat}(h:X7 D bs k 0)(hk:¬k<bs.length):CO bs:=λi j x y hji hi hx hy=>by
 have li:=(A2.1 hx).1;have lj:=(A2.1 hy).1;rw[X9];intro s h1 h2;have e1:=(h.2.2 s i ⟨x,hx,.inl ⟨by omega,h1⟩⟩).2 .nil;have e2:=(h.2.2 s j ⟨y,hy,.inl ⟨by omega,h2⟩⟩).2 .nil;rw[e1] at e2;simp at e2;omega
theorem X7.who{D:DataW Unit}{bs:List Ba}{k:Nat}(h:X7 D bs k 0){s:ByteArray}(hs:Maps.has D (kl s)=true):∃(i:Nat)(hi:i<bs.length),(∀z,D.atKey (kl s) z=.lit (.int .i64 (i:Int)))/\CK bs s=(bs[i]).nm:=by
 obtain⟨i,hi⟩:=h.2.1 s hs;have hz:=(h.2.2 s i hi).2;obtain⟨x,hx,h4|⟨_,h4⟩⟩:=hi
 ·have li:=(A2.1 hx).1;refine⟨i,li,hz,Rr li (λj y hj hy=>?_) ?_⟩
  ·rw[AD];intro h5;have:=(h.2.2 s j ⟨y,hy,.inl ⟨by omega,h5⟩⟩).2 .nil;rw[hz] at this;simp at this;omega
  ·rw[R8];rw[A0 li] at hx;obtain rfl:=A5 hx;exact h4.2
 ·simp at h4
theorem X7.whoNone{D:DataW Unit}{bs:List Ba}{k:Nat}(h:X7 D bs k 0)(hk:¬k<bs.length){s:ByteArray}(hs:Maps.has D (kl s)=false):CK bs s=⟨#[]⟩ :=
 Uk hk λi x hi hx=>by
  rw[AD];intro h5;have:=(h.2.2 s i ⟨x,hx,.inl ⟨hi,h5⟩⟩).1;rw[hs] at this;cases this
end Go.Proofs.YtmfjakieahkacaaGreatDoor
namespace Go.Proofs.YtmfjakieahkacaaGreatDoor
open Go.RowKit
end Go.Proofs.YtmfjakieahkacaaGreatDoor
namespace Go.Proofs.YtmfjakieahkacaaGreatDoor
def F0:List ByteArray->(ByteArray->Bool)->Nat
 | [],_=>0
 | t::r,P=>(if P t=true then 1 else 0)+2*F0 r P
theorem KC(P:ByteArray->Bool)(t:ByteArray):∀l:List ByteArray,F0 (l++[t]) P=F0 l P+(if P t=true then 2 ^ l.length else 0)
 | []=>by simp[F0]
 | x::r=>by
  rw[List.cons_append,F0,F0,KC P t r,List.length_cons,Nat.pow_succ];split<;>split<;>omega
theorem OA(P:ByteArray->Bool):∀l:List ByteArray,F0 l P<2 ^ l.length
 | []=>by simp[F0]
 | x::r=>by
  have:=OA P r;rw[F0,List.length_cons,Nat.pow_succ];split<;>omega
theorem S2{l:List ByteArray}(h:l.length<=8)(P:ByteArray->Bool):F0 l P<256 :=
 A1 (OA P l) (Nat.pow_le_pow_right (by omega) h)
theorem Ds{P Q:ByteArray->Bool}:∀{l:List ByteArray},(∀t∈l,P t=Q t)->F0 l P=F0 l Q
 | [],_=>rfl
 | x::r,h=>by rw[F0,F0,h x (by simp),Ds λt ht=>h t (by simp[ht])]
theorem FX{P Q:ByteArray->Bool}:∀{l:List ByteArray},(∀t∈l,P t=true->Q t=false)->F0 l P+F0 l Q=F0 l λt=>P t || Q t
 | [],_=>rfl
 | x::r,h=>by
  have h1:=FX (P:=P) (Q:=Q) (l:=r) λt ht=>h t (by simp[ht]);have h2:=h x (by simp);rw[F0,F0,F0,← h1];cases hp:P x<;>cases hq:Q x<;>simp_all<;>omega
theorem Um{P Q:ByteArray->Bool}{l:List ByteArray}(h:∀t∈l,Q t=true->P t=true):F0 l P=F0 l Q+F0 l λt=>P t && !Q t:=by
 rw[FX (λt _ hq=>by simp[hq])];refine Ds λt ht=>?_;cases hq:Q t
 ·simp
 ·simp[h t ht hq]
theorem DU(P:ByteArray->Bool):∀(l:List ByteArray)(i:Nat),(F0 l P).testBit i=(l[i]?.map P).getD false
 | [],i=>by simp[F0]
 | x::r,0=>by
  rw[F0,Nat.testBit_zero];have e:((if P x=true then 1 else 0)+2*F0 r P) % 2=(if P x=true then 1 else 0):=by split<;>omega
  rw[e];cases h:P x<;>simp[h]
 | x::r,i+1=>by
  rw[F0,Nat.testBit_succ,List.getElem?_cons_succ,← DU P r i];congr 1
  split<;>omega
theorem Un{P Q:ByteArray->Bool}{l:List ByteArray}(hl:l.length<=8):(F0 l P &&& (18446744073709551615-F0 l Q)=0)↔∀t∈l,P t=true->Q t=true:=by
 have hQ:=S2 hl Q;have e:18446744073709551615-F0 l Q=2 ^ 64-(F0 l Q+1):=by omega
 constructor
 ·intro h t ht hp;obtain⟨i,hi,rfl⟩:=B7 ht;have h1:=congrArg (Nat.testBit · i) h;simp only[Nat.testBit_and,Nat.zero_testBit] at h1;rw[e,Nat.testBit_two_pow_sub_succ (by omega),DU,DU,A0 hi] at h1;simp[hp] at h1;exact h1 (by omega)
 ·intro h;refine Nat.eq_of_testBit_eq λi=>?_;rw[Nat.testBit_and,Nat.zero_testBit,e,Nat.testBit_two_pow_sub_succ (by omega),DU,DU];rcases Nat.lt_or_ge i l.length with hi|hi
  ·rw[A0 hi];have:=h l[i] (List.getElem_mem hi);cases hp:P l[i]<;>simp_all
  ·rw[List.getElem?_eq_none hi];simp
def CP(bs:List Ba)(at':Nat)(gone:List ByteArray)(k:Nat):Prop:=∀(i:Nat)(x y:Ba),i<k->i≠at'->bs[i]?=some x->bs[at']?=some y->D2 gone x.nm=false->O4 x.has y.nd=false
def CQ(bs:List Ba)(at':Nat)(gone:List ByteArray):Prop:=CP bs at' gone bs.length
theorem CP.zero(bs:List Ba)(a:Nat)(gone:List ByteArray):CP bs a gone 0:=λi _ _ h=>by omega
theorem YZ{bs:List Ba}{a:Nat}{gone:List ByteArray}{k:Nat}(h:CP bs a gone k)(hk:¬k<bs.length):CQ bs a gone:=λi x y hi hne hx hy hm=>h i x y (by omega) hne hx hy hm
theorem CP.step{bs:List Ba}{a:Nat}{gone:List ByteArray}{k:Nat}(h:CP bs a gone k)(hk:k<bs.length)(ha:a<bs.length)(h1:k=a∨D2 gone (bs[k]).nm=true∨O4 (bs[k]).has (bs[a]).nd=false):CP bs a gone (k+1):=λi x y hi hne hx hy hm=>by
 by_cases e:i=k
 ·subst e;rw[A0 hk] at hx;rw[A0 ha] at hy;obtain rfl:=A5 hx;obtain rfl:=A5 hy;rcases h1 with h1|h1|h1
  ·exact absurd h1 hne
  ·rw[hm] at h1;cases h1
  ·exact h1
 ·exact h i x y (by omega) hne hx hy hm
theorem AaC{bs:List Ba}{a:Nat}{gone:List ByteArray}{k:Nat}(hk:k<bs.length)(ha:a<bs.length)(hne:k≠a)(hm:D2 gone (bs[k]).nm=false)(hs:O4 (bs[k]).has (bs[a]).nd=true):¬CQ bs a gone:=λh=>by
 have:=h k _ _ hk hne (A0 hk) (A0 ha) hm;rw[hs] at this;cases this
def NZ(bs:List Ba)(G:Nat->Bool)(k:Nat)(t:ByteArray):Bool:=(List.range k).all λi=>G i || !((bs[i]?.map λx=>D2 x.has t).getD false)
theorem IC(bs:List Ba)(G:Nat->Bool)(k:Nat)(t:ByteArray):NZ bs G k t=true↔∀(i:Nat)(x:Ba),i<k->bs[i]?=some x->G i=false->D2 x.has t=false:=by
 simp only[NZ,List.all_eq_true,List.mem_range];constructor
 ·intro h i x hi hx hg;have:=h i hi;rw[hx,hg] at this;simpa using this
 ·intro h i hi;cases hg:G i
  ·cases hx:bs[i]? with
   | none=>simp
   | some x=>simp[h i x hi hx hg]
  ·rfl
theorem WH{b:Bk}(hok:J0 b){a:Nat}(ha:a<b.bs.length){gone:List ByteArray}{G:Nat->Bool}(hG:∀(i:Nat)(hi:i<b.bs.length),G i=D2 gone (b.bs[i]).nm)(hga:G a=false):
  (∀t∈b.tg,D2 (b.bs[a]).nd t=true->(NZ b.bs G b.bs.length t || D2 (b.bs[a]).has t)=true)↔CQ b.bs a gone:=by
 have hb:=hok.2.2.2.2.1.at ha ha;constructor
 ·intro h i x y hi hne hx hy hm;rw[A0 hi] at hx;rw[A0 ha] at hy;obtain rfl:=A5 hx;obtain rfl:=A5 hy;rw[X9];intro s h1 h2;have h3:=h s (Fx hb.1.1 h2) ((R8 _ _).2 h2);rcases Bool.or_eq_true_iff.1 h3 with h4|h4
  ·have:=(IC _ _ _ _).1 h4 i _ hi (A0 hi) (by rw[hG i hi];exact hm);rw[AD] at this;exact this h1
  ·have h5:=(R8 _ _).1 h4;rcases Nat.lt_or_gt_of_ne hne with h6|h6
   ·have:=hok.2.2.2.2.2.at ha h6;rw[X9] at this;exact this s h5 h1
   ·have:=hok.2.2.2.2.2.at hi h6;rw[X9] at this;exact this s h1 h5
 ·intro h t ht hn;cases hh:D2 (b.bs[a]).has t
  ·rw[Bool.or_false,IC];intro i x hi hx hg;rw[A0 hi] at hx;obtain rfl:=A5 hx;by_cases e:i=a
   ·subst e;exact hh
   ·have:=h i _ _ hi e (A0 hi) (A0 ha) (by rw[← hG i hi];exact hg);rw[X9] at this;rw[AD];exact λh1=>this t h1 ((R8 _ _).1 hn)
  ·simp
def BI(bs:List Ba)(order:List ByteArray)(k:Nat):Prop:=∀(i:Nat)(s:ByteArray),i<k->order[i]?=some s->0<=Z7 (I9 bs) s/\D2 (order.take i) s=false/\CQ bs (Z7 (I9 bs) s).toNat (order.take i)
def CL(b:Bk)(order:List ByteArray):Prop:=J0 b/\order.length=b.bs.length/\BI b.bs order order.length
theorem BI.zero(bs:List Ba)(order:List ByteArray):BI bs order 0:=λi _ h=>by omega
theorem BI.step{bs:List Ba}{order:List ByteArray}{k:Nat}(h:BI bs order k)(hk:k<order.length)(h1:0<=Z7 (I9 bs) order[k]/\D2 (order.take k) order[k]=false/\CQ bs (Z7 (I9 bs) order[k]).toNat (order.take k)):BI bs order (k+1):=λi s hi hs=>by
 by_cases e:i=k
 ·subst e;rw[A0 hk] at hs;obtain rfl:=A5 hs;exact h1
 ·exact h i s (by omega) hs
theorem Za{b:Bk}{order:List ByteArray}(h:CL b order){k:Nat}(hk:k<order.length):0<=Z7 (I9 b.bs) order[k]/\D2 (order.take k) order[k]=false/\CQ b.bs (Z7 (I9 b.bs) order[k]).toNat (order.take k):=h.2.2 k _ hk (A0 hk)
theorem WI{b:Bk}{order:List ByteArray}{k:Nat}(hok:J0 b)(hl:order.length=b.bs.length)(h:BI b.bs order k)(hk:¬k<order.length):CL b order:=⟨hok,hl,λi s hi hs=>h i s (by omega) hs⟩
theorem Fm{l:List ByteArray}{s:ByteArray}(h:0<=Z7 l s):∃k:Nat,Z7 l s=(k:Int)/\∃hk:k<l.length,l[k]=s:=by
 rw[Z7] at h ⊢
 split at h
 ·rename_i hm;rw[if_pos hm];refine⟨_,rfl,?_⟩
  have hl:l.findIdx (λx=>x.toList==s.toList)<l.length:=by
   rw[List.findIdx_lt_length];rw[D2,List.any_eq_true] at hm;exact hm
  refine⟨hl,?_⟩;have:=List.findIdx_getElem (w:=hl);exact EG (by simpa using this)
 ·omega
abbrev Tr:=Ba×Bool
def EP(tg:List ByteArray)(p:Tr):List Value:=[.string p.1.nm,.int .u64 (F0 tg (D2 p.1.has):Nat),.int .u64 (F0 tg (D2 p.1.nd):Nat),.bool p.2]
def Ai(tg:List ByteArray):List Tr->List Value
 | []=>[]
 | p::r=>EP tg p++Ai tg r
theorem KD(tg:List ByteArray)(p:Tr):∀ts:List Tr,Ai tg (ts++[p])=Ai tg ts++EP tg p
 | []=>by simp[Ai]
 | q::r=>by rw[List.cons_append,Ai,Ai,KD tg p r,List.append_assoc]
theorem EI(tg:List ByteArray):∀(ts:List Tr)(i j:Nat)(p:Tr),ts[i]?=some p->j<4->(Ai tg ts)[i*4+j]?=(EP tg p)[j]?
 | [],i,j,p,h,_=>by simp at h
 | q::r,0,j,p,h,hj=>by
  simp at h;subst h
  rw[Ai,List.getElem?_append_left (by simp[EP];omega)];simp
 | q::r,i+1,j,p,h,hj=>by
  rw[Ai,List.getElem?_append_right (by simp[EP];omega)];have e:(i+1)*4+j-(EP tg q).length=i*4+j:=by simp[EP];omega
  rw[e];exact EI tg r i j p (by simpa using h) hj
theorem ML(tg:List ByteArray):∀(ts:List Tr)(i:Nat)(p:Tr),ts[i]?=some p->(Ai tg ts).set (i*4+3) (.bool true)=Ai tg (ts.set i (p.1,true))
 | [],i,p,h=>by simp at h
 | q::r,0,p,h=>by
  simp at h;subst h
  simp[Ai,EP]
 | q::r,i+1,p,h=>by
  rw[Ai,List.set_append_right _ _ (by simp[EP];omega)];have e:(i+1)*4+3-(EP tg q).length=i*4+3:=by simp[EP];omega
  rw[e,ML tg r i p (by simpa using h)];simp[Ai]
def P6(ts:List Tr)(t:ByteArray):Bool:=ts.all λp=>p.2 || !D2 p.1.has t
theorem DI(ts:List Tr)(t:ByteArray):P6 ts t=true↔∀(i:Nat)(p:Tr),ts[i]?=some p->p.2=false->D2 p.1.has t=false:=by
 simp only[P6,List.all_eq_true,Bool.or_eq_true,Bool.not_eq_true'];constructor
 ·intro h i p hp h2;rcases h p (A6 hp) with h3|h3
  ·rw[h2] at h3;cases h3
  ·exact h3
 ·intro h p hp;obtain⟨i,hi,rfl⟩:=B7 hp;cases h2:ts[i].2
  ·exact .inr (h i _ (A0 hi) h2)
  ·exact .inl rfl
theorem OB{bs:List Ba}{ts:List Tr}(h:ts.map (·.1)=bs)(t:ByteArray):P6 ts t=NZ bs (λi=>(ts[i]?.map (·.2)).getD false) bs.length t:=by
 rw[Bool.eq_iff_iff,DI,IC];subst h;constructor
 ·intro h i x hi hx hg;rw[A9,B6] at hx;obtain⟨p,hp,rfl⟩:=hx;exact h i p hp (by rw[hp] at hg;simpa using hg)
 ·intro h i p hp h2;exact h i p.1 (by simpa using (A2.1 hp).1) (by rw[A9,hp];rfl) (by rw[hp];simpa using h2)
theorem SL(ts:List Tr)(p:Tr)(t:ByteArray):P6 (ts++[p]) t=(P6 ts t&&(p.2 || !D2 p.1.has t)):=by simp[P6]
theorem Dt{bs:List Ba}{ts:List Tr}(h:ts.map (·.1)=bs){i:Nat}{p:Tr}(hp:ts[i]?=some p):bs[i]?=some p.1:=by subst h;rw[A9,hp];rfl
theorem Uo{bs:List Ba}(ha:CO bs){ts:List Tr}{k:Nat}(hk:k<bs.length)(h:ts.map (·.1)=bs.take k)(tg:List ByteArray):
  F0 tg (P6 ts)=F0 tg (D2 (bs[k]).has)+F0 tg (P6 (ts++[(bs[k],false)])):=by
 rw[Um (P:=P6 ts) (Q:=D2 (bs[k]).has)]
 ·congr 1
  refine Ds λt _=>?_;rw[SL];simp
 ·intro t _ hm;rw[DI];intro i p hp _;have h1:=Dt h hp;rw[List.getElem?_take] at h1;split at h1
  ·rename_i hi;rw[A0 (by omega)] at h1;obtain h1:=A5 h1;have:=ha.at hk hi;rw[X9] at this;rw[AD,← h1];exact this t ((R8 _ _).1 hm)
  ·cases h1
theorem SM{bs:List Ba}(ha:CO bs){ts:List Tr}{i:Nat}{p:Tr}(h:ts.map (·.1)=bs)(hp:ts[i]?=some p)(hg:p.2=false)(tg:List ByteArray):
  F0 tg (P6 ts)+F0 tg (D2 p.1.has)=F0 tg (P6 (ts.set i (p.1,true))):=by
 have hi:=(A2.1 hp).1;have hb:=Dt h hp;have hib:i<bs.length:=by rw[← h];simpa using hi
 rw[FX]
 ·refine Ds λt _=>?_;rw[Bool.eq_iff_iff,Bool.or_eq_true,DI,DI];constructor
  ·rintro (h1|h1) j q hq hg2
   ·rw[List.getElem?_set] at hq;split at hq
    ·obtain rfl:=A5 hq;cases hg2
    ·exact h1 j q hq hg2
   ·rw[List.getElem?_set] at hq;split at hq
    ·obtain rfl:=A5 hq;cases hg2
    ·rename_i hne;have hq':=Dt h hq;have hjb:=(A2.1 hq').1;rw[AD];intro h5;have h6:=(R8 _ _).1 h1;rw[A0 hjb] at hq';rw[A0 hib] at hb;have hq2:=A5 hq';have hb2:=A5 hb;rcases Nat.lt_or_gt_of_ne hne with h7|h7
     ·have:=ha.at hjb h7;rw[X9,hq2,hb2] at this;exact this t h5 h6
     ·have:=ha.at hib h7;rw[X9,hq2,hb2] at this;exact this t h6 h5
  ·intro h1;cases hm:D2 p.1.has t
   ·refine .inl λj q hq hg2=>?_;by_cases e:i=j
    ·subst e;rw[hp] at hq;obtain rfl:=A5 hq;exact hm
    ·exact h1 j q (by rw[List.getElem?_set,if_neg e];exact hq) hg2
   ·exact .inr rfl
 ·intro t _ h1;exact (DI _ _).1 h1 i p hp hg
theorem Jr{b:Bk}(hok:J0 b){ts:List Tr}(h:ts.map (·.1)=b.bs){gone:List ByteArray}(hG:∀(i:Nat)(p:Tr),ts[i]?=some p->p.2=D2 gone p.1.nm){a:Nat}{p:Tr}(hp:ts[a]?=some p)(hg:p.2=false):
  (F0 b.tg (D2 p.1.nd) &&& (18446744073709551615-(F0 b.tg (P6 ts)+F0 b.tg (D2 p.1.has)))=0)↔CQ b.bs a gone:=by
 have hb:=Dt h hp;have hab:a<b.bs.length:=(A2.1 hb).1;have hb2:b.bs[a]=p.1:=by rw[A0 hab] at hb;exact A5 hb
 rw[FX (λt _ h1=>(DI _ _).1 h1 a p hp hg),Un hok.1.1,
  ← WH hok hab (gone:=gone) (G:=λi=>(ts[i]?.map (·.2)).getD false) (λi hi=>?_) (by simp[hp,hg]),hb2]
 ·constructor
  ·intro h1 t ht hn;rw[← OB h];exact h1 t ht hn
  ·intro h1 t ht hn;have:=h1 t ht hn;rwa [← OB h] at this
 ·have hi':i<ts.length:=by rw[← h] at hi;simpa using hi
  have e:=Dt h (A0 hi');rw[A0 hi] at e;rw[A0 hi'];simp only[Option.map_some,Option.getD_some];rw[hG i _ (A0 hi'),A5 e]
def Good(bs:List Ba)(gone:List ByteArray)(k:Nat):Prop:=∃x,bs[k]?=some x/\D2 gone x.nm=false/\CQ bs k gone
def Y6(bs:List Ba)(gone:List ByteArray)(n:Int):Prop:=(n=-1/\∀k,k<bs.length->¬Good bs gone k)∨∃k:Nat,n=(k:Int)/\k<bs.length/\Good bs gone k/\∀j,j<k->¬Good bs gone j
theorem Y6.uniq{bs:List Ba}{gone:List ByteArray}{m n:Int}(h:Y6 bs gone m)(h':Y6 bs gone n):m=n:=by
 rcases h with⟨rfl,h1⟩|⟨k,rfl,hk,hg,hl⟩<;>rcases h' with⟨rfl,h2⟩|⟨j,rfl,hj,gg,gl⟩
 ·rfl
 ·exact absurd gg (h1 j hj)
 ·exact absurd hg (h2 k hk)
 ·rcases Nat.lt_trichotomy k j with h3|h3|h3
  ·exact absurd hg (gl k h3)
  ·rw[h3]
  ·exact absurd gg (hl j h3)
inductive Ag (bs:List Ba):Nat->List ByteArray->Prop
 | none:Ag bs 0 []
 | more {n:Nat} {gone:List ByteArray} {k:Nat} {x:Ba}:Ag bs n gone->Y6 bs gone (k:Int)->bs[k]?=some x->Ag bs (n+1) (gone++[x.nm])
theorem Ag.length{bs:List Ba}{n:Nat}{gone:List ByteArray}(h:Ag bs n gone):gone.length=n:=by
 induction h with
 | none=>rfl
 | more _ _ _ ih=>simp[ih]
theorem Ag.uniq{bs:List Ba}{n:Nat}{g g':List ByteArray}(h:Ag bs n g)(h':Ag bs n g'):g=g':=by
 induction h generalizing g' with
 | none=>cases h';rfl
 | more h1 h2 h3 ih =>
  cases h' with
  | more k1 k2 k3 =>
   obtain rfl:=ih k1;have e:=h2.uniq k2;obtain rfl:_=_:=Int.ofNat.inj e;rw[h3] at k3;obtain rfl:=A5 k3;rfl
theorem Ag.part{bs:List Ba}{n:Nat}{gone:List ByteArray}(h:Ag bs n gone):∀m,m<=n->Ag bs m (gone.take m):=by
 induction h with
 | none=>intro m hm;obtain rfl:m=0:=(by omega);exact .none
 | @more n gone k x h1 h2 h3 ih =>
  intro m hm;have hl:=h1.length;by_cases e:m=n+1
  ·subst e;rw[C8 (by simp[hl])];exact .more h1 h2 h3
  ·rw[List.take_append_of_le_length (by omega)];exact ih m (by omega)
def U4(b:Bk)(ss:List ByteArray)(ok:Bool):Prop:=(ok=true/\J0 b/\Ag b.bs b.bs.length ss)∨(ok=false/\ss=[]/\(¬J0 b∨∃n gone,n<b.bs.length/\Ag b.bs n gone/\Y6 b.bs gone (-1)))
theorem U4.uniq{b:Bk}{ss ss':List ByteArray}{ok ok':Bool}(h:U4 b ss ok)(h':U4 b ss' ok'):ss=ss'/\ok=ok':=by
 have no:∀{t},J0 b->Ag b.bs b.bs.length t->¬(¬J0 b∨∃n gone,n<b.bs.length/\Ag b.bs n gone/\Y6 b.bs gone (-1)):=by
  rintro t hb hg (h1|⟨n,gone,hn,h2,h3⟩)
  ·exact h1 hb
  ·have h4:=hg.part (n+1) (by omega);have hl:=hg.length;generalize hq:t.take (n+1)=q at h4;cases h4 with
   | more k1 k2 k3 =>
    obtain rfl:=h2.uniq k1;have:=h3.uniq k2;omega
 rcases h with⟨rfl,h1,h2⟩|⟨rfl,rfl,h2⟩<;>rcases h' with⟨rfl,g1,g2⟩|⟨rfl,rfl,g2⟩
 ·exact⟨h2.uniq g2,rfl⟩
 ·exact absurd g2 (no h1 h2)
 ·exact absurd h2 (no g1 g2)
 ·exact⟨rfl,rfl⟩
theorem Ev{bs:List Ba}{gone:List ByteArray}{k:Nat}(h:∀j,j<k->¬Good bs gone j)(h1:¬Good bs gone k):∀j,j<k+1->¬Good bs gone j:=λj hj=>by
 by_cases e:j=k
 ·subst e;exact h1
 ·exact h j (by omega)
theorem WJ{bs:List Ba}{gone:List ByteArray}{k:Nat}(hk:k<bs.length):Good bs gone k↔D2 gone (bs[k]).nm=false/\CQ bs k gone:=by
 constructor
 ·rintro⟨x,hx,h⟩;rw[A0 hk] at hx;obtain rfl:=A5 hx;exact h
 ·exact λh=>⟨_,A0 hk,h⟩
end Go.Proofs.YtmfjakieahkacaaGreatDoor
namespace Go.Proofs.YtmfjakieahkacaaGreatDoor
open Go.RowKit Go.Extern.Stop Go.Stop Go.Extern
theorem AaD(t:Value)(w:World):Calls Tryz.prog 38 #[.nilIface,t] w λe w'=>e=.returned (.bool false)/\w'=w:=by
 go_enter Tryz.func38,Tryz.ntmps38;go_wp2;go_ret;exact⟨rfl,rfl⟩
theorem MM(t:Addr)(w:World):(ReflectliteValue.unpack (.iface 80 (.pointer (some t)))).run Tryz.prog w=.ok (Value.agg #[(Value.pointer (some ⟨1,80,none⟩)),.pointer (some ⟨w.heap.size,0,none⟩),.int .u64 150]) (w.alloc (.cells #[.pointer (some t)] 80)):=by kernel_rfl
theorem OC(a:Addr)(w:World):(ReflectliteValue.methodAny (ReflectliteValue.valueError "reflectlite.Value.Type" 0) (λt _ _ _=>ReflectliteType.toType t) #[(Value.agg #[(Value.pointer (some ⟨1,80,none⟩)),.pointer (some a),.int .u64 150])]).run Tryz.prog w=.ok (Value.iface 155 (.agg #[(Value.pointer (some ⟨1,80,none⟩))])) w:=by kernel_rfl
theorem OD(h:Value)(w:World):(Go.method 118 155 (.agg #[h]) "Kind").run Tryz.prog w=.ok (145,h) w:=by kernel_rfl
theorem OE(h:Value)(w:World):(Go.method 118 155 (.agg #[h]) "Elem").run Tryz.prog w=.ok (163,.agg #[h]) w:=by kernel_rfl
theorem OG(h:Value)(w:World):(Go.method 118 155 (.agg #[h]) "Implements").run Tryz.prog w=.ok (164,.agg #[h]) w:=by kernel_rfl
theorem KE(h:Value)(w:World):(Go.method 118 155 (.agg #[h]) "AssignableTo").run Tryz.prog w=.ok (161,.agg #[h]) w:=by kernel_rfl
theorem OH(w:World):((ReflectliteType.abiMethod λt=>(λa:Nat=>Value.int IntKind.u8 (a:Int)) <$> Rtype.kind t) #[(Value.pointer (some ⟨1,80,none⟩))]).run Tryz.prog w=.ok (.int .u8 22) w:=by kernel_rfl
theorem OI(w:World):((ReflectliteType.abiMethod λt=>(λa:Nat=>Value.int IntKind.u8 (a:Int)) <$> Rtype.kind t) #[(Value.pointer (some ⟨1,78,none⟩))]).run Tryz.prog w=.ok (.int .u8 25) w:=by kernel_rfl
theorem OJ(w:World):(ReflectliteType.method ReflectliteType.elem #[.agg #[(Value.pointer (some ⟨1,80,none⟩))]]).run Tryz.prog w=.ok (Value.iface 155 (.agg #[(Value.pointer (some ⟨1,78,none⟩))])) w:=by kernel_rfl
theorem OK(w:World):(ReflectliteType.relation "Implements" ReflectliteType.implements_ #[.agg #[(Value.pointer (some ⟨1,78,none⟩))],(Value.iface 155 (.agg #[(Value.pointer (some ⟨1,74,none⟩))]))]).run Tryz.prog w=.ok (.bool true) w:=by kernel_rfl
theorem OL(v:Value)(w:World):(ReflectliteType.typeOf #[.iface 78 v]).run Tryz.prog w=.ok (Value.iface 155 (.agg #[(Value.pointer (some ⟨1,78,none⟩))])) w:=by kernel_rfl
theorem OM(v:Value)(w:World):(ReflectliteType.typeOf #[.iface 109 v]).run Tryz.prog w=.ok (Value.iface 155 (.agg #[(Value.pointer (some ⟨1,109,none⟩))])) w:=by kernel_rfl
theorem KF(w:World):(ReflectliteType.relation "AssignableTo" ReflectliteType.assignableTo #[.agg #[(Value.pointer (some ⟨1,78,none⟩))],(Value.iface 155 (.agg #[(Value.pointer (some ⟨1,78,none⟩))]))]).run Tryz.prog w=.ok (.bool true) w:=by kernel_rfl
theorem KG(w:World):(ReflectliteType.relation "AssignableTo" ReflectliteType.assignableTo #[.agg #[(Value.pointer (some ⟨1,109,none⟩))],(Value.iface 155 (.agg #[(Value.pointer (some ⟨1,78,none⟩))]))]).run Tryz.prog w=.ok (.bool false) w:=by kernel_rfl
theorem MN(c:Int)(w:World):(ReflectliteValue.unpack (.iface 78 (.agg #[.int .i64 c]))).run Tryz.prog w=.ok (.agg #[(Value.pointer (some ⟨1,78,none⟩)),.pointer (some ⟨w.heap.size,0,none⟩),.int .u64 153]) (w.alloc (.cells #[.int .i64 c] 78)):=by kernel_rfl
theorem Uq(w:World):(Rtype.elem? 80).run Tryz.prog w=.ok (some 78) w:=by kernel_rfl
theorem AaE(p:Addr)(w:World):(ReflectliteValue.mk 78 p ReflectliteValue.flagAddr).run Tryz.prog w=.ok (.agg #[(Value.pointer (some ⟨1,78,none⟩)),.pointer (some p),.int .u64 409]) w:=by kernel_rfl
theorem MO(a:Addr)(w:World):(ReflectliteValue.parts (Value.agg #[(Value.pointer (some ⟨1,80,none⟩)),.pointer (some a),.int .u64 150])).run Tryz.prog w=.ok (some (80,a,150)) w:=by kernel_rfl
theorem Ur(a:Addr)(w:World):(ReflectliteValue.parts (.agg #[(Value.pointer (some ⟨1,78,none⟩)),.pointer (some a),.int .u64 409])).run Tryz.prog w=.ok (some (78,a,409)) w:=by kernel_rfl
theorem Us(a:Addr)(w:World):(ReflectliteValue.parts (.agg #[(Value.pointer (some ⟨1,78,none⟩)),.pointer (some a),.int .u64 153])).run Tryz.prog w=.ok (some (78,a,153)) w:=by kernel_rfl
theorem Ut(w:World):(Rtype.directlyAssignable 78 78).run Tryz.prog w=.ok true w:=by kernel_rfl
end Go.Proofs.YtmfjakieahkacaaGreatDoor
namespace Go.Proofs.YtmfjakieahkacaaGreatDoor
open Go.RowKit
end Go.Proofs.YtmfjakieahkacaaGreatDoor
