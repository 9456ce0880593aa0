/- The laws' own helpers over batches: sizes, copies, held against each other. -/
import Derived.Test.YtgecdacgmehmbaaGreatDoorJ26
import Derived.Test.YtgecdacgmehmbaaGreatDoorU3
import Derived.Test.YtgecdacgmehmbaaGreatDoorJ10
import Derived.Test.YtgecdacgmehmbaaGreatDoorJ28
import Derived.Test.YtgecdacgmehmbaaGreatDoorJ11
import Derived.Test.YtgecdacgmehmbaaGreatDoorJ2
import Derived.Test.YtgecdacgmehmbaaGreatDoorJ19
import Derived.Test.YtgecdacgmehmbaaGreatDoorXr
import Derived.Test.YtgecdacgmehmbaaGreatDoorJ27
set_option maxRecDepth 20000
set_option maxHeartbeats 4000000
namespace Go.Proofs.YtgecdacgmehmbaaGreatDoor
open Go.RowKit
theorem Ame {W w0:World} {q r:Nat} {x0 x1 x2 x3 x4 x5 x6 x7 x8 x9 x10 x11:Value} (h:Below W.heap.size W w0/\w0.cell? ⟨q,0,none⟩=some x0/\w0.cell? ⟨q,1,none⟩=some x1/\w0.cell? ⟨q,2,none⟩=some x2/\w0.cell? ⟨q,3,none⟩=some x3/\w0.cell? ⟨q,4,none⟩=some x4/\w0.cell? ⟨q,5,none⟩=some x5/\w0.cell? ⟨r,0,none⟩=some x6/\w0.cell? ⟨r,1,none⟩=some x7/\w0.cell? ⟨r,2,none⟩=some x8/\w0.cell? ⟨r,3,none⟩=some x9/\w0.cell? ⟨r,4,none⟩=some x10/\w0.cell? ⟨r,5,none⟩=some x11):Below W.heap.size W w0.drew/\w0.drew.cell? ⟨q,0,none⟩=some x0/\w0.drew.cell? ⟨q,1,none⟩=some x1/\w0.drew.cell? ⟨q,2,none⟩=some x2/\w0.drew.cell? ⟨q,3,none⟩=some x3/\w0.drew.cell? ⟨q,4,none⟩=some x4/\w0.drew.cell? ⟨q,5,none⟩=some x5/\w0.drew.cell? ⟨r,0,none⟩=some x6/\w0.drew.cell? ⟨r,1,none⟩=some x7/\w0.drew.cell? ⟨r,2,none⟩=some x8/\w0.drew.cell? ⟨r,3,none⟩=some x9/\w0.drew.cell? ⟨r,4,none⟩=some x10/\w0.drew.cell? ⟨r,5,none⟩=some x11 :=
 ⟨h.1.drew,h.2⟩
theorem k12_up {W w0 w1:World} {q r:Nat} {x0 x1 x2 x3 x4 x5 x6 x7 x8 x9 x10 x11:Value} (hq:q<W.heap.size) (hr:r<W.heap.size) (h:Below W.heap.size W w0/\w0.cell? ⟨q,0,none⟩=some x0/\w0.cell? ⟨q,1,none⟩=some x1/\w0.cell? ⟨q,2,none⟩=some x2/\w0.cell? ⟨q,3,none⟩=some x3/\w0.cell? ⟨q,4,none⟩=some x4/\w0.cell? ⟨q,5,none⟩=some x5/\w0.cell? ⟨r,0,none⟩=some x6/\w0.cell? ⟨r,1,none⟩=some x7/\w0.cell? ⟨r,2,none⟩=some x8/\w0.cell? ⟨r,3,none⟩=some x9/\w0.cell? ⟨r,4,none⟩=some x10/\w0.cell? ⟨r,5,none⟩=some x11) (hB:Below w0.heap.size w0 w1):Below W.heap.size W w1/\w1.cell? ⟨q,0,none⟩=some x0/\w1.cell? ⟨q,1,none⟩=some x1/\w1.cell? ⟨q,2,none⟩=some x2/\w1.cell? ⟨q,3,none⟩=some x3/\w1.cell? ⟨q,4,none⟩=some x4/\w1.cell? ⟨q,5,none⟩=some x5/\w1.cell? ⟨r,0,none⟩=some x6/\w1.cell? ⟨r,1,none⟩=some x7/\w1.cell? ⟨r,2,none⟩=some x8/\w1.cell? ⟨r,3,none⟩=some x9/\w1.cell? ⟨r,4,none⟩=some x10/\w1.cell? ⟨r,5,none⟩=some x11:=by
 obtain⟨h0,a0,a1,a2,a3,a4,a5,a6,a7,a8,a9,a10,a11⟩:=h;have lq:q<w0.heap.size:=A1 hq h0.size;have lr:r<w0.heap.size:=A1 hr h0.size;exact⟨D5 h0 hB,(hB.cell (p:=⟨q,0,none⟩) lq).trans a0,(hB.cell (p:=⟨q,1,none⟩) lq).trans a1,(hB.cell (p:=⟨q,2,none⟩) lq).trans a2,(hB.cell (p:=⟨q,3,none⟩) lq).trans a3,(hB.cell (p:=⟨q,4,none⟩) lq).trans a4,(hB.cell (p:=⟨q,5,none⟩) lq).trans a5,(hB.cell (p:=⟨r,0,none⟩) lr).trans a6,(hB.cell (p:=⟨r,1,none⟩) lr).trans a7,(hB.cell (p:=⟨r,2,none⟩) lr).trans a8,(hB.cell (p:=⟨r,3,none⟩) lr).trans a9,(hB.cell (p:=⟨r,4,none⟩) lr).trans a10,(hB.cell (p:=⟨r,5,none⟩) lr).trans a11⟩
theorem AkT:(Tryz.prog.info? 71).map (·.size)=some 6:=by kernel_rfl
structure RbSrc (w:World) (x:Rb) (rv sv:Value):Prop where
 r:Src w rv x.ps
 s:SlSrc w sv x.sl
 zp:Sized x.ps
 zs:SlZ x.sl
 zn:x.nm.size<=maxLen
 za:x.ad.size<=maxLen
theorem RbSrc.up {w w':World} {x:Rb} {rv sv:Value} (h:RbSrc w x rv sv) (hb:Below w.heap.size w w'):RbSrc w' x rv sv:=⟨h.r.up hb,h.s.up hb,h.zp,h.zs,h.zn,h.za⟩
structure RbO (w:World) (base:Nat) (x:Rb) (b1 b2:Nat):Prop where
 r:Own w b1 x.ps
 s:OwnSl w b2 x.sl
 l1:base<=b1
 l2:b1<b2
theorem RbO.up {w w':World} {base:Nat} {x:Rb} {b1 b2:Nat} (h:RbO w base x b1 b2) (hb:Below w.heap.size w w'):RbO w' base x b1 b2:=⟨h.r.up hb,h.s.up hb,h.l1,h.l2⟩
theorem RbO.low {w:World} {base base':Nat} {x:Rb} {b1 b2:Nat} (h:RbO w base x b1 b2) (hb:base'<=base):RbO w base' x b1 b2:=⟨h.r,h.s,B1 hb h.l1,h.l2⟩
theorem RbO.v {w:World} {base:Nat} {x:Rb} {b1 b2:Nat} (h:RbO w base x b1 b2) {rv sv:Value} {W:World} (hx:RbSrc W x rv sv) (np:x.ps.length<=1048576) (ns:x.sl.length<=1048576):RbV w x (.slice (some ⟨b1,0,none⟩) x.ps.length x.ps.length) (.slice (some ⟨b2,0,none⟩) x.sl.length x.sl.length) :=
 ⟨⟨b1,0,_,rfl,h.r.1,h.r.2.2,A3 _,by omega⟩,⟨b2,0,_,rfl,h.s.1,h.s.2.2⟩,hx.zp,hx.zs,hx.zn,np,ns⟩
theorem Own.other {w:World} {b r j:Nat} {u:Value} {ps:List Ph} (h:Own w b ps) (hne:b≠r):Own (w.setCell ⟨r,j,none⟩ u) b ps:=by
 have hk:(w.setCell ⟨r,j,none⟩ u).heap[b]?=w.heap[b]?:=Below.heap_setCell _ _ _ _ (λe=>hne e);refine⟨λi p hp k v hv=>?_,λk hk'=>?_,by simpa using h.2.2⟩
 ·rw[C0 (w:=w) (a:=⟨b,0+i*8+k,none⟩) hk];exact h.1 i p hp k v hv
 ·rw[C0 (w:=w) (a:=⟨b,0+k,none⟩) hk,World.frozen?_of_block (w:=w) (a:=⟨b,0+k,none⟩) hk];exact h.2.1 k hk'
theorem OwnSl.other {w:World} {b r j:Nat} {u:Value} {l:List Sl} (h:OwnSl w b l) (hne:b≠r):OwnSl (w.setCell ⟨r,j,none⟩ u) b l:=by
 have hk:(w.setCell ⟨r,j,none⟩ u).heap[b]?=w.heap[b]?:=Below.heap_setCell _ _ _ _ (λe=>hne e);refine⟨λi p hp k v hv=>?_,λk hk'=>?_,by simpa using h.2.2⟩
 ·rw[C0 (w:=w) (a:=⟨b,0+i*2+k,none⟩) hk];exact h.1 i p hp k v hv
 ·rw[C0 (w:=w) (a:=⟨b,0+k,none⟩) hk,World.frozen?_of_block (w:=w) (a:=⟨b,0+k,none⟩) hk];exact h.2.1 k hk'
theorem RbO.set {w:World} {base r j b1 b2:Nat} {u:Value} {x:Rb} (h:RbO w base x b1 b2) (hr:r<base):RbO (w.setCell ⟨r,j,none⟩ u) base x b1 b2 :=
 ⟨h.r.other (by have:=h.l1;omega),h.s.other (by have:=h.l1;have:=h.l2;omega),h.l1,h.l2⟩
theorem Amf (x:Rb) (rv sv:Value) (w:World) (h:RbSrc w x rv sv) (l:Int) (hl:0<=l) (hl':l<=1048576) :
  Calls Tryz.prog 55 #[.agg #[.string x.nm,rv,sv,.string x.ad,.int .i64 x.si,.int .i64 x.st],.int .i64 l] w λe' w'=>(∃y:Int,e'=.returned (.int .i64 y)/\(0<=y->x.ps.length<=1048576/\x.sl.length<=1048576/\x.nm.size<=1048576)/\y<=1048576)/\Below w.heap.size w w':=by
 obtain⟨a1,c1,hrv⟩:=h.r.shape;obtain⟨a2,c2,hsv⟩:=h.s.shape;subst hrv hsv;have zn:=h.zn;have za:=h.za;unfold maxLen at zn za;have hC:CB (w.alloc (.cells #[.string x.nm,.slice a1 x.ps.length c1,.slice a2 x.sl.length c2,.string x.ad,.int .i64 x.si,.int .i64 x.st] 102)) w.heap.size [.string x.nm,.slice a1 x.ps.length c1,.slice a2 x.sl.length c2,.string x.ad,.int .i64 x.si,.int .i64 x.st]:=E8 w _ _;have hB0:=(A4 w.heap.size w).alloc (A3 _) (.cells #[.string x.nm,.slice a1 x.ps.length c1,.slice a2 x.sl.length c2,.string x.ad,.int .i64 x.si,.int .i64 x.st] 102);go_enter Tryz.func55,Tryz.ntmps55
 go_upto_region 1 with fail
 generalize w.alloc (.cells #[.string x.nm,.slice a1 x.ps.length c1,.slice a2 x.sl.length c2,.string x.ad,.int .i64 x.si,.int .i64 x.st] 102)=W1 at *;have hlt:=hC.2.2;obtain⟨d0,d1,d2,d3,d4,d5⟩:=hC.c6;by_cases h1:l-x.nm.size<0
 ·go_wp2_with fail
  go_ret
  exact⟨⟨_,rfl,by omega,by omega⟩,hB0⟩
 go_wp2_with fail
 refine (AgA x.ps _ _ _ (by omega) (by omega) (h.r.up hB0) h.zp).mono ?_;rintro e w2 ⟨⟨y2,rfl,hy2,hy2'⟩,hB2⟩;by_cases h2:y2<0
 ·go_wp2_with fail
  go_ret
  exact⟨⟨_,rfl,by omega,by omega⟩,D5 hB0 hB2⟩
 have hn2:=hy2 (by omega);obtain⟨e0,e1,e2,e3,e4,e5⟩:=(hC.up hB2 hlt).c6;clear d0 d1 d2 d3 d4 d5 hy2;have hB02:=D5 hB0 hB2;go_wp2_with fail
 refine (Adl x.sl _ _ _ (by omega) (by omega) (h.s.up hB02) h.zs).mono ?_;rintro e w3 ⟨⟨y3,rfl,hy3,hy3'⟩,hB3⟩;have hB03:=D5 hB02 hB3;by_cases h3:y3<0
 ·go_wp2_with fail
  go_ret
  exact⟨⟨_,rfl,by omega,by omega⟩,hB03⟩
 have hn3:=hy3 (by omega);obtain⟨f0,f1,f2,f3,f4,f5⟩:=(hC.up (D5 hB2 hB3) hlt).c6;clear e0 e1 e2 e3 e4 e5 hy3;by_cases h4:y3-x.ad.size<0
 ·go_wp2_with fail
  go_ret
  exact⟨⟨_,rfl,by omega,by omega⟩,hB03⟩
 go_wp2_with fail
 go_ret
 exact⟨⟨_,rfl,by omega,by omega⟩,hB03⟩
theorem Amg (x:Rb) (rv sv:Value) (w:World) (h:RbSrc w x rv sv) (np:x.ps.length<=1048576) (ns:x.sl.length<=1048576) :
  Calls Tryz.prog 78 #[.agg #[.string x.nm,rv,sv,.string x.ad,.int .i64 x.si,.int .i64 x.st]] w λe w'=>(∃b1 b2,e=.returned (.agg #[.string x.nm,.slice (some ⟨b1,0,none⟩) x.ps.length x.ps.length,.slice (some ⟨b2,0,none⟩) x.sl.length x.sl.length,.string x.ad,.int .i64 x.si,.int .i64 x.st])/\RbO w' w.heap.size x b1 b2)/\Below w.heap.size w w':=by
 obtain⟨a1,c1,hrv⟩:=h.r.shape;obtain⟨a2,c2,hsv⟩:=h.s.shape;subst hrv hsv;go_enter Tryz.func78,Tryz.ntmps78
 go_upto_region 2 with fail
 obtain⟨W1,hW1,kP,kR,kO,hB1,hs1⟩:=Adv w [.string x.nm,.slice a1 x.ps.length c1,.slice a2 x.sl.length c2,.string x.ad,.int .i64 x.si,.int .i64 x.st] 102 [.string ⟨#[]⟩,.slice none 0 0,.slice none 0 0,.string ⟨#[]⟩,.int .i64 0,.int .i64 0] 71 [.string ⟨#[]⟩,.slice none 0 0,.slice none 0 0,.string ⟨#[]⟩,.int .i64 0,.int .i64 0] 71;rw[hW1];clear hW1;obtain⟨W2,hW2,kP2,kR2,kO2,hB2,hs2⟩:∃W2,W1.setCell ⟨w.heap.size+2,0,none⟩ (.string x.nm)=W2/\CB W2 w.heap.size [.string x.nm,.slice a1 x.ps.length c1,.slice a2 x.sl.length c2,.string x.ad,.int .i64 x.si,.int .i64 x.st]/\CB W2 (w.heap.size+1) [.string ⟨#[]⟩,.slice none 0 0,.slice none 0 0,.string ⟨#[]⟩,.int .i64 0,.int .i64 0]/\CB W2 (w.heap.size+2) [.string x.nm,.slice none 0 0,.slice none 0 0,.string ⟨#[]⟩,.int .i64 0,.int .i64 0]/\Below w.heap.size w W2/\W2.heap.size=w.heap.size+3:=⟨_,rfl,kP.other (by omega),kR.other (by omega),kO.set (j:=0) (by simp),hB1.setCell (p:=⟨w.heap.size+2,0,none⟩) (by simp) _,by simpa using hs1⟩;obtain⟨p0,p1,p2,p3,p4,p5⟩:=kP.c6;obtain⟨o0,o1,o2,o3,o4,o5⟩:=kO.c6;obtain⟨f0,f1,f2,f3,f4,f5⟩:=kO.f6;go_upto_region 3 with fail
 try rw[hW2]
 clear hW2 p0 p1 p2 p3 p4 p5 o0 o1 o2 o3 o4 o5 f0 f1 f2 f3 f4 f5 kP kR kO hB1 hs1;obtain⟨p0,p1,p2,p3,p4,p5⟩:=kP2.c6;go_wp2_with fail
 refine (Ab5 x.ps _ _ (h.r.up hB2) np).mono ?_;rintro e w3 ⟨⟨b1,rfl,ho1,hb1⟩,hb3⟩;rw[hs2] at hb1;have hz3:=hb3.size;have kP3:=kP2.up hb3 (by omega);have kR3:=kR2.up hb3 (by omega);have kO3:=kO2.up hb3 (by omega);have hB3:=D5 hB2 hb3;clear p0 p1 p2 p3 p4 p5 kP2 kR2 kO2 hB2 hb3
 obtain⟨W4,hW4,kP4,kR4,kO4,ho4,hB4,hs4⟩:∃W4,w3.setCell ⟨w.heap.size+2,1,none⟩ (.slice (some ⟨b1,0,none⟩) x.ps.length x.ps.length)=W4/\CB W4 w.heap.size [.string x.nm,.slice a1 x.ps.length c1,.slice a2 x.sl.length c2,.string x.ad,.int .i64 x.si,.int .i64 x.st]/\CB W4 (w.heap.size+1) [.string ⟨#[]⟩,.slice none 0 0,.slice none 0 0,.string ⟨#[]⟩,.int .i64 0,.int .i64 0]/\CB W4 (w.heap.size+2) [.string x.nm,.slice (some ⟨b1,0,none⟩) x.ps.length x.ps.length,.slice none 0 0,.string ⟨#[]⟩,.int .i64 0,.int .i64 0]/\Own W4 b1 x.ps/\Below w.heap.size w W4/\W4.heap.size=w3.heap.size :=
  ⟨_,rfl,kP3.other (by omega),kR3.other (by omega),kO3.set (j:=1) (by simp),ho1.other (by omega),hB3.setCell (p:=⟨w.heap.size+2,1,none⟩) (by simp) _,by simp⟩
 obtain⟨o0,o1,o2,o3,o4,o5⟩:=kO3.c6;obtain⟨f0,f1,f2,f3,f4,f5⟩:=kO3.f6;go_upto_region 4 with fail
 try rw[hW4]
 clear hW4 o0 o1 o2 o3 o4 o5 f0 f1 f2 f3 f4 f5 kP3 kR3 kO3 hB3;have hlt4:=ho4.2.2;clear ho1;obtain⟨p0,p1,p2,p3,p4,p5⟩:=kP4.c6;go_wp2_with fail
 refine (X8 x.sl _ _ (h.s.up hB4) ns).mono ?_;rintro e w5 ⟨⟨b2,rfl,ho2,hb2⟩,hb5⟩;have hz5:=hb5.size;have kP5:=kP4.up hb5 (by omega);have kR5:=kR4.up hb5 (by omega);have kO5:=kO4.up hb5 (by omega);have hO5:RbO w5 (w.heap.size+3) x b1 b2:=⟨ho4.up hb5,ho2,hb1,A1 hlt4 hb2⟩;have hB5:=D5 hB4 hb5;clear p0 p1 p2 p3 p4 p5 kP4 kR4 kO4 hB4 hb5 ho4 ho2;obtain⟨p0,p1,p2,p3,p4,p5⟩:=kP5.c6;obtain⟨o0,o1,o2,o3,o4,o5⟩:=kO5.c6;obtain⟨f0,f1,f2,f3,f4,f5⟩:=kO5.f6;obtain⟨r0,r1,r2,r3,r4,r5⟩:=kR5.c6;obtain⟨g0,g1,g2,g3,g4,g5⟩:=kR5.f6;have hR6:=(((kR5.other (q:=w.heap.size+2) (j:=2) (u:=.slice (some ⟨b2,0,none⟩) x.sl.length x.sl.length) (by omega)).other (q:=w.heap.size+2) (j:=3) (u:=.string x.ad) (by omega)).other (q:=w.heap.size+2) (j:=4) (u:=.int .i64 x.si) (by omega)).other (q:=w.heap.size+2) (j:=5) (u:=.int .i64 x.st) (by omega);go_wp2_with fail
 refine Aaq Tryz.results78 Tryz.underlying71 rfl AkT hR6 rfl ?_;refine⟨⟨b1,b2,rfl,?_⟩,?_⟩
 ·exact ((((((((((hO5.set (by omega)).set (by omega)).set (by omega)).set (by omega)).set (by omega)).set (by omega)).set (by omega)).set (by omega)).set (by omega)).set (by omega)).low (by omega)
 ·exact (((((((((hB5.setCell (p:=⟨w.heap.size+2,2,none⟩) (by simp) _).setCell (p:=⟨w.heap.size+2,3,none⟩) (by simp) _).setCell (p:=⟨w.heap.size+2,4,none⟩) (by simp) _).setCell (p:=⟨w.heap.size+2,5,none⟩) (by simp) _).setCell (p:=⟨w.heap.size+1,0,none⟩) (by simp) _).setCell (p:=⟨w.heap.size+1,1,none⟩) (by simp) _).setCell (p:=⟨w.heap.size+1,2,none⟩) (by simp) _).setCell (p:=⟨w.heap.size+1,3,none⟩) (by simp) _).setCell (p:=⟨w.heap.size+1,4,none⟩) (by simp) _).setCell (p:=⟨w.heap.size+1,5,none⟩) (by simp) _
def rowsF {α:Type} (f:α->List Value):List α->List Value
 | []=>[]
 | a::r=>f a++rowsF f r
theorem AgE {α:Type} (f:α->List Value) (a b:List α):rowsF f (a++b)=rowsF f a++rowsF f b:=by
 induction a with
 | nil=>rfl
 | cons p r ih=>simp[rowsF,ih]
theorem I6 {α:Type} {f:α->List Value} {k:Nat} (hf:∀a,(f a).length=k):∀l:List α,(rowsF f l).length=l.length*k
 | []=>by simp[rowsF]
 | a::r=>by rw[rowsF,A9,hf,I6 hf r,List.length_cons,Nat.succ_mul,Nat.add_comm]
theorem Aar {α:Type} {f:α->List Value} {k:Nat} (hf:∀a,(f a).length=k):∀(l:List α) (i:Nat) (a:α),l[i]?=some a->∀(j:Nat) (u:Value),(f a)[j]?=some u->(rowsF f l)[i*k+j]?=some u
 | q::r,0,a,h,j,u,hu=>by
  obtain rfl:q=a:=by simpa using h
  have hj:j<(f q).length:=(A2.1 hu).1;rw[rowsF,Nat.zero_mul,Nat.zero_add,List.getElem?_append_left hj];exact hu
 | q::r,i+1,a,h,j,u,hu=>by
  have:=Aar hf r i a (by simpa using h) j u hu;rw[rowsF,Nat.succ_mul,C8 (by rw[hf];omega),hf,show i*k+k+j-k=i*k+j by omega];exact this
theorem R5 {α:Type} {f:α->List Value} {k:Nat} (hf:∀a,(f a).length=k):∀(l:List α) (i:Nat) (a a':α) (j:Nat) (u:Value),l[i]?=some a->j<k->f a'=(f a).set j u->(rowsF f l).set (i*k+j) u=rowsF f (l.set i a')
 | q::r,0,a,a',j,u,h,hj,e=>by
  obtain rfl:q=a:=by simpa using h
  rw[rowsF,Nat.zero_mul,Nat.zero_add,List.set_append_left _ _ (by rw[hf];exact hj),← e];rfl
 | q::r,i+1,a,a',j,u,h,hj,e=>by
  have:=R5 hf r i a a' j u (by simpa using h) hj e;rw[rowsF,Nat.succ_mul,List.set_append_right _ _ (by rw[hf];omega),hf,show i*k+k+j-k=i*k+j by omega,this];rfl
theorem AcK {α:Type} {f:α->List Value} (l:List α) (h:∀a∈l,∀u∈f a,u.oneCell'=true):∀u∈rowsF f l,u.oneCell'=true:=by
 induction l with
 | nil=>intro u hu;simp[rowsF] at hu
 | cons a r ih =>
  intro u hu;rw[rowsF,D0] at hu;rcases hu with hu|hu
  ·exact h a (by simp) u hu
  ·exact ih (λb hb=>h b (by simp[hb])) u hu
theorem J6 {α:Type} {f:α->List Value} {k:Nat} (hf:∀a,(f a).length=k) {w:World} {base e n g cap:Nat} {l:List α} (h:w.ownsRow base e k (.slice (some ⟨g,0,none⟩) n cap) n (rowsF f l)) {i:Nat} {a:α} (hi:l[i]?=some a):w.rangeAt g (i*k) (f a):=λj u hu=>by
 have h1:=Aar hf l i a hi j u hu;have hj:i*k+j<n*k:=by rw[← h.1];exact (A2.1 h1).1
 rw[h.cellAt (i*k+j) hj];exact h1
theorem Y8 {α:Type} {f:α->List Value} {k:Nat} (hk:0<k) (hf:∀a,(f a).length=k) {w:World} {b o:Nat} {l:List α} (h:∀(i:Nat) (a:α),l[i]?=some a->w.rangeAt b (o+i*k) (f a)):∀(j:Nat) (u:Value),(rowsF f l)[j]?=some u->w.cell? ((⟨b,o,none⟩:Addr).add j)=some u:=λj u hu=>by
 have hj:j<l.length*k:=by rw[← I6 hf];exact (A2.1 hu).1
 have hi:j / k<l.length:=Nat.div_lt_of_lt_mul (by rw[Nat.mul_comm];exact hj);have hm:j % k<k:=Nat.mod_lt _ hk;have hp:=A0 hi;have hl:j % k<(f (l[j / k])).length:=by rw[hf];exact hm
 have h3:=Aar hf l (j / k) _ hp (j % k) _ (A0 hl);have ej:j / k*k+j % k=j:=by rw[Nat.mul_comm];exact Nat.div_add_mod j k
 rw[ej,hu] at h3;have h4:=h (j / k) _ hp (j % k) _ (A0 hl);rw[Addr.add_mid,show o+j=o+j / k*k+j % k by omega,h4];exact h3.symm
abbrev Rv:=Rb×Value×Value
def rowR (p:Rv):List Value:=[.string p.1.nm,p.2.1,p.2.2,.string p.1.ad,.int .i64 p.1.si,.int .i64 p.1.st]
theorem K7 (p:Rv):(rowR p).length=6:=rfl
theorem G5 (p:Ph):p.cells.length=8:=rfl
theorem M8 (p:Sl):p.cells.length=2:=rfl
def Done.cells (d:Done):List Value:=[.string d.nm,.int .i64 d.e,.int .i64 d.t]
theorem I8 (d:Done):d.cells.length=3:=rfl
structure RcW (w:World) (base:Nat) (p:Rv):Prop where
 r:w.ownsRow base 73 8 p.2.1 p.1.ps.length (rowsF Ph.cells p.1.ps)
 s:w.ownsRow base 81 2 p.2.2 p.1.sl.length (rowsF Sl.cells p.1.sl)
 nr:NN p.2.1
 ns:NN p.2.2
 zp:Sized p.1.ps
 zs:∀y∈p.1.sl,y.s.size<=maxLen/\y.t.size<=maxLen
 zn:p.1.nm.size<=maxLen
 np:p.1.ps.length<=1048576
 nl:p.1.sl.length<=1048576
theorem RcW.v {w:World} {base:Nat} {p:Rv} (h:RcW w base p):RbV w p.1 p.2.1 p.2.2:=by
 have hr:=h.r;have hs:=h.s;obtain⟨g,n,c,e⟩:=h.nr;obtain⟨g2,n2,c2,e2⟩:=h.ns;obtain⟨_,_,e3⟩:=E9 hr;obtain⟨_,_,e4⟩:=E9 hs;rw[e] at e3;rw[e2] at e4;simp only[Value.slice.injEq] at e3 e4;obtain⟨-,rfl,-⟩:=e3;obtain⟨-,rfl,-⟩:=e4;rw[e] at hr;rw[e2] at hs;have hc:=AbZ hr;refine⟨⟨g,0,c,e,λi q hq=>?_,(hr.lt g rfl).2,hc.1,?_⟩,⟨g2,0,c2,e2,λi q hq=>?_,(hs.lt g2 rfl).2⟩,h.zp,h.zs,h.zn,h.np,h.nl⟩
 ·rw[Nat.zero_add];exact J6 G5 hr hq
 ·have:=hc.2;unfold maxLen at this;omega
 ·rw[Nat.zero_add];exact J6 M8 hs hq
theorem RcW.low {w:World} {base base':Nat} {p:Rv} (h:RcW w base p) (hb:base'<=base):RcW w base' p:=⟨F9 h.r hb,F9 h.s hb,h.nr,h.ns,h.zp,h.zs,h.zn,h.np,h.nl⟩
theorem RcW.up {w w':World} {base:Nat} {p:Rv} (h:RcW w base p) (hb:Below w.heap.size w w'):RcW w' base p:=⟨E0 h.r hb,E0 h.s hb,h.nr,h.ns,h.zp,h.zs,h.zn,h.np,h.nl⟩
theorem RcW.gr {w w':World} {base rb:Nat} {p:Rv} (h:RcW w base p) (hg:w.grownBy w' (some rb)) (hr:rb<base):RcW w' base p:=⟨E6 h.r hg hr,E6 h.s hg hr,h.nr,h.ns,h.zp,h.zs,h.zn,h.np,h.nl⟩
theorem RcW.step {w w':World} {base b2 e k n:Nat} {v:Value} {xs:List Value} {p:Rv} (h:RcW w base p) (hrow:w.ownsRow b2 e k v n xs) (h1:73≠e) (h2:81≠e) (hg:w.grownBy w' v.ownBlock):RcW w' base p :=
 ⟨E4 h.r hg (E5 h.r hrow h1),E4 h.s hg (E5 h.s hrow h2),h.nr,h.ns,h.zp,h.zs,h.zn,h.np,h.nl⟩
theorem RcW.as {w:World} {base:Nat} {p:Rv} {y:Rb} (h:RcW w base p) (h1:y.ps=p.1.ps) (h2:y.sl=p.1.sl) (h3:y.nm=p.1.nm):RcW w base (y,p.2.1,p.2.2) :=
 ⟨by rw[h1];exact h.r,by rw[h2];exact h.s,h.nr,h.ns,by rw[h1];exact h.zp,by rw[h2];exact h.zs,by rw[h3];exact h.zn,by rw[h1];exact h.np,by rw[h2];exact h.nl⟩
def RbsW (w:World) (base:Nat) (v:Value) (ps:List Rv):Prop:=w.ownsRow base 71 6 v ps.length (rowsF rowR ps)/\∀p∈ps,RcW w base p
theorem RbsW.low {w:World} {base base':Nat} {v:Value} {ps:List Rv} (h:RbsW w base v ps) (hb:base'<=base):RbsW w base' v ps:=⟨F9 h.1 hb,λp hp=>(h.2 p hp).low hb⟩
theorem RbsW.up {w w':World} {base:Nat} {v:Value} {ps:List Rv} (h:RbsW w base v ps) (hb:Below w.heap.size w w'):RbsW w' base v ps:=⟨E0 h.1 hb,λp hp=>(h.2 p hp).up hb⟩
theorem RbsW.gr {w w':World} {base rb:Nat} {v:Value} {ps:List Rv} (h:RbsW w base v ps) (hg:w.grownBy w' (some rb)) (hr:rb<base):RbsW w' base v ps:=⟨E6 h.1 hg hr,λp hp=>(h.2 p hp).gr hg hr⟩
theorem RbsW.rbs {w:World} {base:Nat} {v:Value} {ps:List Rv} {bs:List Rb} (h:RbsW w base v ps) (hm:ps.map (·.1)=bs):Rbs w v bs:=by
 subst hm;have hl:(ps.map (·.1)).length=ps.length:=B3 _;obtain⟨a,c,rfl⟩:=E9 h.1;refine⟨a,c,by rw[hl],by rw[hl];exact AaI h.1,λhp=>?_⟩;rw[hl] at hp;obtain⟨g,cap,hv⟩:=F2 h.1 hp;obtain⟨rfl,-,rfl⟩:=Value.slice.inj hv;refine⟨g,0,rfl,λi x hx=>?_,(h.1.lt g rfl).2⟩;rw[B0,B4] at hx;obtain⟨p,hp',rfl⟩:=hx;refine⟨p.2.1,p.2.2,?_,(h.2 p (A6 hp')).v⟩;rw[Nat.zero_add];exact J6 K7 h.1 hp'
theorem Acn {w:World} {base:Nat} {p:Rv} (h:RcW w base p):∀u∈rowR p,u.oneCell'=true:=λu hu=>by
 obtain⟨g,n,c,e⟩:=h.nr;obtain⟨g2,n2,c2,e2⟩:=h.ns;simp only[rowR,e,e2,List.mem_cons,List.not_mem_nil,or_false] at hu;rcases hu with rfl|rfl|rfl|rfl|rfl|rfl<;>rfl
theorem RbsW.app {w w':World} {base:Nat} {v v':Value} {ps:List Rv} {p:Rv} (h:RbsW w base v ps) (hp:RcW w base p) (hg:w.grownBy w' v.ownBlock) (ho:w'.ownsRow base 71 6 v' (ps.length+1) (rowsF rowR ps++rowR p)):RbsW w' base v' (ps++[p]):=by
 refine⟨?_,λq hq=>?_⟩
 ·rw[A9,AgE]
  simpa [rowsF] using ho
 ·rcases D0.1 hq with h1|h1
  ·exact (h.2 q h1).step h.1 (by decide) (by decide) hg
  ·obtain rfl:q=p:=by simpa using h1
   exact hp.step h.1 (by decide) (by decide) hg
theorem AfB (w:World) (x0 x1 x2 x3 x4 x5:Value) (ty:TypeId) {j:Nat} {v:Value} (h:[x0,x1,x2,x3,x4,x5][j]?=some v):(w.alloc (.cells #[x0,x1,x2,x3,x4,x5] ty)).cell? ((⟨w.heap.size,0,none⟩:Addr).add j)=some v:=by
 have hj:j < [x0,x1,x2,x3,x4,x5].length:=(A2.1 h).1;have:=(E8 w [x0,x1,x2,x3,x4,x5] ty).1 j v h;rw[Addr.add_mid];exact this
theorem RbsW.put {w:World} {base g n cap i j:Nat} {u:Value} {ps:List Rv} {p:Rv} {y:Rb} (h:RbsW w base (.slice (some ⟨g,0,none⟩) n cap) ps) (hp:ps[i]?=some p) (hj:j<6) (hy:rowR (y,p.2.1,p.2.2)=(rowR p).set j u) (h1:y.ps=p.1.ps) (h2:y.sl=p.1.sl) (h3:y.nm=p.1.nm) :
  RbsW (w.setCell ⟨g,i*6+j,none⟩ u) base (.slice (some ⟨g,0,none⟩) n cap) (ps.set i (y,p.2.1,p.2.2)):=by
 obtain⟨_,_,e⟩:=E9 h.1;simp only[Value.slice.injEq] at e;obtain⟨-,rfl,-⟩:=e;have hi:i<ps.length:=(A2.1 hp).1;have hs:=(B2 h.1 (i*6+j) u).1;rw[R5 K7 ps i p (y,p.2.1,p.2.2) j u hp hj hy] at hs;have hg:w.grownBy (w.setCell ⟨g,i*6+j,none⟩ u) (Value.slice (some ⟨g,0,none⟩) ps.length cap).ownBlock:=D9 (E1 _ _) _;refine⟨by rw[List.length_set];exact hs,λq hq=>?_⟩;have hk:∀q,RcW w base q->RcW (w.setCell ⟨g,i*6+j,none⟩ u) base q:=λq hq=>hq.step h.1 (by decide) (by decide) hg;rcases List.mem_or_eq_of_mem_set hq with hq|rfl
 ·exact hk q (h.2 q hq)
 ·exact hk _ ((h.2 p (A6 hp)).as h1 h2 h3)
theorem BkW.step {w w':World} {base b2 e k n:Nat} {v u:Value} {b:Bk} {xs:List Value} (h:BkW w base v b) (hrow:w.ownsRow b2 e k u n xs) (h1:9≠e) (h2:118≠e) (hg:w.grownBy w' u.ownBlock):BkW w' base v b:=by
 obtain⟨tu,bu,ps,rfl,a1,a2,a3⟩:=h;exact⟨tu,bu,ps,rfl,E4 a1 hg (E5 a1 hrow h1),⟨E4 a2.1 hg (E5 a2.1 hrow h2),λp hp=>⟨E4 (a2.2 p hp).1 hg (E5 (a2.2 p hp).1 hrow h1),E4 (a2.2 p hp).2.1 hg (E5 (a2.2 p hp).2.1 hrow h1),(a2.2 p hp).2.2⟩⟩,a3⟩
def DnsW (w:World) (base:Nat) (v:Value) (ds:List Done):Prop:=∃(g cap:Nat) (pre:List Done),v=.slice (some ⟨g,pre.length*3,none⟩) ds.length cap/\w.ownsRow base 124 3 (.slice (some ⟨g,0,none⟩) (pre.length+ds.length) (pre.length+cap)) (pre.length+ds.length) (rowsF Done.cells (pre++ds))/\∀d∈ds,d.nm.size<=maxLen
theorem DnsW.low {w:World} {base base':Nat} {v:Value} {ds:List Done} (h:DnsW w base v ds) (hb:base'<=base):DnsW w base' v ds:=by
 obtain⟨g,cap,pre,e,h1,h2⟩:=h;exact⟨g,cap,pre,e,F9 h1 hb,h2⟩
theorem DnsW.up {w w':World} {base:Nat} {v:Value} {ds:List Done} (h:DnsW w base v ds) (hb:Below w.heap.size w w'):DnsW w' base v ds:=by
 obtain⟨g,cap,pre,e,h1,h2⟩:=h;exact⟨g,cap,pre,e,E0 h1 hb,h2⟩
theorem DnsW.step {w w':World} {base b2 e k n:Nat} {v u:Value} {ds:List Done} {xs:List Value} (h:DnsW w base v ds) (hrow:w.ownsRow b2 e k u n xs) (h1:124≠e) (hg:w.grownBy w' u.ownBlock):DnsW w' base v ds:=by
 obtain⟨g,cap,pre,e,a1,a2⟩:=h;exact⟨g,cap,pre,e,E4 a1 hg (E5 a1 hrow h1),a2⟩
theorem DnsW.dns {w:World} {base:Nat} {v:Value} {ds:List Done} (h:DnsW w base v ds):Dns w v ds:=by
 obtain⟨g,cap,pre,rfl,h1,h2⟩:=h;refine⟨_,cap,rfl,by have:=AaI h1;omega,λ_=>⟨g,pre.length*3,rfl,λi d hd=>⟨?_,h2 d (A6 hd)⟩,(h1.lt g rfl).2⟩⟩;have hi:(pre++ds)[pre.length+i]?=some d:=by rw[C8 (by omega),Nat.add_sub_cancel_left];exact hd
 have:=J6 I8 h1 hi;rw[Nat.add_mul] at this;exact this
theorem Ang {w:World} {base:Nat} {v:Value} {ds:List Done} (h:w.ownsRow base 124 3 v ds.length (rowsF Done.cells ds)) (hn:NN v) (hz:∀d∈ds,d.nm.size<=maxLen):DnsW w base v ds:=by
 obtain⟨g,n,c,rfl⟩:=hn;obtain⟨_,_,e⟩:=E9 h;simp only[Value.slice.injEq] at e;obtain⟨-,rfl,-⟩:=e;exact⟨g,c,[],by simp,by simpa using h,hz⟩
theorem Dns.sized {w:World} {v:Value} {ds:List Done} (h:Dns w v ds):∀d∈ds,d.nm.size<=maxLen:=λd hd=>by
 obtain⟨a,c,-,-,h2⟩:=h;obtain⟨i,hi,rfl⟩:=B5 hd;obtain⟨b,o,-,hD,-⟩:=h2 (by omega);exact (hD i _ (A0 hi)).2
structure HW (w:World) (base:Nat) (h:House) (tv bv xv dv:Value):Prop where
 k:BkW w base (.agg #[tv,bv]) h.sh
 z:Szb h.sh
 x:∃ps,RbsW w base xv ps/\ps.map (·.1)=h.bs
 d:DnsW w base dv h.ds
theorem HW.v {w:World} {base:Nat} {h:House} {tv bv xv dv:Value} (H:HW w base h tv bv xv dv):HV w h tv bv xv dv:=by
 obtain⟨ps,h1,h2⟩:=H.x;obtain⟨t,b,e,k1,k2⟩:=H.k.bk H.z;simp at e;obtain⟨rfl,rfl⟩:=e;exact⟨k1,k2,h1.rbs h2,H.d.dns⟩
theorem HW.low {w:World} {base base':Nat} {h:House} {tv bv xv dv:Value} (H:HW w base h tv bv xv dv) (hb:base'<=base):HW w base' h tv bv xv dv:=by
 obtain⟨ps,h1,h2⟩:=H.x;exact⟨H.k.low hb,H.z,⟨ps,h1.low hb,h2⟩,H.d.low hb⟩
theorem HW.up {w w':World} {base:Nat} {h:House} {tv bv xv dv:Value} (H:HW w base h tv bv xv dv) (hb:Below w.heap.size w w'):HW w' base h tv bv xv dv:=by
 obtain⟨ps,h1,h2⟩:=H.x;exact⟨H.k.up hb,H.z,⟨ps,h1.up hb,h2⟩,H.d.up hb⟩
def mkDn (m:Int):Done:=⟨mkB m,m+1,m+2⟩
def MarkedD (l:List Done) (m:Int) (k:Nat):Prop:=∀i:Nat,i<k->l[i]?=some (mkDn (m+3*i))
theorem MarkedD.set {l:List Done} {m:Int} {k:Nat} (h:MarkedD l m k) (hk:k<l.length):MarkedD (l.set k (mkDn (m+3*k))) m (k+1):=λi hi=>by
 rw[List.getElem?_set];by_cases e:k=i
 ·subst e;rw[if_pos rfl,if_pos hk]
 ·rw[if_neg e];exact h i (by omega)
theorem Amh {w:World} {base g n cap k:Nat} {l:List Done} (h:w.ownsRow base 124 3 (.slice (some ⟨g,0,none⟩) n cap) n (rowsF Done.cells l)) (hk:k<l.length) (d:Done) :
  (((w.setCell ⟨g,k*3,none⟩ (.string d.nm)).setCell ⟨g,k*3+1,none⟩ (.int .i64 d.e)).setCell ⟨g,k*3+2,none⟩ (.int .i64 d.t)).ownsRow base 124 3 (.slice (some ⟨g,0,none⟩) n cap) n (rowsF Done.cells (l.set k d))/\w.grownBy (((w.setCell ⟨g,k*3,none⟩ (.string d.nm)).setCell ⟨g,k*3+1,none⟩ (.int .i64 d.e)).setCell ⟨g,k*3+2,none⟩ (.int .i64 d.t)) (some g):=by
 have h0:=B2 h (k*3+0) (.string d.nm);have h1:=B2 h0.1 (k*3+1) (.int .i64 d.e);have h2:=B2 h1.1 (k*3+2) (.int .i64 d.t);have e0:=R5 I8 l k l[k] ⟨d.nm,(l[k]).e,(l[k]).t⟩ 0 (.string d.nm) (A0 hk) (by omega) rfl;have e1:=R5 I8 (l.set k ⟨d.nm,(l[k]).e,(l[k]).t⟩) k ⟨d.nm,(l[k]).e,(l[k]).t⟩ ⟨d.nm,d.e,(l[k]).t⟩ 1 (.int .i64 d.e) (C9 hk) (by omega) rfl;have e2:=R5 I8 ((l.set k ⟨d.nm,(l[k]).e,(l[k]).t⟩).set k ⟨d.nm,d.e,(l[k]).t⟩) k ⟨d.nm,d.e,(l[k]).t⟩ d 2 (.int .i64 d.t) (C9 (by rw[List.length_set];exact hk)) (by omega) rfl;have hs:=h2.1;rw[e0,e1,e2,List.set_set,List.set_set] at hs;exact⟨hs,D9 (rb:=g) (D9 (rb:=g) (D9 (rb:=g) (E1 _ _) _) _) _⟩
theorem Ajs (l:List Done) (base:Nat) (u:Value) (m:Int) (w:World) (h:w.ownsRow base 124 3 u l.length (rowsF Done.cells l)) (hn:l.length<=1000) (hm:1<=m) (hm9:m<=1000000) :
  Calls Tryz.prog 48 #[u,.int .i64 m] w λe w'=>e=.returned (.int .i64 (m+3*l.length))/\(∃ys,ys.length=l.length/\MarkedD ys m l.length/\w'.ownsRow base 124 3 u ys.length (rowsF Done.cells ys))/\w.grownBy w' u.ownBlock:=by
 by_cases h0:l=[]
 ·subst h0
  obtain⟨a1,c1,rfl⟩:=E9 h;simp only[List.length_nil];have HO:Hid (w.ownsRow base 124 3 (.slice a1 0 c1) 0 []):=h;clear h;go_enter Tryz.func48,Tryz.ntmps48
  go_wp2
  go_rounds 1
  go_ret
  exact⟨by simp,⟨[],rfl,λi hi=>by omega,HO.out⟩,E1 _ _⟩
 have hpos:0<l.length:=by
  rcases C3 l.length with h1|h1
  ·exact absurd (C4.1 h1) h0
  ·exact h1
 obtain⟨g,cap,rfl⟩:=F2 h hpos;go_enter Tryz.func48,Tryz.ntmps48
 go_wp2
 go_loopw [1,5] (λkk i w'=>∃(k:Nat) (ys:List Done),k<=l.length/\i=.int .i64 k/\kk=.int .i64 (m+3*k)/\ys.length=l.length/\MarkedD ys m k/\w'.ownsRow base 124 3 (.slice (some ⟨g,0,none⟩) l.length cap) l.length (rowsF Done.cells ys)/\w.grownBy w' (some g)) (λ_ i _=>l.length-(intOf i).toNat)
 case atStart=>exact⟨0,l,by omega,rfl,by simp,rfl,λi hi=>by omega,h,E1 _ _⟩
 case round =>
  obtain⟨k,ys,hk,rfl,rfl,hyl,hM,hown,hG⟩:=hrel;by_cases hp:k<l.length
  ·go_wp2_with fail
   refine (F8 (m+3*k) wr (by omega)).mono ?_;rintro e w1 ⟨rfl,hB1⟩;have hown1:=E0 hown hB1;have hG1:=E3 hG (K1 (r:=some g) hB1);have hcl:=J6 I8 hown1 (A0 (show k<ys.length by omega));have c0:=hcl 0 _ rfl;have c1:=hcl 1 _ rfl;have c2:=hcl 2 _ rfl;rw[Nat.add_zero] at c0;have f0:=hown1.frozenAt (k*3);have f1:=hown1.frozenAt (k*3+1);have f2:=hown1.frozenAt (k*3+2);obtain⟨r1,r2⟩:=Amh hown1 (show k<ys.length by omega) (mkDn (m+3*k));have hG2:=E3 hG1 r2;have HM:Hid (MarkedD (ys.set k (mkDn (m+3*k))) m (k+1)):=hM.set (by omega);have Hyl:Hid ((ys.set k (mkDn (m+3*k))).length=l.length):=by show _=_;rw[List.length_set];exact hyl
   clear hown hB1 hG hown1 hG1 hM hcl r2;have HR:Hid (((w1.setCell ⟨g,k*3,none⟩ (.string (mkB (m+3*k)))).setCell ⟨g,k*3+1,none⟩ (.int .i64 (m+3*k+1))).setCell ⟨g,k*3+2,none⟩ (.int .i64 (m+3*k+2)) |>.ownsRow base 124 3 (.slice (some ⟨g,0,none⟩) l.length cap) l.length (rowsF Done.cells (ys.set k (mkDn (m+3*k))))):=r1;have HG:Hid (w.grownBy (((w1.setCell ⟨g,k*3,none⟩ (.string (mkB (m+3*k)))).setCell ⟨g,k*3+1,none⟩ (.int .i64 (m+3*k+1))).setCell ⟨g,k*3+2,none⟩ (.int .i64 (m+3*k+2))) (some g)):=hG2;clear r1 hG2;have e2:m+3*(k:Int)+1+1=m+3*k+2:=by omega
   go_wp2_with fail
   go_roundw
   case rel=>exact⟨k+1,ys.set k (mkDn (m+3*k)),by omega,by go_num,by go_num,Hyl.out,HM.out,HR.out,HG.out⟩
   case measure=>simp[intOf];omega
  ·obtain rfl:k=l.length:=by omega
   go_wp2_with fail
   go_ret
   exact⟨rfl,⟨ys,hyl,hM,by rw[hyl];exact hown⟩,hG⟩
theorem Ajt (l:List Done) (base:Nat) (u:Value) (m:Int) (w:World) (h:w.ownsRow base 124 3 u l.length (rowsF Done.cells l)) (hM:MarkedD l m l.length) (hn:l.length<=1000) (hm:1<=m) (hm9:m<=1000000) :
  Calls Tryz.prog 52 #[u,.int .i64 m] w λe w'=>e=.returned (.int .i64 (m+3*l.length))/\Below w.heap.size w w':=by
 by_cases h0:l=[]
 ·subst h0
  obtain⟨a1,c1,rfl⟩:=E9 h;simp only[List.length_nil];clear h hM;go_enter Tryz.func52,Tryz.ntmps52
  go_wp2
  go_rounds 1
  go_ret
  exact⟨by simp,A4 _ _⟩
 have hpos:0<l.length:=by
  rcases C3 l.length with h1|h1
  ·exact absurd (C4.1 h1) h0
  ·exact h1
 obtain⟨g,cap,rfl⟩:=F2 h hpos;have hgl:=(h.lt g rfl).2;have HM:Hid (MarkedD l m l.length):=hM;clear hM h0;go_enter Tryz.func52,Tryz.ntmps52
 go_wp2
 go_loopw [1,5] (λkk i w'=>∃k:Nat,k<=l.length/\i=.int .i64 k/\kk=.int .i64 (m+3*k)/\Below w.heap.size w w') (λ_ i _=>l.length-(intOf i).toNat)
 case atStart=>exact⟨0,by omega,rfl,by simp,A4 _ _⟩
 case round =>
  obtain⟨k,hk,rfl,rfl,hB⟩:=hrel;by_cases hp:k<l.length
  ·have hcl:=J6 I8 h (HM.out k hp)
   have c0:World.cell? wr ⟨g,k*3,none⟩=some (.string (mkB (m+3*k))):=(hB.cell (p:=⟨g,k*3,none⟩) hgl).trans (hcl 0 _ rfl);have c1:World.cell? wr ⟨g,k*3+1,none⟩=some (.int .i64 (m+3*k+1)):=(hB.cell (p:=⟨g,k*3+1,none⟩) hgl).trans (hcl 1 _ rfl);have c2:World.cell? wr ⟨g,k*3+2,none⟩=some (.int .i64 (m+3*k+2)):=(hB.cell (p:=⟨g,k*3+2,none⟩) hgl).trans (hcl 2 _ rfl);have hgr:g<wr.heap.size:=A1 hgl hB.size;clear hcl;go_upto_region 4 with fail
   go_cut [19] (λv19 wc=>v19=.bool false/\Below wr.heap.size wr wc)
   case first =>
    have hS1:World.cell? wr.drew ⟨g,k*3,none⟩=some (.string (mkB (m+3*k))):=c0;have hbd:Below wr.heap.size wr wr.drew:=(A4 _ _).drew;refine F6 99 (λw'=>World.cell? w' ⟨g,k*3,none⟩=some (.string (mkB (m+3*k)))) (by kernel_rfl) ?_;generalize wr.drew=X1 at hS1 hbd ⊢
    refine tkx 0 rfl hS1 ?_;refine tkx 1 rfl hS1 ?_;refine tkx 2 rfl hS1 ?_;refine tkx 3 rfl hS1 ?_;refine tkx 4 rfl hS1 ?_;refine tkx 5 rfl hS1 ?_;refine D7 (i:=6) (by kernel_rfl) rfl (λK hK=>?_);go_simp
    go_wp2_with (go_at_call 49;refine (F8 (m+3*k) _ (by omega)).mono ?_;rintro e w1 ⟨rfl,hB1⟩)
    have hb1:=D5 hbd hB1;have hS2:World.cell? w1 ⟨g,k*3,none⟩=some (.string (mkB (m+3*k))):=(hb1.cell (p:=⟨g,k*3,none⟩) hgr).trans c0;refine hK.out _ _ (λ_=>hS2) ?_;clear hK K;refine D7 (i:=7) (by kernel_rfl) rfl (λK hK=>?_);go_simp
    refine hK.out _ _ (λ_=>hS2) ?_;clear hK K;refine F0 (by kernel_rfl) ?_ _;go_wp2_with fail
    go_meet
    exact⟨rfl,hb1⟩
   case rest =>
   obtain⟨rfl,hbc⟩:=hcut;have d1:=(hbc.cell (p:=⟨g,k*3+1,none⟩) hgr).trans c1;have d2:=(hbc.cell (p:=⟨g,k*3+2,none⟩) hgr).trans c2;have hBc:=D5 hB hbc;clear c0 c1 c2 hbc;have e2:m+3*(k:Int)+1+1=m+3*k+2:=by omega
   go_wp2_with fail
   go_roundw
   case rel=>exact⟨k+1,by omega,by go_num,by go_num,hBc⟩
   case measure=>simp[intOf];omega
  ·obtain rfl:k=l.length:=by omega
   go_wp2_with fail
   go_ret
   exact⟨rfl,hB⟩
theorem Ami {L:List (Value×List ByteArray)} {s:ByteArray} (h:s∈catL L L.length):∃i,∃hi:i<L.length,s∈(L[i]).2:=by
 rw[catL,List.take_length,List.mem_flatten] at h;obtain⟨l,hl,hs⟩:=h;obtain⟨f,hf,rfl⟩:=List.mem_map.1 hl;obtain⟨i,hi,rfl⟩:=B5 hf;exact⟨i,hi,hs⟩
theorem AkU {w:World} {sb:Nat} {L:List (Value×List ByteArray)} (h:CellsL w sb L):∀s∈catL L L.length,s.size<=maxLen:=λs hs=>by
 obtain⟨i,hi,hm⟩:=Ami hs;obtain⟨_,_,_,_,hz,_⟩:=(h i _ (A0 hi)).2;exact hz s hm
theorem AkV {ss:List ByteArray} {f:ByteArray->Bool} {k:Nat} (hk:k<ss.length):(ss.take (k+1)).filter f=(ss.take k).filter f++(if f ss[k]=true then [ss[k]] else []):=by
 rw[A7 hk,List.filter_append];congr 1
 by_cases h:f ss[k]=true
 ·simp[h]
 ·simp[h]
theorem Amj (ss:List ByteArray) (f:ByteArray->Bool) (k:Nat):((ss.take k).filter f).length<=k:=by
 have h1:=List.length_filter_le f (ss.take k);rw[B6] at h1;omega
theorem AkW (ss:List ByteArray) (v:Value) (L:List (Value×List ByteArray)) (sb:Nat) (w:World) (h:Ls w v ss) (hs:ss.length<=100) (hc:CellsL w sb L) (hsb:sb<w.heap.size) (hL:L.length<=10) (hn:(catL L L.length).length<=900) :
  Calls Tryz.prog 188 #[v,.slice (some ⟨sb,0,none⟩) L.length L.length] w λe w'=>(∃u,e=.returned u/\OwnT w' w.heap.size u (ss.filter (memS (catL L L.length))))/\Below w.heap.size w w':=by
 obtain⟨ii,hi,iz0,iz1,iz2⟩:=info_parts L9;have Hz:=AkU hc;obtain⟨a,c,rfl,-,-,hpos⟩:=h;go_enter Tryz.func188,Tryz.ntmps188
 go_wp2_with fail
 refine (AhA L sb w hc hsb hL hn).mono ?_;rintro e w1 ⟨⟨u,rfl,ho⟩,hB1⟩;have HL:Hid (∀W,Below w1.heap.size w1 W->Ls W u (catL L L.length)):=λW hW=>(ho.lst.ls Hz).up hW;obtain⟨ua,uc,hu⟩:=E9 ho;subst hu;clear ho Hz hc hn;generalize hcat:catL L L.length=cat at *;have Hcat:Hid (catL L L.length=cat):=hcat;clear hcat
 have hpos1:Hid (0<ss.length->∃b o,a=some ⟨b,o,none⟩/\StrsAt w1 b o ss/\b<w1.heap.size):=λhp=>by
  obtain⟨g,o,e,hS,hg⟩:=hpos hp;exact⟨g,o,e,hS.up hB1 hg,A1 hg hB1.size⟩
 clear hpos;go_wp2_with fail
 go_loopw [6,13] (λx i w'=>∃k:Nat,k<=ss.length/\i=.int .i64 (k:Int)/\OwnT w' w1.heap.size x ((ss.take k).filter (memS cat))/\Below w1.heap.size w1 w') (λ_ i _=>ss.length-(intOf i).toNat)
 case atStart=>exact⟨0,by omega,rfl,B7 _ _ _ _,A4 _ _⟩
 case round =>
  obtain⟨k,hk,rfl,hx,hB⟩:=hrel;by_cases hp:k<ss.length
  ·obtain⟨g,o,rfl,hS,hg⟩:=hpos1.out (by omega)
   have c0:=(hS.up hB hg).cell hp;have HF:=AkV (f:=memS cat) hp;have Hl:=Amj ss (memS cat) k;have HC:=HL.out wr hB;generalize ss[k]=s0 at *;go_wp2_with fail
   refine (Aa3 cat _ s0 _ HC).mono ?_;rintro e w2 ⟨rfl,hw2⟩;obtain rfl:=hw2.symm;clear c0;cases hq:memS cat s0
   ·rw[hq,if_neg (by simp),List.append_nil] at HF
    have HX:Hid (OwnT wr w1.heap.size u6 ((ss.take (k+1)).filter (memS cat))):=by show _;rw[HF];exact hx
    clear hx HF;go_wp2_with fail
    go_roundw
    case rel=>exact⟨k+1,by omega,by go_num,HX.out,hB⟩
    case measure=>simp[intOf];omega
   ·rw[hq,if_pos rfl] at HF
    have HF':Hid ((ss.take (k+1)).filter (memS cat)=(ss.take k).filter (memS cat)++[s0]):=HF;clear HF;generalize (ss.take k).filter (memS cat)=xs at *;have hownA:=World.ownsRow.alloc hx (.cells #[.string s0] 9);have hBA:=hB.alloc hB.size (.cells #[.string s0] 9);have hzA:=hB.size;obtain⟨xa,xc,hxs⟩:=E9 hx;subst hxs;clear hx;go_wp2_with (at_builtin;refine wpList_append_own _ rfl _ _ 22 rfl w1.heap.size 9 ii _ 1 16 Tryz.underlying22 hi iz0 iz1 iz2 rfl (by decide) _ _ _ rfl hownA ⟨wr.heap.size,0,none⟩ 1 1 [.string s0] rfl rfl (S1 _ _ _) (Abp s0) (by unfold maxLen;omega) (by omega) (by simp;omega) ?_)
    intro v' w2 hown2 hgr2 _;have hB2:=G4 hBA hownA hgr2 (A3 _);have hO2:OwnT w2 w1.heap.size v' (xs++[s0]):=by unfold OwnT;simpa using hown2
    obtain⟨ya,yc,hys⟩:=E9 hO2;subst hys;clear hownA hgr2 hown2 hBA;go_wp2_with fail
    go_roundw
    case rel=>exact⟨k+1,by omega,by go_num,by rw[HF'.out];exact hO2,hB2⟩
    case measure=>simp[intOf];omega
  ·obtain rfl:k=ss.length:=by omega
   rw[List.take_length] at hx;have hBB:=D5 hB1 hB;have hz1:=hB1.size;obtain⟨xa,xc,hxs⟩:=E9 hx;subst hxs;go_wp2_with fail
   go_ret
   have e:=Hcat.out;subst e;exact⟨⟨_,rfl,F9 hx hz1⟩,hBB⟩
end Go.Proofs.YtgecdacgmehmbaaGreatDoor
