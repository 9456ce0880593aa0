/- The program's checks of what batches need and have (chapter 22). -/
import Derived.Test.YtgecdacgmehmbaaGreatDoorJ32
import Derived.Test.YtgecdacgmehmbaaGreatDoorJ14
import Derived.Test.YtgecdacgmehmbaaGreatDoorJ2
import Derived.Test.YtgecdacgmehmbaaGreatDoorJ27
import Derived.Test.YtgecdacgmehmbaaGreatDoorJ36
import Derived.Test.YtgecdacgmehmbaaGreatDoorU3
import Derived.Lib.AppendZerosOnto
import Derived.Test.YtgecdacgmehmbaaGreatDoorJ22
import Derived.Test.YtgecdacgmehmbaaGreatDoorJ17
import Derived.Test.YtgecdacgmehmbaaGreatDoorJ21
set_option maxRecDepth 20000
set_option maxHeartbeats 8000000
namespace Go.Proofs.YtgecdacgmehmbaaGreatDoor
open Go.RowKit
theorem Alf {l:List ByteArray} {s:ByteArray} {k:Nat} (ha:Asc l) (hk:k<l.length) (e:l[k]=s):lowN l s=k:=by
 subst e;refine AeA (Nat.le_of_lt hk) (λj x hj hx=>?_) (λj x hj hx=>?_)
 ·exact R9 ha (k-j-1) j x _ hx (by rw[show j+1+(k-j-1)=k by omega];exact A0 hk)
 ·rcases Nat.eq_or_lt_of_le hj with e|e
  ·subst e
   rw[A0 hk] at hx;obtain rfl:=A5 hx;exact O5 _
  ·have h1:=R9 ha (j-k-1) k _ x (A0 hk) (by rw[show k+1+(j-k-1)=j by omega];exact hx)
   cases hq:ltS x l[k]
   ·rfl
   ·have:=Aaz h1 hq
    rw[O5] at this;cases this
theorem Ani:(Tryz.prog.info? 118).map (·.size)=some 3:=by kernel_rfl
theorem Aj3 (nm:ByteArray) (a1 a2:Option Addr) (n1 c1 n2 c2:Nat) (w:World):(Instr.field 118 (.agg #[.string nm,.slice a1 n1 c1,.slice a2 n2 c2]) 2).run Tryz.prog w=.ok (.slice a2 n2 c2) w:=by kernel_rfl
theorem Aj4 (nm:ByteArray) (a1 a2:Option Addr) (n1 c1 n2 c2:Nat) (w:World):(Instr.field 118 (.agg #[.string nm,.slice a1 n1 c1,.slice a2 n2 c2]) 1).run Tryz.prog w=.ok (.slice a1 n1 c1) w:=by kernel_rfl
theorem Ado (h:House) (x0:Rb) (a1 a2 a3 a4:Option Addr) (c1 c2 c3 c4 p q c g r d:Nat) (w:World) (H:BkV w (.agg #[.slice a1 h.sh.things.length c1,.slice a2 h.sh.bs.length c2]) h.sh) (hok:BookOk h.sh) (hm:x0.nm∈nms h.sh.bs) :
  Calls Tryz.prog 164 #[.agg #[.int .i64 h.now,.int .i64 h.last,.slice a1 h.sh.things.length c1,.slice a2 h.sh.bs.length c2,.slice a3 h.bs.length c3,.slice a4 h.ds.length c4],.agg #[.string x0.nm,.slice (some ⟨p,q,none⟩) x0.ps.length c,.slice (some ⟨g,r,none⟩) x0.sl.length d,.string x0.ad,.int .i64 x0.si,.int .i64 x0.st]] w λe w'=>(∃b1 k1 b2 k2,e=.returned (.agg #[.string (shOf h.sh x0.nm).nm,.slice b1 (shOf h.sh x0.nm).has.length k1,.slice b2 (shOf h.sh x0.nm).needs.length k2])/\Ls w' (.slice b1 (shOf h.sh x0.nm).has.length k1) (shOf h.sh x0.nm).has/\Ls w' (.slice b2 (shOf h.sh x0.nm).needs.length k2) (shOf h.sh x0.nm).needs)/\Below w.heap.size w w':=by
 obtain⟨k,hk,hkn⟩:=Aku hm;have ha:=hok.2.2.2.1;have hsh:=Aig ha hk hkn;have hlow:lowN (nms h.sh.bs) x0.nm=k:=Alf ha (by rw[I0];exact hk) (by rw[Q8 _ _ hk];exact hkn);have hfind:=λW (hB:Below w.heap.size w W)=>AaN h.sh _ x0.nm W (H.up hB) hok;rw[hlow] at hfind;rw[hsh];have hb5:h.sh.bs.length<=5:=hok.2.1;obtain⟨tv',bv',hag,-,a',c',hbv,-,hpos⟩:=H;simp only[Value.agg.injEq,Array.mk.injEq,List.cons.injEq] at hag;obtain⟨-,rfl,-⟩:=hag;simp only[Value.slice.injEq] at hbv;obtain⟨rfl,-,rfl⟩:=hbv;obtain⟨bb,oo,rfl,hS,hbb⟩:=hpos (by omega);have Hf:Hid (∀W,Below w.heap.size w W->Calls Tryz.prog 179 #[.agg #[.slice a1 h.sh.things.length c1,.slice (some ⟨bb,oo,none⟩) h.sh.bs.length c2],.string x0.nm] W λe w'=>e=.returned (.tuple #[.int .i64 (k:Int),.bool (memS (nms h.sh.bs) x0.nm)])/\Below W.heap.size W w'):=hfind;clear hfind hlow hsh hkn hm ha hok hpos;go_enter Tryz.func164,Tryz.ntmps164
 go_upto_region 1 with fail
 obtain⟨W1,hW1,kP,kR,kO,hB1,hs1⟩:=Adv w [.int .i64 h.now,.int .i64 h.last,.slice a1 h.sh.things.length c1,.slice (some ⟨bb,oo,none⟩) h.sh.bs.length c2,.slice a3 h.bs.length c3,.slice a4 h.ds.length c4] 41 [.string x0.nm,.slice (some ⟨p,q,none⟩) x0.ps.length c,.slice (some ⟨g,r,none⟩) x0.sl.length d,.string x0.ad,.int .i64 x0.si,.int .i64 x0.st] 71 [.string ⟨#[]⟩,.slice none 0 0,.slice none 0 0] 118;rw[hW1];clear hW1;obtain⟨d0,d1,d2,d3,d4,d5⟩:=kP.c6;obtain⟨e0,-⟩:=kR.c6;go_wp2_with fail
 refine (Hf.out _ hB1).mono ?_;rintro e w2 ⟨rfl,hB2⟩;have hz2:=hB2.size;have hB12:=D5 hB1 hB2;clear d0 d1 d2 d3 d4 d5 e0;obtain⟨d0,d1,d2,d3,d4,d5⟩:=(kP.up hB2 (by omega)).c6;have kO2:=kO.up hB2 (by omega);obtain⟨⟨o0,o1,o2⟩,f0,f1,f2⟩:=kO2.c3;obtain⟨ah,dh,an,dn,s0,s1,s2,l1,l2,-⟩:=(hS.at hk).cells;have t0:=(hB12.cell (p:=⟨bb,oo+k*3,none⟩) hbb).trans s0;have t1:=(hB12.cell (p:=⟨bb,oo+k*3+1,none⟩) hbb).trans s1;have t2:=(hB12.cell (p:=⟨bb,oo+k*3+2,none⟩) hbb).trans s2;clear s0 s1 s2;go_wp2_with fail
 refine AhW Tryz.results164 Tryz.underlying118 rfl Ani kO2 rfl ?_;have hg:=AdN hB12 (b:=w.heap.size+2) (by omega) (.string (h.sh.bs[k]).nm) (.slice ah (h.sh.bs[k]).has.length dh) (.slice an (h.sh.bs[k]).needs.length dn);exact⟨⟨ah,dh,an,dn,rfl,l1.up hg,l2.up hg⟩,hg⟩
theorem Aey (nm ad:ByteArray) (a1 a2:Option Addr) (n1 n2 c1 c2:Nat) (st:Int) (w:World) :
  Calls Tryz.prog 125 #[.agg #[.string nm,.slice a1 n1 c1,.slice a2 n2 c2,.string ad,.int .i64 (-1),.int .i64 st]] w λe w'=>e=.returned (.tuple #[.int .i64 0,.bool false])/\Below w.heap.size w w':=by
 have ta:∀w,(Instr.typeAssert (.iface 233 (.agg #[])) 203 219 true).run Tryz.prog w=.ok (.tuple #[.agg #[.int .i64 0],.bool false]) w:=λ_=>by kernel_rfl
 have hB0:=(A4 w.heap.size w).alloc (A3 _) (.cells #[.string nm,.slice a1 n1 c1,.slice a2 n2 c2,.string ad,.int .i64 (-1),.int .i64 st] 71);go_enter Tryz.func125,Tryz.ntmps125
 go_wp2_with fail
 refine (Aek _ _ _ _ _ _ _ _ _ _).mono ?_;rintro e w1 ⟨rfl,hB1⟩;have hB01:=D5 hB0 hB1;go_wp2_with fail
 go_returns
 exact⟨rfl,hB01.alloc hB01.size _⟩
theorem AgK (nm ad:ByteArray) (a1 a2:Option Addr) (n1 n2 c1 c2:Nat) (si st:Int) (w:World) (h:¬si=-1) :
  Calls Tryz.prog 125 #[.agg #[.string nm,.slice a1 n1 c1,.slice a2 n2 c2,.string ad,.int .i64 si,.int .i64 st]] w λe w'=>e=.returned (.tuple #[.int .i64 si,.bool true])/\Below w.heap.size w w':=by
 have ta:∀w,(Instr.typeAssert (.iface 219 (.agg #[.int .i64 si])) 203 219 true).run Tryz.prog w=.ok (.tuple #[.agg #[.int .i64 si],.bool true]) w:=λ_=>by kernel_rfl
 have hB0:=(A4 w.heap.size w).alloc (A3 _) (.cells #[.string nm,.slice a1 n1 c1,.slice a2 n2 c2,.string ad,.int .i64 si,.int .i64 st] 71);have H:Hid (¬si=-1):=h;clear h;go_enter Tryz.func125,Tryz.ntmps125
 go_wp2_with fail
 refine (AdA _ _ _ _ _ _ _ _ _ _ _ H.out).mono ?_;rintro e w1 ⟨rfl,hB1⟩;have hB01:=D5 hB0 hB1;go_wp2_with fail
 go_returns
 exact⟨rfl,hB01.alloc hB01.size _⟩
theorem Anj (l:List Ph) (a:Option Addr) (c:Nat) (w:World) (hn:l.length<=1048576) (h:0<l.length->∃b o,a=some ⟨b,o,none⟩/\∀(i:Nat) (x:Ph),l[i]?=some x->w.rangeAt b (o+i*8) (Ph.cells x)) :
  Calls Tryz.prog 128 #[.slice a l.length c] w λe w'=>(∃u,e=.returned u/\w'.ownsRow w.heap.size 73 8 u l.length (rowsF Ph.cells l))/\Below w.heap.size w w':=by
 obtain⟨ii,hi,iz0,iz1,iz2⟩:=info_parts Aiv;have ho:w.ownsRow w.heap.size 73 8 (.slice none 0 0) 0 []:=B7 _ _ _ _
 have hnw:0<l.length->∃d:Addr,a=some d/\∀(j:Nat) (u:Value),(rowsF Ph.cells l)[j]?=some u->w.cell? (d.add j)=some u:=λhp=>by
  obtain⟨b,o,rfl,hr⟩:=h hp;exact⟨_,rfl,Y8 (by decide) G5 hr⟩
 have hl:=I6 G5 l;have h1:=oneP l;generalize rowsF Ph.cells l=rs at *;clear h;go_enter Tryz.func128,Tryz.ntmps128
 go_wp2_with (at_builtin;refine M9 _ rfl _ _ 45 rfl w.heap.size 73 ii _ 8 104 Tryz.underlying45 hi iz0 iz1 iz2 rfl (by decide) (.slice none 0 0) _ _ rfl ho a l.length c rs rfl hl hnw h1 (by unfold maxLen;omega) (by omega) (A3 _) ?_)
 intro v1 W1 ho1 hgr _;have hB:=G4 (A4 _ _) ho hgr (A3 _);obtain⟨a1,c1,rfl⟩:=E9 ho1;go_wp2_with fail
 go_ret
 exact⟨⟨_,rfl,ho1⟩,hB⟩
theorem Ank (l:List Sl) (a:Option Addr) (c:Nat) (w:World) (hn:l.length<=1048576) (h:0<l.length->∃b o,a=some ⟨b,o,none⟩/\∀(i:Nat) (x:Sl),l[i]?=some x->w.rangeAt b (o+i*2) (Sl.cells x)) :
  Calls Tryz.prog 129 #[.slice a l.length c] w λe w'=>(∃u,e=.returned u/\w'.ownsRow w.heap.size 81 2 u l.length (rowsF Sl.cells l))/\Below w.heap.size w w':=by
 obtain⟨ii,hi,iz0,iz1,iz2⟩:=info_parts Aiw;have ho:w.ownsRow w.heap.size 81 2 (.slice none 0 0) 0 []:=B7 _ _ _ _
 have hnw:0<l.length->∃d:Addr,a=some d/\∀(j:Nat) (u:Value),(rowsF Sl.cells l)[j]?=some u->w.cell? (d.add j)=some u:=λhp=>by
  obtain⟨b,o,rfl,hr⟩:=h hp;exact⟨_,rfl,Y8 (by decide) M8 hr⟩
 have hl:=I6 M8 l;have h1:=oneSl l;generalize rowsF Sl.cells l=rs at *;clear h;go_enter Tryz.func129,Tryz.ntmps129
 go_wp2_with (at_builtin;refine M9 _ rfl _ _ 47 rfl w.heap.size 81 ii _ 2 32 Tryz.underlying47 hi iz0 iz1 iz2 rfl (by decide) (.slice none 0 0) _ _ rfl ho a l.length c rs rfl hl hnw h1 (by unfold maxLen;omega) (by omega) (A3 _) ?_)
 intro v1 W1 ho1 hgr _;have hB:=G4 (A4 _ _) ho hgr (A3 _);obtain⟨a1,c1,rfl⟩:=E9 ho1;go_wp2_with fail
 go_ret
 exact⟨⟨_,rfl,ho1⟩,hB⟩
theorem AeH (l:List Done) (a:Option Addr) (c:Nat) (w:World) (hn:l.length<=1048576) (h:0<l.length->∃b o,a=some ⟨b,o,none⟩/\∀(i:Nat) (x:Done),l[i]?=some x->w.rangeAt b (o+i*3) (Done.cells x)) :
  Calls Tryz.prog 140 #[.slice a l.length c] w λe w'=>(∃u,e=.returned u/\w'.ownsRow w.heap.size 124 3 u l.length (rowsF Done.cells l))/\Below w.heap.size w w':=by
 obtain⟨ii,hi,iz0,iz1,iz2⟩:=info_parts Aix;have ho:w.ownsRow w.heap.size 124 3 (.slice none 0 0) 0 []:=B7 _ _ _ _
 have hnw:0<l.length->∃d:Addr,a=some d/\∀(j:Nat) (u:Value),(rowsF Done.cells l)[j]?=some u->w.cell? (d.add j)=some u:=λhp=>by
  obtain⟨b,o,rfl,hr⟩:=h hp;exact⟨_,rfl,Y8 (by decide) I8 hr⟩
 have hl:=I6 I8 l;have h1:=AaB l;generalize rowsF Done.cells l=rs at *;clear h;go_enter Tryz.func140,Tryz.ntmps140
 go_wp2_with (at_builtin;refine M9 _ rfl _ _ 39 rfl w.heap.size 124 ii _ 3 32 Tryz.underlying39 hi iz0 iz1 iz2 rfl (by decide) (.slice none 0 0) _ _ rfl ho a l.length c rs rfl hl hnw h1 (by unfold maxLen;omega) (by omega) (A3 _) ?_)
 intro v1 W1 ho1 hgr _;have hB:=G4 (A4 _ _) ho hgr (A3 _);obtain⟨a1,c1,rfl⟩:=E9 ho1;go_wp2_with fail
 go_ret
 exact⟨⟨_,rfl,ho1⟩,hB⟩
theorem Afi (x:Rb) (rv sv:Value) (w:World) (H:RbV w x rv sv) (hp:0<x.ps.length) (hs:0<x.sl.length) :
  Calls Tryz.prog 86 #[.agg #[.string x.nm,rv,sv,.string x.ad,.int .i64 x.si,.int .i64 x.st]] w λe w'=>(∃ru su,e=.returned (.agg #[.string x.nm,ru,su,.string x.ad,.int .i64 x.si,.int .i64 x.st])/\RcW w' w.heap.size (x,ru,su))/\Below w.heap.size w w':=by
 have hnp:=H.np;have hns:=H.ns;have Hz:Hid (Sized x.ps/\(∀y∈x.sl,y.s.size<=maxLen/\y.t.size<=maxLen)/\x.nm.size<=maxLen):=⟨H.zp,H.zs,H.zn⟩;obtain⟨b,o,c,rfl,hr,hb,-,-⟩:=H.r;obtain⟨g,q,d,rfl,hsl,hg⟩:=H.s;clear H;obtain⟨W1,hW1,kA,kR,hB1,hs1⟩:=L8 w [.string x.nm,.slice (some ⟨b,o,none⟩) x.ps.length c,.slice (some ⟨g,q,none⟩) x.sl.length d,.string x.ad,.int .i64 x.si,.int .i64 x.st] 71 [.string ⟨#[]⟩,.slice none 0 0,.slice none 0 0,.string ⟨#[]⟩,.int .i64 0,.int .i64 0] 71;have hr1:=hr.up hB1 hb;have hsl1:=hsl.up hB1 hg;clear hr hsl;go_enter Tryz.func86,Tryz.ntmps86
 go_upto_region 1 with fail
 try rw[hW1]
 clear hW1;obtain⟨-,e1,-,-,-,-⟩:=kA.c6;go_upto_region 2 with (go_at_call 128;refine (Anj x.ps _ c W1 hnp (λ_=>⟨b,o,rfl,hr1⟩)).mono ?_;rintro e w2 ⟨⟨u1,rfl,ho1⟩,hb2⟩;obtain⟨g1,m1,rfl⟩:=F2 ho1 hp;have kA2:=kA.up hb2 kA.2.2;clear e1;obtain⟨-,e1,-,-,-,-⟩:=kA2.c6;obtain⟨-,f1,-,-,-,-⟩:=kA2.f6)
 clear e1 f1 hr1;have hz2:=hb2.size;have hgA:w2.grownBy (w2.setCell ⟨w.heap.size,1,none⟩ (.slice (some ⟨g1,0,none⟩) x.ps.length m1)) (some w.heap.size):=D9 (E1 _ _) _;have kA3:CB (w2.setCell ⟨w.heap.size,1,none⟩ (.slice (some ⟨g1,0,none⟩) x.ps.length m1)) w.heap.size [.string x.nm,.slice (some ⟨g1,0,none⟩) x.ps.length m1,.slice (some ⟨g,q,none⟩) x.sl.length d,.string x.ad,.int .i64 x.si,.int .i64 x.st]:=kA2.set (j:=1) (by simp);have kR3:=(kR.up hb2 kR.2.2).kept hgA (by simp);have ho3:=E6 ho1 hgA (by omega);have hB3:Below w.heap.size w (w2.setCell ⟨w.heap.size,1,none⟩ (.slice (some ⟨g1,0,none⟩) x.ps.length m1)):=(D5 hB1 hb2).setCell (A3 _) _;have hsl3:SlAt (w2.setCell ⟨w.heap.size,1,none⟩ (.slice (some ⟨g1,0,none⟩) x.ps.length m1)) g q x.sl:=λi y hy j v hv=>hgA.cell ((hsl1.up hb2 (by omega)) i y hy j v hv) (by simp;omega);clear kA kR kA2 ho1 hb2 hB1 hgA hsl1;generalize w2.setCell ⟨w.heap.size,1,none⟩ (.slice (some ⟨g1,0,none⟩) x.ps.length m1)=W3 at *;obtain⟨-,-,e2,-,-,-⟩:=kA3.c6;go_upto_region 3 with (go_at_call 129;refine (Ank x.sl _ d W3 hns (λ_=>⟨g,q,rfl,hsl3⟩)).mono ?_;rintro e w4 ⟨⟨u2,rfl,ho2⟩,hb4⟩;obtain⟨g2,m2,rfl⟩:=F2 ho2 hs;have kA4:=kA3.up hb4 kA3.2.2;clear e2;obtain⟨-,-,e2,-,-,-⟩:=kA4.c6;obtain⟨-,-,f2,-,-,-⟩:=kA4.f6)
 clear e2 f2 hsl3;have hz3:=kR3.2.2;have hz4:=hb4.size;have hgA:w4.grownBy (w4.setCell ⟨w.heap.size,2,none⟩ (.slice (some ⟨g2,0,none⟩) x.sl.length m2)) (some w.heap.size):=D9 (E1 _ _) _;have kA5:CB (w4.setCell ⟨w.heap.size,2,none⟩ (.slice (some ⟨g2,0,none⟩) x.sl.length m2)) w.heap.size [.string x.nm,.slice (some ⟨g1,0,none⟩) x.ps.length m1,.slice (some ⟨g2,0,none⟩) x.sl.length m2,.string x.ad,.int .i64 x.si,.int .i64 x.st]:=kA4.set (j:=2) (by simp);have kR5:=(kR3.up hb4 kR3.2.2).kept hgA (by simp);have ho5:=E6 (E0 ho3 hb4) hgA (by omega);have ho6:=E6 ho2 hgA (by omega);have hB5:Below w.heap.size w (w4.setCell ⟨w.heap.size,2,none⟩ (.slice (some ⟨g2,0,none⟩) x.sl.length m2)):=(D5 hB3 hb4).setCell (A3 _) _;clear kA3 kR3 kA4 ho3 ho2 hb4 hB3 hgA;generalize w4.setCell ⟨w.heap.size,2,none⟩ (.slice (some ⟨g2,0,none⟩) x.sl.length m2)=W5 at *;obtain⟨e0,e1,e2,e3,e4,e5⟩:=kA5.c6;obtain⟨y0,y1,y2,y3,y4,y5⟩:=kR5.c6;obtain⟨f0,f1,f2,f3,f4,f5⟩:=kR5.f6;go_wp2_with fail
 refine Aaq Tryz.results86 Tryz.underlying71 rfl Ada kR5 rfl ?_;have hg9:=L0 W5 (w.heap.size+1) (.string x.nm) (.slice (some ⟨g1,0,none⟩) x.ps.length m1) (.slice (some ⟨g2,0,none⟩) x.sl.length m2) (.string x.ad) (.int .i64 x.si) (.int .i64 x.st);exact⟨⟨_,_,rfl,⟨F9 (E6 ho5 hg9 (by omega)) (by omega),F9 (E6 ho6 hg9 (by omega)) (by omega),⟨_,_,_,rfl⟩,⟨_,_,_,rfl⟩,Hz.out.1,Hz.out.2.1,Hz.out.2.2,hnp,hns⟩⟩,J2 hB5 (by omega) _ _ _ _ _ _⟩
end Go.Proofs.YtgecdacgmehmbaaGreatDoor
namespace Go.Proofs.YtgecdacgmehmbaaGreatDoor
open Go.RowKit Go.Shelf Go.Lib
theorem Alg (ps:List Bv) (p:Bv) (k:Nat) (Z:List Value) (hk:k<ps.length) (hz:Z.length=(ps.length+1-k)*3) :
  let xs:=rowsB (ps.take k)++Z
  let xs2:=xs.take (k*3)++rowB p++xs.drop (k*3+(rowB p).length)
  xs2.take ((k+1)*3)++rowsB (ps.drop k)++xs2.drop ((k+1)*3+(rowsB (ps.drop k)).length)=rowsB (ps.take k++p::ps.drop k):=by
 intro xs xs2;have h1:(rowsB (ps.take k)).length=k*3:=by rw[J3,B6];omega
 have h2:(rowsB (ps.drop k)).length=(ps.length-k)*3:=by rw[J3,A8]
 have hb:(rowB p).length=3:=rfl;have h3:xs.take (k*3)=rowsB (ps.take k):=List.take_left' h1;have hxl:xs.length=(ps.length+1)*3:=by show (rowsB (ps.take k)++Z).length=_;rw[A9,h1,hz];omega
 have h4:(rowsB (ps.take k)++rowB p).length=(k+1)*3:=by rw[A9,h1,hb];omega
 have h5:xs2.take ((k+1)*3)=rowsB (ps.take k)++rowB p:=by
  show (xs.take (k*3)++rowB p++_).take _=_
  rw[h3];exact List.take_left' h4
 have h6:xs2.drop ((k+1)*3+(rowsB (ps.drop k)).length)=[]:=List.drop_eq_nil_of_le (by
  show (xs.take (k*3)++rowB p++xs.drop (k*3+(rowB p).length)).length<=_
  rw[A9,h3,h4,A8,hxl,hb,h2];omega)
 rw[h5,h6,Q9];simp[rowsB]
theorem AgL (ps:List Bv) (p:Bv) (k g c base vb:Nat) (w:World) (hk:k<ps.length) (hn:ps.length<=100) (hroom:c<ps.length+1) (hrow:w.ownsRow base 118 3 (.slice (some ⟨g,0,none⟩) ps.length c) ps.length (rowsB ps)) (hone:∀u∈rowsB ps,u.oneCell'=true) (hB:NewB w vb p) (hop:∀u∈rowB p,u.oneCell'=true) (hz:base<=w.heap.size) :
  ∃G W1 W2 w',(∀ty,(Builtin.append_ #[35,3] ty #[.slice (some ⟨g,0,none⟩) k c,.int .i64 ((ps.length:Int)+1-(k:Int))]).run Tryz.prog w=.ok (.slice (some ⟨w.heap.size,0,none⟩) (ps.length+1) G) W1)/\
   (∀ty dc,(Builtin.copy_ #[35,35] ty #[.slice (some ⟨w.heap.size,k*3,none⟩) (ps.length+1-k) dc,.slice (some ⟨vb,0,none⟩) 1 1]).run Tryz.prog W1=.ok (goInt ((1:Nat):Int)) W2)/\
   (∀ty dc sc,(Builtin.copy_ #[35,35] ty #[.slice (some ⟨w.heap.size,(k+1)*3,none⟩) (ps.length-k) dc,.slice (some ⟨g,k*3,none⟩) (ps.length-k) sc]).run Tryz.prog W2.drew=.ok (goInt ((ps.length-k:Nat):Int)) w')/\
   w'.ownsRow base 118 3 (.slice (some ⟨w.heap.size,0,none⟩) (ps.length+1) G) (ps.length+1) (rowsB (ps.take k++p::ps.drop k))/\Below w.heap.size w W2/\Below w.heap.size w w'/\ps.length+1<=G/\G<=9223372036854775807/\c=ps.length:=by
 obtain⟨ii,hi,iz0,iz1,iz2⟩:=info_parts Aan;have hsz:(Tryz.prog.info? 118).map (·.size)=some 3:=by kernel_rfl
 obtain⟨hcn,hcm⟩:=AbZ hrow;obtain rfl:c=ps.length:=by omega
 have hgl:=(hrow.lt g rfl).2;have hl1:(rowsB (ps.take k)).length=k*3:=by rw[J3,B6];omega
 have hld:(rowsB (ps.drop k)).length=(ps.length-k)*3:=by rw[J3,A8]
 have hold:(Builtin.firstCells ii.size k (.slice (some ⟨g,0,none⟩) k ps.length)).run Tryz.prog w.drew=.ok (rowsB (ps.take k)).toArray w.drew:=by
  rw[iz1]
  exact run_firstCells_some w.drew 3 k ⟨g,0,none⟩ k ps.length (rowsB (ps.take k)) hl1 (by
   have h:=Aaa hrow 0 (ps.take k) (Aij ps k);intro j v hj;have h2:=h j v hj;simpa using h2)
 have hG1:=grownCap_ge w (ps.length+1) ps.length 118;have hG2:=grownCap_le_maxLen w (ps.length+1) ps.length 118 (by unfold maxLen;omega);have hkk:(ps.length:Int)+1-(k:Int)=((ps.length+1-k:Nat):Int):=by omega
 have hsum:k+(ps.length+1-k)=ps.length+1:=by omega
 obtain⟨z,hz0⟩:∃z:Value,z=.agg #[.string ⟨#[]⟩,.slice none 0 0,.slice none 0 0]:=⟨_,rfl⟩;have hzc:z.cells.size=3:=by rw[hz0];rfl
 have hap:∀ty,(Builtin.append_ #[35,3] ty #[.slice (some ⟨g,0,none⟩) k ps.length,.int .i64 ((ps.length:Int)+1-(k:Int))]).run Tryz.prog w =
   .ok (.slice (some ⟨w.heap.size,0,none⟩) (ps.length+1) (grownCap w (ps.length+1) ps.length 118)) (w.drew.alloc (.cells ((rowsB (ps.take k)).toArray++Builtin.zeroCells z.cells (ps.length+1-k)++Builtin.zeroCells z.cells (grownCap w (ps.length+1) ps.length 118-(ps.length+1))) 118)):=λty=>by
  have h:=Lib.run_append_grow_zeros (P:=Tryz.prog) w 35 3 ty 118 ii z .i64 .i64 Tryz.underlying35 Tryz.underlying3 hi (by rw[hz0];exact iz0) (some ⟨g,0,none⟩) k ps.length (rowsB (ps.take k)) hold (ps.length+1-k) (by omega) (by rw[iz1];omega) (by omega) (by omega) (by rw[iz2];omega) (by rw[iz2,hsum];exact growslice_fits (by omega) (by omega));rw[hsum] at h;rw[hkk];exact h
 generalize grownCap w (ps.length+1) ps.length 118=G at *;obtain⟨Z,hZ⟩:∃Z,Z=(Builtin.zeroCells z.cells (ps.length+1-k)).toList:=⟨_,rfl⟩;have hZl:Z.length=(ps.length+1-k)*3:=by rw[hZ,Array.length_toList,size_zeroCells,hzc]
 have hrow1:(w.drew.alloc (.cells ((rowsB (ps.take k)).toArray++Builtin.zeroCells z.cells (ps.length+1-k)++Builtin.zeroCells z.cells (G-(ps.length+1))) 118)).ownsRow w.heap.size 118 3 (.slice (some ⟨w.heap.size,0,none⟩) (ps.length+1) G) (ps.length+1) (rowsB (ps.take k)++Z):=by
  refine⟨by rw[A9,hl1,hZl];omega,.inr ⟨_,_,_,rfl,A3 _,heap_alloc_new _ _,hG1,hG2,?_,?_⟩⟩
  ·rw[Array.size_append,Array.size_append,size_zeroCells,size_zeroCells,hzc]
   simp only[List.size_toArray,hl1];omega
  ·rw[Array.toList_append,Array.toList_append,List.toList_toArray,← hZ]
   exact List.take_left' (by rw[A9,hl1,hZl];omega)
 have hbW:Below w.heap.size w (w.drew.alloc (.cells ((rowsB (ps.take k)).toArray++Builtin.zeroCells z.cells (ps.length+1-k)++Builtin.zeroCells z.cells (G-(ps.length+1))) 118)):=(A4 _ _).drew.alloc (by simp) _;generalize w.drew.alloc (.cells ((rowsB (ps.take k)).toArray++Builtin.zeroCells z.cells (ps.length+1-k)++Builtin.zeroCells z.cells (G-(ps.length+1))) 118)=W1 at *;have hvl:vb<w.heap.size:=(D3.1 (show w.heap[vb]?=_ from hB)).1;have hB1:NewB W1 vb p:=by unfold NewB;rw[hbW.block vb hvl];exact hB
 have hxl:(rowsB (ps.take k)++Z).length=(ps.length+1)*3:=hrow1.1;have hbp:(rowB p).length=3:=rfl;obtain⟨t1,t2⟩:=Aah (rowB p) (k*3) W1 (rowsB (ps.take k)++Z) hrow1 (by rw[hxl,hbp];omega);have hxl2:=t1.1;have t1d:(W1.setCells w.heap.size (k*3) (rowB p)).drew.ownsRow w.heap.size 118 3 (.slice (some ⟨w.heap.size,0,none⟩) (ps.length+1) G) (ps.length+1) _:=t1;obtain⟨s1,s2⟩:=Aah (rowsB (ps.drop k)) ((k+1)*3) (W1.setCells w.heap.size (k*3) (rowB p)).drew _ t1d (by rw[hxl2,hld];omega);rw[Alg ps p k Z hk hZl] at s1;have hb2:Below w.heap.size w (W1.setCells w.heap.size (k*3) (rowB p)):=G4 hbW hrow1 t2 (A3 _);have hb3:=G4 (W:=(W1.setCells w.heap.size (k*3) (rowB p)).drew) hb2.drew t1d s2 (A3 _);have hrow2:(W1.setCells w.heap.size (k*3) (rowB p)).drew.ownsRow base 118 3 (.slice (some ⟨g,0,none⟩) ps.length ps.length) ps.length (rowsB ps):=E0 hrow hb2.drew;refine⟨G,W1,_,_,hap,λty dc=>?_,λty dc sc=>?_,F9 s1 hz,hb2,hb3,hG1,by unfold maxLen at hG2;omega,rfl⟩
 ·have h:=Abn (P:=Tryz.prog) W1 35 35 ty 118 3 w.heap.size (k*3) (ps.length+1-k) dc ⟨vb,0,none⟩ 1 1 (rowB p) Tryz.underlying35 hsz (by rw[show Nat.min 1 (ps.length+1-k)=1 from Nat.min_eq_left (by omega)];rfl)
   hB1.cell (λj hj=>?_) (λj hj=>hrow1.frozenAt _) hop
  ·rw[h,show Nat.min 1 (ps.length+1-k)=1 from Nat.min_eq_left (by omega)]
  ·have hj3:j<3:=hj
   rw[hrow1.cellAt _ (by omega),A0 (by rw[hxl];omega)];rfl
 ·have h:=Abn (P:=Tryz.prog) (W1.setCells w.heap.size (k*3) (rowB p)).drew 35 35 ty 118 3 w.heap.size ((k+1)*3) (ps.length-k) dc ⟨g,k*3,none⟩ (ps.length-k) sc (rowsB (ps.drop k)) Tryz.underlying35 hsz (by rw[hld,show Nat.min (ps.length-k) (ps.length-k)=ps.length-k from Nat.min_self _])
   (Aaa hrow2 k (ps.drop k) (Ae8 ps k)) (λj hj=>?_) (λj hj=>t1d.frozenAt _) (λu hu=>hone u (by
    rw[← List.take_append_drop k ps,Q9];exact List.mem_append_right _ hu))
  ·rw[h,show Nat.min (ps.length-k) (ps.length-k)=ps.length-k from Nat.min_self _]
  ·rw[t1d.cellAt _ (by rw[hld] at hj;omega),A0 (by rw[hxl2];rw[hld] at hj;omega)];rfl
theorem AhJ (ps:List Bv) (p:Bv) (k g c base vb:Nat) (w:World) (hk:k<ps.length) (hn:ps.length<=100) (hroom:c<ps.length+1) (hrow:w.ownsRow base 118 3 (.slice (some ⟨g,0,none⟩) ps.length c) ps.length (rowsB ps)) (hone:∀u∈rowsB ps,u.oneCell'=true) (hB:NewB w vb p) (hop:∀u∈rowB p,u.oneCell'=true) (hz:base<=w.heap.size) :
  Calls Tryz.prog 187 #[(.slice (some ⟨g,0,none⟩) ps.length c),.int .i64 k,.slice (some ⟨vb,0,none⟩) 1 1] w
   λe w'=>∃u,e=.returned u/\w'.ownsRow base 118 3 u (ps.length+1) (rowsB (ps.take k++p::ps.drop k))/\Below w.heap.size w w'/\∀g',u.ownBlock=some g'->w.heap.size<=g':=by
 obtain⟨G,W1,W2,w4,hap,hc1,hc2,hown,hb2,hb4,hG1,hG2,rfl⟩:=AgL ps p k g c base vb w hk hn hroom hrow hone hB hop hz;have hS2:Below w.heap.size w W2.drew:=hb2.drew;have hq1:¬((k:Int)=(ps.length:Int)):=by omega
 have hq2:¬(G=k+1):=by omega
 have hq3:¬(G=k):=by omega
 have hq4:¬(ps.length=k):=by omega
 have hq5:k<=ps.length:=by omega
 have hq6:(k:Int)<=(ps.length:Int):=by omega
 have hq7:(ps.length:Int)<(ps.length:Int)+1:=by omega
 have hw1:IntKind.i64.wrap ((k:Int)+1)=(k:Int)+1:=by rw[IntKind.wrap_i64];omega
 have hw3:0<=(k:Int)+1:=by omega
 have hw4:(k:Int)+1<=(ps.length:Int)+1:=by omega
 have hw5:(k:Int)<=(ps.length:Int)+1:=by omega
 have hn1:((k:Int)+1).toNat=k+1:=by omega
 have hb9:((ps.length+1:Nat):Int)=(ps.length:Int)+1:=by omega
 clear hrow hone hB hop hroom;go_enter Tryz.func187,Tryz.ntmps187
 go_wp2_with (first
  | (at_builtin;refine N6 _ rfl _ _ _ _ rfl _ _ _ _ rfl rfl (hap _) ?_)
  | (at_builtin;refine wpList_copy_runI _ rfl _ _ 35 35 rfl _ _ rfl rfl (hc1 _ _) ?_))
 refine F6 99 (λw'=>Below w.heap.size w w') (by kernel_rfl) ?_;refine F3 (i:=0) (v:=?_) rfl (by kernel_rfl) (by kernel_rfl) (by kernel_rfl) (by kernel_rfl) (λ_ _ _ h=>h) (by rfl) hS2 ?_ ?_;rotate_left;focus (intro w hSw;(try dsimp only at hSw);go_simp;try with_reducible rfl);(try simp only[Act.put,List.setIfInBounds_toArray,List.set_cons_zero,List.set_cons_succ])
 refine F3 (i:=1) (v:=?_) rfl (by kernel_rfl) (by kernel_rfl) (by kernel_rfl) (by kernel_rfl) (λ_ _ _ h=>h) (by rfl) hS2 ?_ ?_;rotate_left;focus (intro w hSw;(try dsimp only at hSw);go_simp;try with_reducible rfl);(try simp only[Act.put,List.setIfInBounds_toArray,List.set_cons_zero,List.set_cons_succ])
 refine F3 (i:=2) (v:=?_) rfl (by kernel_rfl) (by kernel_rfl) (by kernel_rfl) (by kernel_rfl) (λ_ _ _ h=>h) (by rfl) hS2 ?_ ?_;rotate_left;focus (intro w hSw;(try dsimp only at hSw);go_simp;try with_reducible rfl);(try simp only[Act.put,List.setIfInBounds_toArray,List.set_cons_zero,List.set_cons_succ])
 refine F3 (i:=3) (v:=?_) rfl (by kernel_rfl) (by kernel_rfl) (by kernel_rfl) (by kernel_rfl) (λ_ _ _ h=>h) (by rfl) hS2 ?_ ?_;rotate_left;focus (intro w hSw;(try dsimp only at hSw);go_simp;try with_reducible rfl);(try simp only[Act.put,List.setIfInBounds_toArray,List.set_cons_zero,List.set_cons_succ])
 refine F3 (i:=4) (v:=?_) rfl (by kernel_rfl) (by kernel_rfl) (by kernel_rfl) (by kernel_rfl) (λ_ _ _ h=>h) (by rfl) hS2 ?_ ?_;rotate_left;focus (intro w hSw;(try dsimp only at hSw);go_simp;try with_reducible rfl);(try simp only[Act.put,List.setIfInBounds_toArray,List.set_cons_zero,List.set_cons_succ])
 refine F3 (i:=5) (v:=?_) rfl (by kernel_rfl) (by kernel_rfl) (by kernel_rfl) (by kernel_rfl) (λ_ _ _ h=>h) (by rfl) hS2 ?_ ?_;rotate_left;focus (intro w hSw;(try dsimp only at hSw);go_simp;try with_reducible rfl);(try simp only[Act.put,List.setIfInBounds_toArray,List.set_cons_zero,List.set_cons_succ])
 refine F3 (i:=6) (v:=?_) rfl (by kernel_rfl) (by kernel_rfl) (by kernel_rfl) (by kernel_rfl) (λ_ _ _ h=>h) (by rfl) hS2 ?_ ?_;rotate_left;focus (intro w hSw;(try dsimp only at hSw);go_simp;try with_reducible rfl);(try simp only[Act.put,List.setIfInBounds_toArray,List.set_cons_zero,List.set_cons_succ])
 refine F3 (i:=7) (v:=?_) rfl (by kernel_rfl) (by kernel_rfl) (by kernel_rfl) (by kernel_rfl) (λ_ _ _ h=>h) (by rfl) hS2 ?_ ?_;rotate_left;focus (intro w hSw;(try dsimp only at hSw);go_simp;try with_reducible rfl);(try simp only[Act.put,List.setIfInBounds_toArray,List.set_cons_zero,List.set_cons_succ])
 refine D7 (i:=8) (by kernel_rfl) rfl (λK hK=>?_);refine step_copy_runI rfl _ _ 35 35 rfl (.slice (some ⟨w.heap.size,(k+1)*3,none⟩) (ps.length-k) (G-(k+1))) (.slice (some ⟨g,k*3,none⟩) (ps.length-k) (ps.length-k)) (by simp[Act.eval,Act.put]) (by simp[Act.eval,Act.put]) (hc2 _ _ _) ?_;refine hK.out _ _ (λ_=>hb4) ?_;clear hK K;(try simp only[Act.put,List.setIfInBounds_toArray]);refine F0 (by kernel_rfl) ?_ _;go_wp2_with fail
 go_ret
 exact⟨_,rfl,hown,hb4,λg' hg'=>by simp[Value.ownBlock] at hg';omega⟩
end Go.Proofs.YtgecdacgmehmbaaGreatDoor
namespace Go.Proofs.YtgecdacgmehmbaaGreatDoor
open Go.RowKit
theorem AhK (ps:List Bv) (p:Bv) (k:Nat) (v:Value) (base vb:Nat) (w:World) (hk:k<=ps.length) (hn:ps.length<=100) (hrow:w.ownsRow base 118 3 v ps.length (rowsB ps)) (hone:∀u∈rowsB ps,u.oneCell'=true) (hB:NewB w vb p) (hop:∀u∈rowB p,u.oneCell'=true) (hne:v.ownBlock≠some vb) (hz:base<=w.heap.size) :
  Calls Tryz.prog 187 #[v,.int .i64 k,.slice (some ⟨vb,0,none⟩) 1 1] w
   λe w'=>∃u,e=.returned u/\w'.ownsRow base 118 3 u (ps.length+1) (rowsB (ps.take k++p::ps.drop k))/\w.grownBy w' v.ownBlock/\Where w v u:=by
 by_cases h0:k=ps.length
 ·subst h0
  rw[List.take_length,List.drop_length];exact Ajy ps p v base vb w hn hrow hB hop hz
 ·obtain⟨g,c,rfl⟩:=F2 hrow (by omega)
  have hne':vb≠g:=λe=>hne (by rw[e];rfl);by_cases hr:ps.length+1<=c
  ·refine (AhG ps p k g c base vb w (by omega) hn hr hrow hone hB hop hne').mono ?_
   rintro e w' ⟨rfl,h1,h2⟩;exact⟨_,rfl,h1,h2,λg' hg'=>.inl hg'⟩
  ·refine (AhJ ps p k g c base vb w (by omega) hn (by omega) hrow hone hB hop hz).mono ?_
   rintro e w' ⟨u,rfl,h1,h2,h3⟩;exact⟨u,rfl,h1,K1 h2,λg' hg'=>.inr (h3 g' hg')⟩
noncomputable def entR (b:Bk) (nm:ByteArray) (ls:List ByteArray):Int:=if (nameB nm&&pB (PartOk ls b.things))=false then 2 else if memS (nms b.bs) nm=true then 3 else if 5<=b.bs.length then 4 else 0
theorem Adp (b:Bk) (nm:ByteArray) (ls:List ByteArray):askedC b (entR b nm ls)=enterC b nm ls/\askedB b (entR b nm ls) ⟨b.things,b.bs.take (inN b nm)++⟨nm,[],ls⟩::b.bs.drop (inN b nm)⟩=enterB b nm ls:=by
 cases hb:bookB b
 ·exact⟨by simp[askedC,enterC,hb],by simp[askedB,enterB,hb]⟩
 ·have e:enterC b nm ls=entR b nm ls:=by simp[enterC,entR,hb]
  exact⟨by rw[e];simp[askedC,hb],by unfold enterB;rw[e];simp[askedB,hb]⟩
theorem AgM (b:Bk) (v:Value) (nm:ByteArray) (lv:Value) (ls:List ByteArray) (w:World) (h:BkV w v b) (hok:BookOk b) (hl:Ls w lv ls) (hnz:nm.size<=maxLen) :
  Calls Tryz.prog 251 #[.agg #[.string nm,lv],v] w λe w'=>e=.returned (refV (entR b nm ls))/\Below w.heap.size w w':=by
 obtain⟨a1,c1,a2,c2,rfl,ht,-⟩:=h.parts;obtain⟨la,lc,rfl,-⟩:=id hl;have hn5:b.bs.length<=5:=hok.2.1;obtain⟨W1,hW1,kA,kB,hB1,hs1⟩:=L8 w [.string nm,.slice la ls.length lc] 173 [.slice a1 (b).things.length c1,.slice a2 (b).bs.length c2] 37;go_enter Tryz.func251,Tryz.ntmps251
 go_upto_region 1 with fail
 try rw[hW1]
 clear hW1;have hk1:=h.up hB1;have hl1:=hl.up hB1;have ht1:=ht.up hB1;obtain⟨e0,e1⟩:=kA.c2';obtain⟨d0,d1⟩:=kB.c2';go_wp2_with fail
 refine (M6 nm _ hnz).mono ?_;rintro e w2 ⟨rfl,hB2⟩;have hz2:=hB2.size;have kA2:=kA.up hB2 (by omega);have kB2:=kB.up hB2 (by omega);have hk2:=hk1.up hB2;have hl2:=hl1.up hB2;have ht2:=ht1.up hB2;have hB02:=D5 hB1 hB2;clear e0 e1 d0 d1 kA kB hk1 hl1 ht1 hB1 hB2 h hl ht;cases hnm:nameB nm
 ·have HV:Hid (refV (entR b nm ls)=.iface 130 (.agg #[.int .i64 2])):=by show _=_;simp[entR,hnm,refV]
  go_wp2_with fail
  go_ret
  exact⟨O0 HV.out,hB02⟩
 obtain⟨e0,e1⟩:=kA2.c2';obtain⟨d0,d1⟩:=kB2.c2';go_wp2_with fail
 refine (U8 ls b.things _ _ _ hl2 ht2).mono ?_;rintro e w3 ⟨rfl,hB3⟩;have hz3:=hB3.size;have kA3:=kA2.up hB3 (by omega);have kB3:=kB2.up hB3 (by omega);have hk3:=hk2.up hB3;have hB03:=D5 hB02 hB3;clear e0 e1 d0 d1 kA2 kB2 hk2 hl2 ht2 hB02 hB3;cases hpt:pB (PartOk ls b.things)
 ·have HV:Hid (refV (entR b nm ls)=.iface 130 (.agg #[.int .i64 2])):=by show _=_;simp[entR,hnm,hpt,refV]
  go_wp2_with fail
  go_ret
  exact⟨O0 HV.out,hB03⟩
 obtain⟨e0,e1⟩:=kA3.c2';obtain⟨d0,d1⟩:=kB3.c2';go_wp2_with fail
 refine (AaN b _ nm _ hk3 hok).mono ?_;rintro e w4 ⟨rfl,hB4⟩;have hz4:=hB4.size;have kB4:=kB3.up hB4 (by omega);have hB04:=D5 hB03 hB4;clear e0 e1 d0 d1 kA3 kB3 hk3 hB03 hB4;generalize lowN (nms b.bs) nm=q at *;cases hm:memS (nms b.bs) nm
 ·obtain⟨d0,d1⟩:=kB4.c2'
  by_cases h5:b.bs.length=5
  ·have HV:Hid (refV (entR b nm ls)=.iface 130 (.agg #[.int .i64 4])):=by show _=_;simp[entR,hnm,hpt,hm,h5,refV]
   rw[h5] at d1;go_wp2_with fail
   go_ret
   exact⟨O0 HV.out,hB04⟩
  ·have HV:Hid (refV (entR b nm ls)=.nilIface):=by show _=_;simp[entR,hnm,hpt,hm,refV];omega
   have h5':¬((b.bs.length:Int)=5):=by omega
   go_wp2_with fail
   go_ret
   exact⟨O0 HV.out,hB04⟩
 ·have HV:Hid (refV (entR b nm ls)=.iface 130 (.agg #[.int .i64 3])):=by show _=_;simp[entR,hnm,hpt,hm,refV]
  go_wp2_with fail
  go_ret
  exact⟨O0 HV.out,hB04⟩
theorem Afj {w:World} {base Y:Nat} {u:Value} {ss:List ByteArray} (h:OwnT w base u ss) (hne:∀g,u.ownBlock=some g->g≠Y) (x y z:Value):OwnT (((w.setCell ⟨Y,0,none⟩ x).setCell ⟨Y,1,none⟩ y).setCell ⟨Y,2,none⟩ z) base u ss :=
 E4 h (D9 (rb:=Y) (off:=2) (D9 (rb:=Y) (off:=1) (D9 (rb:=Y) (off:=0) (E1 w _) x) y) z) (λg hg e=>hne g hg (by simpa using e))
theorem Alh {W w0:World} {q Y:Nat} {x0 x1:Value} (h:Below W.heap.size W w0/\w0.cell? ⟨q,0,none⟩=some x0/\w0.cell? ⟨q,1,none⟩=some x1) (hY:W.heap.size<=Y) (hq:q<W.heap.size) (x y z:Value) :
  Below W.heap.size W (((w0.setCell ⟨Y,0,none⟩ x).setCell ⟨Y,1,none⟩ y).setCell ⟨Y,2,none⟩ z)/\(((w0.setCell ⟨Y,0,none⟩ x).setCell ⟨Y,1,none⟩ y).setCell ⟨Y,2,none⟩ z).cell? ⟨q,0,none⟩=some x0/\(((w0.setCell ⟨Y,0,none⟩ x).setCell ⟨Y,1,none⟩ y).setCell ⟨Y,2,none⟩ z).cell? ⟨q,1,none⟩=some x1:=by
 refine⟨((h.1.setCell (p:=⟨Y,0,none⟩) hY _).setCell (p:=⟨Y,1,none⟩) hY _).setCell (p:=⟨Y,2,none⟩) hY _,?_,?_⟩
 ·rw[B9 _ _ _ _ (by simp<;>omega),B9 _ _ _ _ (by simp<;>omega),B9 _ _ _ _ (by simp<;>omega)];exact h.2.1
 ·rw[B9 _ _ _ _ (by simp<;>omega),B9 _ _ _ _ (by simp<;>omega),B9 _ _ _ _ (by simp<;>omega)];exact h.2.2
theorem Anl (ps:List Bv) (k:Nat) (p:Bv) (t:Value×List ByteArray) (hk:k<=ps.length):((p.2.1,p.1.has)::(p.2.2,p.1.needs)::t::famB ps).Perm (t::famB (ps.take k++p::ps.drop k)):=by
 have hl:(ps.take k).length=k:=by rw[B6];omega
 have h1:=AcX (ps.take k++p::ps.drop k) k p (by rw[C8 (by omega),hl,Nat.sub_self];rfl)
 have h2:(ps.take k++p::ps.drop k).eraseIdx k=ps:=by
  rw[List.eraseIdx_append_of_length_le (by omega),hl,Nat.sub_self,List.eraseIdx_cons_zero,List.take_append_drop]
 rw[h2] at h1;exact ((h1.cons t).trans (Aje _ _ _ _)).symm
theorem low_in (b:Bk) (nm:ByteArray):lowN (nms b.bs) nm=inN b nm:=by
 unfold lowN inN nms;rw[List.takeWhile_map,B3];rfl
theorem in_le (b:Bk) (nm:ByteArray):inN b nm<=b.bs.length:=(List.takeWhile_sublist _).length_le
theorem Af3 (b:Bk) (v:Value) (nm:ByteArray) (lv:Value) (ls:List ByteArray) (w:World) (h:BkV w v b) (hl:Ls w lv ls) (hls:ls.length<=100) (hnz:nm.size<=maxLen) (hok:BookOk b) :
  Calls Tryz.prog 172 #[v,.iface 173 (.agg #[.string nm,lv])] w λe w'=>(∃u,e=.returned u/\BkF w' w.heap.size u ⟨b.things,b.bs.take (inN b nm)++⟨nm,[],ls⟩::b.bs.drop (inN b nm)⟩)/\Below w.heap.size w w':=by
 have f1:=Ain;have f2:=ta_EE;obtain⟨a1,c1,a2,c2,rfl,-,-⟩:=h.parts;obtain⟨la,lc,rfl,-⟩:=id hl;obtain⟨s1,s2,s3⟩:=M1 hok;obtain⟨W1,hW1,kA,kR,hB1,hs1⟩:=L8 w [.slice a1 (b).things.length c1,.slice a2 (b).bs.length c2] 37 [.slice none 0 0,.slice none 0 0] 37;go_enter Tryz.func172,Tryz.ntmps172
 go_upto_region 1 with fail
 try rw[hW1]
 clear hW1;have hk:=h.up hB1;obtain⟨e0,e1⟩:=kA.c2';go_wp2_with fail
 refine (Aa1 b _ _ hk (by omega) (by omega) (λy hy=>by have:=s3 y hy;omega)).mono ?_;rintro e w2 ⟨⟨a3,c3,a4,c4,ps,rfl,x2,x3,hF⟩,hb2⟩;have hz2:=hb2.size;have hlt2:∀g',(Value.slice a4 b.bs.length c4).ownBlock=some g'->g'<w2.heap.size:=λg' hg'=>(x2.1.lt g' hg').2;replace hF:=hF.avoid (A3 _);have Hnm:Hid (∀p∈ps,p.1.nm.size<=maxLen):=λp hp=>(x2.2 p hp).2.2;have kA2:=kA.up hb2 (by omega);have kR2:=kR.up hb2 (by omega);have hk2:=hk.up hb2;have hB2:=D5 hB1 hb2;clear e0 e1 kA kR hk hB1 hb2;go_upto_region 2 with fail
 obtain⟨W3,hW3,kX,hb3,hs3⟩:=K6 w2 [(.slice a3 b.things.length c3),.slice a4 b.bs.length c4] 37;try rw[hW3]
 clear hW3;have kA3:=kA2.up hb3 (by omega);have kR3:=kR2.up hb3 (by omega);have hk3:=hk2.up hb3;have hB3:=D5 hB2 hb3;have x23:=x2.up hb3;have hF3:=hF.up hb3;clear kA2 kR2 hk2 hB2 x2 hF hb3;obtain⟨e0,e1⟩:=kA3.c2';have hS0:Below W3.heap.size W3 W3/\W3.cell? ⟨w.heap.size,0,none⟩=some (.slice a1 b.things.length c1)/\W3.cell? ⟨w.heap.size,1,none⟩=some (.slice a2 b.bs.length c2):=⟨A4 _ _,e0,e1⟩;have hq3:w.heap.size<W3.heap.size:=by omega
 clear e0 e1;go_wp2_with fail
 go_region_held (λw'=>Below W3.heap.size W3 w'/\w'.cell? ⟨w.heap.size,0,none⟩=some (.slice a1 b.things.length c1)/\w'.cell? ⟨w.heap.size,1,none⟩=some (.slice a2 b.bs.length c2)) (first|exact Aip hS0|exact AcW hq3 (by assumption) (by assumption))
  (first
   | (go_at_call 250;refine (Abj nm _).mono ?_;rintro e' w9 ⟨rfl,hb9⟩)
   | (go_at_call 179;refine (AaN b _ nm _ ((hk3.up (A4 _ _).drew).up hb9) hok).mono ?_;rintro e' wA ⟨rfl,hbA⟩))
 rename_i hHeld;have hBA:=hHeld.1;clear hHeld hS0 hb9 hbA;have hzA:=hBA.size;have kXA:=kX.up hBA (by omega);have kRA:=kR3.up hBA (by omega);have hBB:=D5 hB3 hBA;have x2A:=x23.up hBA;have hFA:=hF3.up hBA;clear kX kR3 kA3 hB3 x23 hF3 hk3 hBA;rw[low_in b nm];have hin:=in_le b nm;have hps:ps.length=b.bs.length:=by rw[← x3,B3]
 go_upto_region 6 with fail
 obtain⟨W5,hW5,kZ5,hb5,hs5⟩:=K6 wA [.string nm,.slice la ls.length lc] 173;try rw[hW5]
 clear hW5;have Hs5:Hid (W5.heap.size=wA.heap.size+1):=hs5;have kX5:=kXA.up hb5 (by omega);have kR5:=kRA.up hb5 (by omega);have hB5:=D5 hBB hb5;have x25:=x2A.up hb5;have hF5:=hFA.up hb5;have hl5:=hl.up hB5;have hz5:wA.heap.size<W5.heap.size:=by omega
 clear kXA kRA hBB x2A hFA hb5 hl h hs5;obtain⟨z0,z1⟩:=kZ5.c2';have hS1:Below W5.heap.size W5 W5.drew/\World.cell? W5.drew ⟨wA.heap.size,0,none⟩=some (.string nm)/\World.cell? W5.drew ⟨wA.heap.size,1,none⟩=some (.slice la ls.length lc):=⟨(A4 _ _).drew,z0,z1⟩;clear z0 z1 kZ5;go_cut [9] (λv9 wc=>∃(Y:Nat) (un:Value),v9=.pointer (some ⟨Y,0,none⟩)/\CB wc Y [.string nm,.slice none 0 0,un]/\OwnT wc W5.heap.size un ls/\W5.heap.size<=Y/\(∀g,un.ownBlock=some g->g≠Y)/\Below W5.heap.size W5 wc)
 case first =>
  refine F6 99 (λw'=>Below W5.heap.size W5 w'/\World.cell? w' ⟨wA.heap.size,0,none⟩=some (.string nm)/\World.cell? w' ⟨wA.heap.size,1,none⟩=some (.slice la ls.length lc)) (by kernel_rfl) ?_;refine F3 (i:=0) (v:=?_) rfl (by kernel_rfl) (by kernel_rfl) (by kernel_rfl) (by kernel_rfl) (λ_ _ _ h=>h) (by rfl) hS1 ?_ ?_;rotate_left;focus (intro w hSw;(try dsimp only at hSw);go_simp;try with_reducible rfl);(try simp only[Act.put,List.setIfInBounds_toArray,List.set_cons_zero,List.set_cons_succ])
  refine F3 (i:=1) (v:=?_) rfl (by kernel_rfl) (by kernel_rfl) (by kernel_rfl) (by kernel_rfl) (λ_ _ _ h=>h) (by rfl) hS1 ?_ ?_;rotate_left;focus (intro w hSw;(try dsimp only at hSw);go_simp;try with_reducible rfl);(try simp only[Act.put,List.setIfInBounds_toArray,List.set_cons_zero,List.set_cons_succ])
  refine F3 (i:=2) (v:=?_) rfl (by kernel_rfl) (by kernel_rfl) (by kernel_rfl) (by kernel_rfl) (λ_ _ _ h=>h) (by rfl) hS1 ?_ ?_;rotate_left;focus (intro w hSw;(try dsimp only at hSw);go_simp;try with_reducible rfl);(try simp only[Act.put,List.setIfInBounds_toArray,List.set_cons_zero,List.set_cons_succ])
  refine F3 (i:=3) (v:=?_) rfl (by kernel_rfl) (by kernel_rfl) (by kernel_rfl) (by kernel_rfl) (λ_ _ _ h=>h) (by rfl) hS1 ?_ ?_;rotate_left;focus (intro w hSw;(try dsimp only at hSw);go_simp;try with_reducible rfl);(try simp only[Act.put,List.setIfInBounds_toArray,List.set_cons_zero,List.set_cons_succ])
  refine F3 (i:=4) (v:=?_) rfl (by kernel_rfl) (by kernel_rfl) (by kernel_rfl) (by kernel_rfl) (λ_ _ _ h=>h) (by rfl) hS1 ?_ ?_;rotate_left;focus (intro w hSw;(try dsimp only at hSw);go_simp;try with_reducible rfl);(try simp only[Act.put,List.setIfInBounds_toArray,List.set_cons_zero,List.set_cons_succ])
  refine J9 (i:=5) (j:=7) (by kernel_rfl) rfl rfl (λK hK=>?_) (λK hK=>?_)
  ·go_simp
   go_wp2_with (go_at_call 166;refine (Aad ls _ W5.drew hl5 (by omega)).mono ?_;rintro e w6 ⟨⟨un,rfl,hon⟩,hb6⟩)
   obtain⟨an,cn,rfl⟩:=hon.lst.shape;have hS6:Below W5.heap.size W5 w6/\World.cell? w6 ⟨wA.heap.size,0,none⟩=some (.string nm)/\World.cell? w6 ⟨wA.heap.size,1,none⟩=some (.slice la ls.length lc):=AcW hz5 hS1 hb6;refine hK.out _ _ (λ_=>hS6) ?_;clear hK K;(try simp only[Act.put,List.setIfInBounds_toArray,List.set_cons_zero,List.set_cons_succ]);refine F3 (i:=6) (v:=?_) rfl (by kernel_rfl) (by kernel_rfl) (by kernel_rfl) (by kernel_rfl) (λ_ _ _ h=>h) (by rfl) hS6 ?_ ?_;rotate_left;focus (intro w hSw;(try dsimp only at hSw);go_simp;try with_reducible rfl);(try simp only[Act.put,List.setIfInBounds_toArray,List.set_cons_zero,List.set_cons_succ])
   have kY:=E8 w6 [.string ⟨#[]⟩,.slice none 0 0,.slice none 0 0] 118;have hb7:Below w6.heap.size w6 (w6.alloc (.cells #[.string ⟨#[]⟩,.slice none 0 0,.slice none 0 0] 118)):=(A4 _ _).alloc (A3 _) _;have hS7:Below W5.heap.size W5 (w6.alloc (.cells #[.string ⟨#[]⟩,.slice none 0 0,.slice none 0 0] 118))/\World.cell? (w6.alloc (.cells #[.string ⟨#[]⟩,.slice none 0 0,.slice none 0 0] 118)) ⟨wA.heap.size,0,none⟩=some (.string nm)/\World.cell? (w6.alloc (.cells #[.string ⟨#[]⟩,.slice none 0 0,.slice none 0 0] 118)) ⟨wA.heap.size,1,none⟩=some (.slice la ls.length lc):=AcW hz5 hS6 hb7;have hon7:=hon.up hb7;have hb6z:W5.heap.size<=w6.heap.size:=hb6.size;have hlt6:∀g,(Value.slice an ls.length cn).ownBlock=some g->g<w6.heap.size:=λg hg=>(hon.lt g hg).2;refine D7 (i:=7) (by kernel_rfl) rfl (λK hK=>?_);go_simp
   refine hK.out _ _ (λ_=>hS7) ?_;clear hK K;(try simp only[Act.put,List.setIfInBounds_toArray,List.set_cons_zero,List.set_cons_succ]);have kY:CB (w6.alloc (.cells #[.string ⟨#[]⟩,.slice none 0 0,.slice none 0 0] 118)) w6.heap.size [.string ⟨#[]⟩,.slice none 0 0,.slice none 0 0]:=kY;clear hon hS1 hS6 hb6 hb7;generalize w6.alloc (.cells #[.string ⟨#[]⟩,.slice none 0 0,.slice none 0 0] 118)=W7 at *;have HF:Hid (CB (((W7.setCell ⟨w6.heap.size,0,none⟩ (.string nm)).setCell ⟨w6.heap.size,1,none⟩ (.slice none 0 0)).setCell ⟨w6.heap.size,2,none⟩ (.slice an ls.length cn)) w6.heap.size [.string nm,.slice none 0 0,.slice an ls.length cn]):=((kY.set (j:=0) (u:=.string nm) (by simp)).set (j:=1) (u:=.slice none 0 0) (by simp)).set (j:=2) (u:=.slice an ls.length cn) (by simp);have HO:Hid (OwnT (((W7.setCell ⟨w6.heap.size,0,none⟩ (.string nm)).setCell ⟨w6.heap.size,1,none⟩ (.slice none 0 0)).setCell ⟨w6.heap.size,2,none⟩ (.slice an ls.length cn)) W5.heap.size (.slice an ls.length cn) ls):=Afj hon7 (λg hg=>by have:=hlt6 g hg;omega) _ _ _;have hS8:=Alh hS7 hb6z hz5 (.string nm) (.slice none 0 0) (.slice an ls.length cn);obtain⟨⟨j0,j1,j2⟩,m0,m1,m2⟩:=kY.c3;refine D7 (i:=8) (by kernel_rfl) rfl (λK hK=>?_);go_simp
   refine hK.out _ _ (λ_=>hS8) ?_;clear hK K;refine F0 (by kernel_rfl) ?_ _;have hB8:=hS8.1;clear j0 j1 j2 m0 m1 m2 kY hS7 hS8 hon7;go_wp2_with fail
   go_meet
   case rel=>exact⟨w6.heap.size,_,rfl,HF.out,HO.out,hb6z,λg hg=>by have:=hlt6 g hg;omega,hB8⟩
  ·go_simp
   have hb6:Below W5.heap.size W5 (W5.alloc (.cells #[.string ⟨#[]⟩,.slice none 0 0,.slice none 0 0] 118)).drew:=((A4 W5.heap.size W5).alloc (A3 _) (.cells #[.string ⟨#[]⟩,.slice none 0 0,.slice none 0 0] 118)).drew;have kY:CB (W5.alloc (.cells #[.string ⟨#[]⟩,.slice none 0 0,.slice none 0 0] 118)).drew W5.heap.size [.string ⟨#[]⟩,.slice none 0 0,.slice none 0 0]:=E8 W5 [.string ⟨#[]⟩,.slice none 0 0,.slice none 0 0] 118;have hS6:Below W5.heap.size W5 (W5.alloc (.cells #[.string ⟨#[]⟩,.slice none 0 0,.slice none 0 0] 118)).drew/\World.cell? (W5.alloc (.cells #[.string ⟨#[]⟩,.slice none 0 0,.slice none 0 0] 118)).drew ⟨wA.heap.size,0,none⟩=some (.string nm)/\World.cell? (W5.alloc (.cells #[.string ⟨#[]⟩,.slice none 0 0,.slice none 0 0] 118)).drew ⟨wA.heap.size,1,none⟩=some (.slice la ls.length lc):=AcW hz5 ⟨A4 _ _,hS1.2⟩ hb6;have hl6:=hl5.up hb6;have hYl:W5.heap.size<(W5.alloc (.cells #[.string ⟨#[]⟩,.slice none 0 0,.slice none 0 0] 118)).drew.heap.size:=kY.2.2;refine hK.out _ _ (λ_=>hS6) ?_;clear hK K;(try simp only[Act.put,List.setIfInBounds_toArray,List.set_cons_zero,List.set_cons_succ]);clear hS1 hb6;generalize (W5.alloc (.cells #[.string ⟨#[]⟩,.slice none 0 0,.slice none 0 0] 118)).drew=W6 at *;refine D7 (i:=5) (by kernel_rfl) rfl (λK hK=>?_);go_simp
   go_wp2_with (go_at_call 166;refine (Aad ls _ W6 hl6 (by omega)).mono ?_;rintro e w7 ⟨⟨un,rfl,hon⟩,hb7⟩)
   obtain⟨an,cn,rfl⟩:=hon.lst.shape;have hS7:Below W5.heap.size W5 w7/\World.cell? w7 ⟨wA.heap.size,0,none⟩=some (.string nm)/\World.cell? w7 ⟨wA.heap.size,1,none⟩=some (.slice la ls.length lc):=AcW hz5 hS6 hb7;have kY7:=kY.up hb7 hYl;have hlt6:∀g,(Value.slice an ls.length cn).ownBlock=some g->W6.heap.size<=g:=λg hg=>(hon.lt g hg).1;refine hK.out _ _ (λ_=>hS7) ?_;clear hK K;(try simp only[Act.put,List.setIfInBounds_toArray,List.set_cons_zero,List.set_cons_succ]);refine F3 (i:=6) (v:=?_) rfl (by kernel_rfl) (by kernel_rfl) (by kernel_rfl) (by kernel_rfl) (λ_ _ _ h=>h) (by rfl) hS7 ?_ ?_;rotate_left;focus (intro w hSw;(try dsimp only at hSw);go_simp;try with_reducible rfl);(try simp only[Act.put,List.setIfInBounds_toArray,List.set_cons_zero,List.set_cons_succ])
   clear kY hS6 hl6 hb7;have HF:Hid (CB (((w7.setCell ⟨W5.heap.size,0,none⟩ (.string nm)).setCell ⟨W5.heap.size,1,none⟩ (.slice none 0 0)).setCell ⟨W5.heap.size,2,none⟩ (.slice an ls.length cn)) W5.heap.size [.string nm,.slice none 0 0,.slice an ls.length cn]):=((kY7.set (j:=0) (u:=.string nm) (by simp)).set (j:=1) (u:=.slice none 0 0) (by simp)).set (j:=2) (u:=.slice an ls.length cn) (by simp);have HO:Hid (OwnT (((w7.setCell ⟨W5.heap.size,0,none⟩ (.string nm)).setCell ⟨W5.heap.size,1,none⟩ (.slice none 0 0)).setCell ⟨W5.heap.size,2,none⟩ (.slice an ls.length cn)) W5.heap.size (.slice an ls.length cn) ls):=Afj (F9 hon (Nat.le_of_lt hYl)) (λg hg=>by have:=hlt6 g hg;omega) _ _ _;have hS8:=Alh hS7 (A3 _) hz5 (.string nm) (.slice none 0 0) (.slice an ls.length cn);obtain⟨⟨j0,j1,j2⟩,m0,m1,m2⟩:=kY7.c3;refine D7 (i:=8) (by kernel_rfl) rfl (λK hK=>?_);go_simp
   refine hK.out _ _ (λ_=>hS8) ?_;clear hK K;refine F0 (by kernel_rfl) ?_ _;have hB8:=hS8.1;clear j0 j1 j2 m0 m1 m2 kY7 hS7 hS8 hon;go_wp2_with fail
   go_meet
   case rel=>exact⟨W5.heap.size,_,rfl,HF.out,HO.out,A3 _,λg hg=>by have:=hlt6 g hg;omega,hB8⟩
 case rest =>
  obtain⟨Y,un,rfl,kYc,hon,hY,hnY,hBc⟩:=hcut;obtain⟨an,cn,hun⟩:=hon.lst.shape;subst hun;have hzc:=hBc.size;have hz5':=Hs5.out;have kXc:=kX5.up hBc (by omega);have kRc:=kR5.up hBc (by omega);have hBB:=D5 hB5 hBc;have hFc:=hF5.up hBc;have hFn:=(Fam.new hF5 hFc hon (A3 _) (by omega) (Abf (by omega))).nil_new;have hGc:=hFn.perm (Anl ps (inN b nm) ((⟨nm,[],ls⟩,.slice none 0 0,.slice an ls.length cn):Bv) ((.slice a3 b.things.length c3),b.things) (by omega));have x2c:=x25.up hBc;have hrowc:=x2c.1;have honec:=x2c.one ps (λ_ h=>h);clear hS1 hF5 hFc hFn x25 x2c kX5 kR5 hB5 hl5;obtain⟨⟨y0,y1⟩,-⟩:=kXc.c2;obtain⟨⟨b0,b1,b2⟩,-⟩:=kYc.c3;obtain⟨W9,hW9,hN9,hb9,hs9⟩:∃W9,wc.alloc (.cells #[.string nm,.slice none 0 0,.slice an ls.length cn] 118)=W9/\NewB W9 wc.heap.size ((⟨nm,[],ls⟩,.slice none 0 0,.slice an ls.length cn):Bv)/\Below wc.heap.size wc W9/\W9.heap.size=wc.heap.size+1:=⟨_,rfl,heap_alloc_new _ _,(A4 _ _).alloc (A3 _) _,by simp⟩;have hrow9:=E0 hrowc hb9;have hvne:(Value.slice a4 b.bs.length c4).ownBlock≠some wc.heap.size:=λe=>by have:=(hrowc.lt _ e).2;omega
  have hins:=AhK ps ((⟨nm,[],ls⟩,.slice none 0 0,.slice an ls.length cn):Bv) (inN b nm) _ W1.heap.size wc.heap.size W9 (by omega) (by omega) hrow9 honec hN9 (by simp[rowB,Value.oneCell']) hvne (by omega);have hXne:∀g,(Value.slice a4 b.bs.length c4).ownBlock=some g->g<w2.heap.size:=hlt2;have kX9:=kXc.up hb9 (by omega);have kR9:=kRc.up hb9 (by omega);have hB9:=D5 hBB hb9;have hG9:=hGc.up hb9;rw[hps] at hins hrow9;clear hrowc honec kXc kRc kYc hon hGc hN9 hBB hb9;go_wp2_with fail
  try rw[hW9]
  clear hW9;refine hins.mono ?_;rintro e w10 ⟨uB,rfl,hrow10,hg10,hwh⟩;obtain⟨ux,uc,hux⟩:=E9 hrow10;subst hux;have kX10:=kX9.kept hg10 (λe=>by have:=hXne _ e.symm;omega);have kR10:=kR9.kept hg10 (Z3 hrow9 (by omega));have hG10:=hG9.row hrow9 hg10;have hB10:Below w.heap.size w w10:=G4 hB9 hrow9 hg10 (by omega);have hlo:=(hrow10.lt);have hz10:=hg10.size;clear y0 y1 b0 b1 b2 hins hrow9 kX9 kR9 hG9 hB9
  have Hne:Hid (∀g,(Value.slice ux (b.bs.length+1) uc).ownBlock=some g->some g≠some w2.heap.size):=λg hg e=>by
   have e':=A5 e;rcases hwh g hg with k|k
   ·have:=hXne g k;omega
   ·omega
  obtain⟨W7,hW7,kX7,kR7,hF7,hB7,hrow7⟩:∃W7,w10.setCell ⟨w2.heap.size,1,none⟩ (.slice ux (b.bs.length+1) uc)=W7/\CB W7 w2.heap.size [(.slice a3 b.things.length c3),.slice ux (b.bs.length+1) uc]/\CB W7 (w.heap.size+1) [.slice none 0 0,.slice none 0 0]/\Fam W7 W1.heap.size (some w2.heap.size) (((.slice a3 b.things.length c3),b.things)::famB (ps.take (inN b nm)++((⟨nm,[],ls⟩,.slice none 0 0,.slice an ls.length cn):Bv)::ps.drop (inN b nm)))/\Below w.heap.size w W7/\W7.ownsRow W1.heap.size 118 3 (.slice ux (b.bs.length+1) uc) (b.bs.length+1) (rowsB (ps.take (inN b nm)++((⟨nm,[],ls⟩,.slice none 0 0,.slice an ls.length cn):Bv)::ps.drop (inN b nm))) :=
   ⟨_,rfl,kX10.set (j:=1) (by simp),kR10.other (by omega),hG10.set 1 _,hB10.setCell (p:=⟨w2.heap.size,1,none⟩) (by show _<=w2.heap.size;omega) _,E4 hrow10 (D9 (rb:=w2.heap.size) (off:=1) (E1 w10 _) _) Hne.out⟩
  obtain⟨⟨y0,y1⟩,g0,g1⟩:=kX10.c2;go_upto_region 20 with fail
  try rw[hW7]
  clear hW7 y0 y1 g0 g1 kX10 kR10 hG10 hB10 hrow10 hg10;obtain⟨⟨y0,y1⟩,-⟩:=kX7.c2;obtain⟨⟨r0,r1⟩,q0,q1⟩:=kR7.c2;have hW1z:w.heap.size+1<W1.heap.size:=by omega
  have hl2:(b.bs.take (inN b nm)++⟨nm,[],ls⟩::b.bs.drop (inN b nm)).length=b.bs.length+1:=by rw[A9,B6,List.length_cons,A8];omega
  have hl3:(ps.take (inN b nm)++((⟨nm,[],ls⟩,.slice none 0 0,.slice an ls.length cn):Bv)::ps.drop (inN b nm)).length=b.bs.length+1:=by rw[A9,B6,List.length_cons,A8];omega
  have hm3:(ps.take (inN b nm)++((⟨nm,[],ls⟩,.slice none 0 0,.slice an ls.length cn):Bv)::ps.drop (inN b nm)).map (·.1)=b.bs.take (inN b nm)++⟨nm,[],ls⟩::b.bs.drop (inN b nm):=by rw[← x3,List.map_append,List.map_take,List.map_cons,List.map_drop]
  go_wp2_with fail
  refine Aby Tryz.results172 Tryz.underlying37 rfl I9 kR7 rfl ?_;have hrow8:=E6 (E6 hrow7 (D9 (rb:=w.heap.size+1) (off:=0) (E1 _ _) (.slice a3 b.things.length c3)) hW1z) (D9 (rb:=w.heap.size+1) (off:=1) (E1 _ _) (.slice ux (b.bs.length+1) uc)) hW1z;have hF8:=(hF7.free.setLow hW1z 0 (.slice a3 b.things.length c3)).setLow hW1z 1 (.slice ux (b.bs.length+1) uc)
  have hW8:=hF8.bsW (fs:=[((.slice a3 b.things.length c3),b.things)]) (v:=.slice ux (b.bs.length+1) uc) (by rw[hl3];exact hrow8) (λq hq=>by
   rcases D0.1 hq with h|h
   ·exact Hnm.out q (List.mem_of_mem_take h)
   ·rcases List.mem_cons.1 h with h|h
    ·subst h;exact hnz
    ·exact Hnm.out q (List.mem_of_mem_drop h))
  refine⟨⟨_,rfl,a3,c3,ux,uc,_,?_,?_,hm3,hF8.low (by omega)⟩,G3 hB7 (Nat.le_succ _) _ _⟩
  ·show Value.agg #[_,_]=Value.agg #[_,.slice _ (b.bs.take (inN b nm)++⟨nm,[],ls⟩::b.bs.drop (inN b nm)).length _]
   rw[hl2]
  ·show BsW _ _ (.slice _ (b.bs.take (inN b nm)++⟨nm,[],ls⟩::b.bs.drop (inN b nm)).length _) _
   rw[hl2];exact hW8.low (by omega)
theorem Amx {b:Bk} {nm:ByteArray} {ls:List ByteArray} (h:entR b nm ls=0):PartOk ls b.things/\¬5<=b.bs.length:=by
 unfold entR at h;split at h
 ·omega
 ·rename_i h1
  split at h
  ·omega
  ·split at h
   ·omega
   ·rename_i h2
    refine⟨F7.1 ?_,h2⟩;cases hp:pB (PartOk ls b.things)
    ·rw[hp,Bool.and_false] at h1;exact absurd rfl h1
    ·rfl
theorem Afk {b:Bk} {nm:ByteArray} {ls:List ByteArray} (hok:BookOk b) (h:entR b nm ls=0):ls.length<=8:=by
 have h1:=L5 (Amx h).1;have h2:=(M1 hok).1;omega
theorem AhL (b:Bk) (nm:ByteArray) (ls:List ByteArray):enterB b nm ls=nobody∨(BookOk b/\enterB b nm ls=b)∨(BookOk b/\ls.length<=8/\enterB b nm ls=⟨b.things,b.bs.take (inN b nm)++⟨nm,[],ls⟩::b.bs.drop (inN b nm)⟩):=by
 rw[← (Adp b nm ls).2];cases hb:bookB b
 ·exact .inl (by simp[askedB,hb])
 ·by_cases hc:entR b nm ls=0
  ·exact .inr (.inr ⟨O4 hb,Afk (O4 hb) hc,by simp[askedB,hb,hc]⟩)
  ·exact .inr (.inl ⟨O4 hb,by simp[askedB,hb,hc]⟩)
theorem Anm {bs:List Ba} {k:Nat} {x y:Ba} (h:y∈bs.take k++x::bs.drop k):y∈bs∨y=x:=by
 rcases D0.1 h with h|h
 ·exact .inl (List.mem_of_mem_take h)
 ·rcases List.mem_cons.1 h with h|h
  ·exact .inr h
  ·exact .inl (List.mem_of_mem_drop h)
theorem Ali {b:Bk} {nm:ByteArray} {ls:List ByteArray} (h:Szb b) (hn:∀s∈ls,s.size<=maxLen):Szb (enterB b nm ls):=by
 rcases AhL b nm ls with e|⟨-,e⟩|⟨-,-,e⟩<;>rw[e]
 ·exact AbG
 ·exact h
 ·refine⟨h.1,λx hx=>?_⟩
  rcases Anm hx with k|k
  ·exact h.2 x k
  ·subst k;exact⟨λs hs=>by simp at hs,hn⟩
theorem Aj5 (b:Bk) (v:Value) (nm:ByteArray) (lv:Value) (ls:List ByteArray) (w:World) (h:BkV w v b) (hl:Ls w lv ls) (hnz:nm.size<=maxLen) (hg:ErrT w) :
  Calls Tryz.prog 83 #[v,.string nm,lv] w λe w'=>(∃u,e=.returned (.tuple #[u,.int .i64 (enterC b nm ls)])/\BkF w' w.heap.size u (enterB b nm ls))/\Below w.heap.size w w':=by
 have hA:∀W,Below w.heap.size w W->Calls Tryz.prog 121 #[v,.iface 173 (.agg #[.string nm,lv])] W λe w'=>(∃u,e=.returned (.tuple #[u,.int .i64 (enterC b nm ls)])/\BkF w' W.heap.size u (enterB b nm ls))/\Below W.heap.size W w':=λW hW=>by
  refine Aen b v nm _ _ (enterC b nm ls) (enterB b nm ls) W (h.up hW) (hg.up hW) λX hX=>?_;obtain⟨e1,e2⟩:=Adp b nm ls;rw[← e1,← e2]
  exact Aiq b v nm _ _ 251 (entR b nm ls) _ X ((h.up hW).up hX) (λn w=>Ain n _ _ w) (λn w=>AmU n _ _ w) ru_E
   (λhok Y hY=>AgM b v nm lv ls Y (((h.up hW).up hX).up hY) hok (((hl.up hW).up hX).up hY) hnz)
   (λhok hc Y hY=>Af3 b v nm lv ls Y (((h.up hW).up hX).up hY) (((hl.up hW).up hX).up hY) (by have:=Afk hok hc;omega) hnz hok)
 obtain⟨a1,c1,a2,c2,rfl,-,-⟩:=h.parts;obtain⟨la,lc,rfl,-⟩:=id hl;have HA:Hid (∀W,Below w.heap.size w W->Calls Tryz.prog 121 #[.agg #[.slice a1 b.things.length c1,.slice a2 b.bs.length c2],.iface 173 (.agg #[.string nm,.slice la ls.length lc])] W λe w'=>(∃u,e=.returned (.tuple #[u,.int .i64 (enterC b nm ls)])/\BkF w' W.heap.size u (enterB b nm ls))/\Below W.heap.size W w'):=hA;clear hA h hg hl;obtain⟨W1,hW1,kA,kR,hB1,hs1⟩:=L8 w [.slice a1 (b).things.length c1,.slice a2 (b).bs.length c2] 37 [.slice none 0 0,.slice none 0 0] 37;go_enter Tryz.func83,Tryz.ntmps83
 go_upto_region 1 with fail
 try rw[hW1]
 clear hW1;obtain⟨e0,e1⟩:=kA.c2';go_wp2_with fail
 refine (HA.out _ hB1).mono ?_;rintro e w2 ⟨⟨u,rfl,hu⟩,hb2⟩;have kR2:=kR.up hb2 (by omega);have hB2:=D5 hB1 hb2;obtain⟨i1,j1,i2,j2,rfl⟩:=hu.shape;clear e0 e1 kA kR hB1 hb2 HA;obtain⟨⟨y0,y1⟩,q0,q1⟩:=kR2.c2;go_wp2_with fail
 refine J1 Tryz.results83 Tryz.underlying37 rfl I9 kR2 rfl rfl ?_;exact⟨⟨_,rfl,((hu.set (by omega)).set (by omega)).low (by omega)⟩,G3 hB2 (Nat.le_succ _) _ _⟩
theorem AcN {P:Program} (w:World) {ops:Array Oper} {rest:List Oper} {o:Oper} {a:Act} {Q:Exit->Act->World->Prop} (hgd:o.guard=none) (s x:Operand) (t:TypeId)
  (hop:o.op=Op.call {callee:=Callee.builtin Builtin.append,args:=#[s,x],argTypes:=#[t,t]}) (v vx:Value) (hs:a.eval s=v) (hx:a.eval x=vx) (v':Value) (w':World) (hr:(Builtin.append_ #[t,t] o.type #[v,vx]).run P w=.ok v' w')
  (h:wpList P ops Q rest (a.put o.dst v') w'):wpList P ops Q (o::rest) a w:=by
 refine wpList_plain hgd λK hK=>?_;unfold Oper.wp execOp;simp only[hop,resolve,invoke,builtin,Sem.run_bind,Sem.run_pure,Result.andThen_ok,List.map_toArray,List.map_cons,List.map_nil,hs,hx,hr];exact hK _ _ h
structure G2 (w w':World) (p q:Option Nat):Prop where
 os:w'.os=w.os
 tape:w'.tape=w.tape
 output:w'.output=w.output
 size:w.heap.size<=w'.heap.size
 block:∀k,k<w.heap.size->some k≠p->some k≠q->w'.heap[k]?=w.heap[k]?
end Go.Proofs.YtgecdacgmehmbaaGreatDoor
