/- The laws' copies of houses: they may be marked. -/
import Derived.Test.YtgecdacgmehmbaaGreatDoorJ44
import Derived.Test.YtgecdacgmehmbaaGreatDoorJ25
import Derived.Test.YtgecdacgmehmbaaGreatDoorJ41
import Derived.Test.YtgecdacgmehmbaaGreatDoorJ36
import Derived.Test.YtgecdacgmehmbaaGreatDoorXr
import Derived.Test.YtgecdacgmehmbaaGreatDoorJ49
import Derived.Test.YtgecdacgmehmbaaGreatDoorJ38
import Derived.Test.YtgecdacgmehmbaaGreatDoorJ39
import Derived.Test.YtgecdacgmehmbaaGreatDoorQg
import Derived.Test.YtgecdacgmehmbaaGreatDoorQe
import Derived.Test.YtgecdacgmehmbaaGreatDoorEa3
import Derived.Test.YtgecdacgmehmbaaGreatDoorJ22
import Derived.Test.YtgecdacgmehmbaaGreatDoorC10
set_option maxRecDepth 20000
set_option maxHeartbeats 16000000
namespace Go.Proofs.YtgecdacgmehmbaaGreatDoor
open Go.RowKit
theorem Alv:(Tryz.prog.info? 41).map (·.size)=some 6:=by kernel_rfl
theorem RsO.set {w:World} {b r j:Nat} {u:Value} {bs:List Rb} (h:RsO w b bs) (hr:r<b):RsO (w.setCell ⟨r,j,none⟩ u) b bs:=λi x hx=>by
 obtain⟨b1,b2,h1,h2⟩:=h i x hx;refine⟨b1,b2,λk v hv=>?_,h2.set (by omega)⟩;rw[B9 _ _ _ _ (by simp<;>omega)];exact h1 k v hv
def DnO (w:World) (b:Nat) (l:List Done):Prop:=Dns w (.slice (some ⟨b,0,none⟩) l.length l.length) l
theorem DnO.set {w:World} {b r j:Nat} {u:Value} {l:List Done} (h:DnO w b l) (hr:r≠b):DnO (w.setCell ⟨r,j,none⟩ u) b l:=by
 obtain⟨a,c,e,hm,hpos⟩:=h;simp only[Value.slice.injEq] at e;obtain⟨rfl,-,rfl⟩:=e;refine⟨_,_,rfl,hm,λhp=>?_⟩;obtain⟨g,o,e,hat,hlt⟩:=hpos hp;simp only[Option.some.injEq,Addr.mk.injEq] at e;obtain⟨rfl,rfl,-⟩:=e;refine⟨_,_,rfl,λi d hd=>⟨λk v hv=>?_,(hat i d hd).2⟩,by simpa using hlt⟩;rw[B9 _ _ _ _ (by simp<;>omega)];exact (hat i d hd).1 k v hv
theorem BkR.lo {w:World} {lo lo' hi:Nat} {v:Value} {b:Bk} (h:BkR w lo hi v b) (hl:lo'<=lo):BkR w lo' hi v b:=by
 obtain⟨bt,b0,mid,rfl,h1,h2,h3,h4,h5,h6,h7⟩:=h;exact⟨bt,b0,mid,rfl,h1,by omega,h3,h4,by omega,h6,h7⟩
theorem BkR.set {w:World} {lo hi r j:Nat} {v u:Value} {b:Bk} (h:BkR w lo hi v b) (hr:r<lo):BkR (w.setCell ⟨r,j,none⟩ u) lo hi v b:=by
 obtain⟨bt,b0,mid,rfl,h1,h2,h3,h4,h5,h6,h7⟩:=h;exact⟨bt,b0,mid,rfl,S5 _ _ (by omega) h1,h2,h3,h4,h5,by simpa using h6,h7.other (D9 (E1 _ _) _) S5 (by have:=h7.2.1;omega)⟩
theorem RsR.set {w:World} {lo hi r j b0:Nat} {u:Value} {bs:List Rb} (h:RsR w lo hi b0 bs) (hr:r<lo):RsR (w.setCell ⟨r,j,none⟩ u) lo hi b0 bs:=h.other (D9 (E1 _ _) _) S5 (by have:=h.2.1;omega)
theorem HR.set {w:World} {l0 l1 l2 l3 b gd r j:Nat} {h:House} {tv bv u:Value} (H:HR w l0 l1 l2 l3 h tv bv b gd) (hr:r<l0):HR (w.setCell ⟨r,j,none⟩ u) l0 l1 l2 l3 h tv bv b gd :=
 ⟨H.k.set hr,H.x.set (by have:=H.z0;omega),S5 _ _ (by have:=H.g1;have:=H.z3;omega) H.d,H.g0,H.g1,H.z0,H.z1,by simpa using H.z3⟩
theorem HR.fin {w:World} {l0 l0' l1 l2 l3 b gd:Nat} {h:House} {tv bv:Value} (H:HR w l0 l1 l2 l3 h tv bv b gd) (hl:l0'<=l0) (he:w.heap.size=l3):HR w l0' l1 l2 w.heap.size h tv bv b gd :=
 ⟨H.k.lo hl,H.x,H.d,H.g0,by have:=H.g1;omega,by have:=H.z0;omega,H.z1,A3 _⟩
theorem RsO.rsR {w:World} {b lo:Nat} {bs:List Rb} (h:RsO w b bs) (ht:w.there b 0 (bs.length*6)) (hl:lo<=b) (hb:b<w.heap.size):RsR w lo w.heap.size b bs:=by
 refine⟨ht,hl,hb,A3 _,λi x hx=>?_⟩;obtain⟨b1,b2,hr,ho⟩:=h i x hx;have h1:=ho.l1;have h2:=ho.l2;exact⟨b1,b2,hr 1 _ rfl,hr 2 _ rfl,ho.r.2.1,ho.s.2.1,by omega,ho.r.2.2,by omega,ho.s.2.2⟩
theorem Aal (h:House) (tv bv xv dv:Value) (w:World) (H:HSrc w h tv bv xv dv) (hm:HSmall h) :
  Calls Tryz.prog 8 #[.agg #[.int .i64 h.now,.int .i64 h.last,tv,bv,xv,dv]] w λe w'=>(∃tu bu b gd l1 l2,e=.returned (.agg #[.int .i64 h.now,.int .i64 h.last,tu,bu,.slice (some ⟨b,0,none⟩) h.bs.length h.bs.length,.slice (some ⟨gd,0,none⟩) h.ds.length h.ds.length])/\HC w' h tu bu b (.slice (some ⟨gd,0,none⟩) h.ds.length h.ds.length)/\HR w' w.heap.size l1 l2 w'.heap.size h tu bu b gd)/\Below w.heap.size w w':=by
 obtain⟨a1,c1,a2,c2,a3,c3,a4,c4,rfl,rfl,rfl,rfl⟩:=H.shapes;go_enter Tryz.func8,Tryz.ntmps8
 go_upto_region 2 with fail
 obtain⟨W1,hW1,kP,kR,kO,hB1,hs1⟩:=Adv w [.int .i64 h.now,.int .i64 h.last,.slice a1 h.sh.things.length c1,.slice a2 h.sh.bs.length c2,.slice a3 h.bs.length c3,.slice a4 h.ds.length c4] 29 [.int .i64 0,.int .i64 0,.slice none 0 0,.slice none 0 0,.slice none 0 0,.slice none 0 0] 41 [.int .i64 0,.int .i64 0,.slice none 0 0,.slice none 0 0,.slice none 0 0,.slice none 0 0] 41;rw[hW1];clear hW1;obtain⟨W2,hW2,kP2,kR2,kO2,hB2,hs2⟩:∃W2,(W1.setCell ⟨w.heap.size+2,0,none⟩ (.int .i64 h.now)).setCell ⟨w.heap.size+2,1,none⟩ (.int .i64 h.last)=W2/\CB W2 w.heap.size [.int .i64 h.now,.int .i64 h.last,.slice a1 h.sh.things.length c1,.slice a2 h.sh.bs.length c2,.slice a3 h.bs.length c3,.slice a4 h.ds.length c4]/\CB W2 (w.heap.size+1) [.int .i64 0,.int .i64 0,.slice none 0 0,.slice none 0 0,.slice none 0 0,.slice none 0 0]/\CB W2 (w.heap.size+2) [.int .i64 h.now,.int .i64 h.last,.slice none 0 0,.slice none 0 0,.slice none 0 0,.slice none 0 0]/\Below w.heap.size w W2/\W2.heap.size=w.heap.size+3:=⟨_,rfl,(kP.other (by omega)).other (by omega),(kR.other (by omega)).other (by omega),(kO.set (j:=0) (by simp)).set (j:=1) (by simp),I7 (I7 hB1 (by omega) _) (by omega) _,by simpa using hs1⟩;obtain⟨p0,p1,p2,p3,p4,p5⟩:=kP.c6;obtain⟨o0,o1,o2,o3,o4,o5⟩:=kO.c6;obtain⟨f0,f1,f2,f3,f4,f5⟩:=kO.f6;go_upto_region 4 with fail
 try rw[hW2]
 clear hW2 p0 p1 p2 p3 p4 p5 o0 o1 o2 o3 o4 o5 f0 f1 f2 f3 f4 f5 kP kR kO hB1 hs1;obtain⟨p0,p1,p2,p3,p4,p5⟩:=kP2.c6;go_wp2_with fail
 refine (AiZ h.sh _ _ (H.up hB2).book hm.k).mono ?_;rintro e w3 ⟨⟨u,rfl,hob⟩,hb3⟩;have hr3:=hob.bkR;rw[hs2] at hr3;obtain⟨tu,bu,mid,rfl,ho1,ho2,hmid,-⟩:=hob;rw[hs2] at ho1 hmid;obtain⟨b1,e1⟩:=ho1.shape;obtain⟨b2,e2⟩:=ho2.shape;subst e1 e2;replace ho2:=ho2.low hmid;have hz3:=hb3.size;have kP3:=kP2.up hb3 (by omega);have kR3:=kR2.up hb3 (by omega);have kO3:=kO2.up hb3 (by omega);have hB3:=D5 hB2 hb3;clear p0 p1 p2 p3 p4 p5 kP2 kR2 kO2 hB2 hb3 hmid;obtain⟨W4,hW4,kP4,kR4,kO4,ho4,hq4,hB4,hs4⟩:∃W4,(w3.setCell ⟨w.heap.size+2,2,none⟩ (.slice (some ⟨b1,0,none⟩) h.sh.things.length h.sh.things.length)).setCell ⟨w.heap.size+2,3,none⟩ (.slice (some ⟨b2,0,none⟩) h.sh.bs.length h.sh.bs.length)=W4/\CB W4 w.heap.size [.int .i64 h.now,.int .i64 h.last,.slice a1 h.sh.things.length c1,.slice a2 h.sh.bs.length c2,.slice a3 h.bs.length c3,.slice a4 h.ds.length c4]/\CB W4 (w.heap.size+1) [.int .i64 0,.int .i64 0,.slice none 0 0,.slice none 0 0,.slice none 0 0,.slice none 0 0]/\CB W4 (w.heap.size+2) [.int .i64 h.now,.int .i64 h.last,.slice (some ⟨b1,0,none⟩) h.sh.things.length h.sh.things.length,.slice (some ⟨b2,0,none⟩) h.sh.bs.length h.sh.bs.length,.slice none 0 0,.slice none 0 0]/\LsO W4 (w.heap.size+3) (.slice (some ⟨b1,0,none⟩) h.sh.things.length h.sh.things.length) h.sh.things/\BsO W4 (w.heap.size+3) (.slice (some ⟨b2,0,none⟩) h.sh.bs.length h.sh.bs.length) h.sh.bs/\Below w.heap.size w W4/\W4.heap.size=w3.heap.size:=⟨_,rfl,(kP3.other (by omega)).other (by omega),(kR3.other (by omega)).other (by omega),(kO3.set (j:=2) (by simp)).set (j:=3) (by simp),(ho1.set (by omega)).set (by omega),(ho2.set (by omega)).set (by omega),I7 (I7 hB3 (by omega) _) (by omega) _,by simp⟩;have HB4:Hid (BkR ((w3.setCell ⟨w.heap.size+2,2,none⟩ (.slice (some ⟨b1,0,none⟩) h.sh.things.length h.sh.things.length)).setCell ⟨w.heap.size+2,3,none⟩ (.slice (some ⟨b2,0,none⟩) h.sh.bs.length h.sh.bs.length)) (w.heap.size+3) w3.heap.size (.agg #[.slice (some ⟨b1,0,none⟩) h.sh.things.length h.sh.things.length,.slice (some ⟨b2,0,none⟩) h.sh.bs.length h.sh.bs.length]) h.sh):=(hr3.set (by omega)).set (by omega);rw[hW4] at HB4;clear hr3;obtain⟨o0,o1,o2,o3,o4,o5⟩:=kO3.c6;obtain⟨f0,f1,f2,f3,f4,f5⟩:=kO3.f6;go_upto_region 5 with fail
 try rw[hW4]
 clear hW4 o0 o1 o2 o3 o4 o5 f0 f1 f2 f3 f4 f5 kP3 kR3 kO3 hB3 ho1 ho2;obtain⟨p0,p1,p2,p3,p4,p5⟩:=kP4.c6;go_wp2_with fail
 refine (Alk h.bs _ _ (H.up hB4).x hm.n hm.x).mono ?_;rintro e w5 ⟨⟨b,rfl,hx5,hl5,hlt5,hth5⟩,hb5⟩;have hr5:=hx5.rsR hth5 hl5 hlt5;rw[hs4] at hr5;have HB5:Hid (BkR w5 (w.heap.size+3) w3.heap.size (.agg #[.slice (some ⟨b1,0,none⟩) h.sh.things.length h.sh.things.length,.slice (some ⟨b2,0,none⟩) h.sh.bs.length h.sh.bs.length]) h.sh):=HB4.out.up hb5;clear HB4 hth5;have hz5:=hb5.size;have kP5:=kP4.up hb5 (by omega);have kR5:=kR4.up hb5 (by omega);have kO5:=kO4.up hb5 (by omega);have ho5:=ho4.up hb5;have hq5:=hq4.up hb5;have hB5:=D5 hB4 hb5;clear p0 p1 p2 p3 p4 p5 kP4 kR4 kO4 hB4 hb5 ho4 hq4;obtain⟨W6,hW6,kP6,kR6,kO6,ho6,hq6,hx6,hB6,hs6⟩:∃W6,w5.setCell ⟨w.heap.size+2,4,none⟩ (.slice (some ⟨b,0,none⟩) h.bs.length h.bs.length)=W6/\CB W6 w.heap.size [.int .i64 h.now,.int .i64 h.last,.slice a1 h.sh.things.length c1,.slice a2 h.sh.bs.length c2,.slice a3 h.bs.length c3,.slice a4 h.ds.length c4]/\CB W6 (w.heap.size+1) [.int .i64 0,.int .i64 0,.slice none 0 0,.slice none 0 0,.slice none 0 0,.slice none 0 0]/\CB W6 (w.heap.size+2) [.int .i64 h.now,.int .i64 h.last,.slice (some ⟨b1,0,none⟩) h.sh.things.length h.sh.things.length,.slice (some ⟨b2,0,none⟩) h.sh.bs.length h.sh.bs.length,.slice (some ⟨b,0,none⟩) h.bs.length h.bs.length,.slice none 0 0]/\LsO W6 (w.heap.size+3) (.slice (some ⟨b1,0,none⟩) h.sh.things.length h.sh.things.length) h.sh.things/\BsO W6 (w.heap.size+3) (.slice (some ⟨b2,0,none⟩) h.sh.bs.length h.sh.bs.length) h.sh.bs/\RsO W6 b h.bs/\Below w.heap.size w W6/\W6.heap.size=w5.heap.size:=⟨_,rfl,kP5.other (by omega),kR5.other (by omega),kO5.set (j:=4) (by simp),ho5.set (by omega),hq5.set (by omega),hx5.set (by omega),I7 hB5 (by omega) _,by simp⟩;have HB6:Hid (BkR (w5.setCell ⟨w.heap.size+2,4,none⟩ (.slice (some ⟨b,0,none⟩) h.bs.length h.bs.length)) (w.heap.size+3) w3.heap.size (.agg #[.slice (some ⟨b1,0,none⟩) h.sh.things.length h.sh.things.length,.slice (some ⟨b2,0,none⟩) h.sh.bs.length h.sh.bs.length]) h.sh/\RsR (w5.setCell ⟨w.heap.size+2,4,none⟩ (.slice (some ⟨b,0,none⟩) h.bs.length h.bs.length)) w3.heap.size w5.heap.size b h.bs):=⟨HB5.out.set (by omega),hr5.set (by omega)⟩;rw[hW6] at HB6;clear HB5 hr5;obtain⟨o0,o1,o2,o3,o4,o5⟩:=kO5.c6;obtain⟨f0,f1,f2,f3,f4,f5⟩:=kO5.f6;go_upto_region 6 with fail
 try rw[hW6]
 clear hW6 o0 o1 o2 o3 o4 o5 f0 f1 f2 f3 f4 f5 kP5 kR5 kO5 hB5 ho5 hq5 hx5;obtain⟨p0,p1,p2,p3,p4,p5⟩:=kP6.c6;go_wp2_with fail
 refine (AhD h.ds _ _ (H.up hB6).d hm.d).mono ?_;rintro e w7 ⟨⟨g,rfl,hd7,hg7,hgl7,hth7⟩,hb7⟩;have HH7:Hid (HR w7 (w.heap.size+3) w3.heap.size w5.heap.size w7.heap.size h (.slice (some ⟨b1,0,none⟩) h.sh.things.length h.sh.things.length) (.slice (some ⟨b2,0,none⟩) h.sh.bs.length h.sh.bs.length) b g):=⟨HB6.out.1.up hb7,HB6.out.2.up hb7,hth7,by omega,hgl7,by omega,by omega,A3 _⟩;clear HB6 hth7;have hz7:=hb7.size;have kR7:=kR6.up hb7 (by omega);have kO7:=kO6.up hb7 (by omega);have ho7:=ho6.up hb7;have hq7:=hq6.up hb7;have hx7:=hx6.up hb7 (by omega);have hB7:=D5 hB6 hb7;have hD7:DnO w7 g h.ds:=hd7;clear p0 p1 p2 p3 p4 p5 kP6 kR6 kO6 hB6 hb7 ho6 hq6 hx6 hd7;obtain⟨o0,o1,o2,o3,o4,o5⟩:=kO7.c6;obtain⟨f0,f1,f2,f3,f4,f5⟩:=kO7.f6;obtain⟨r0,r1,r2,r3,r4,r5⟩:=kR7.c6;obtain⟨g0,g1,g2,g3,g4,g5⟩:=kR7.f6;have hR8:=kR7.other (q:=w.heap.size+2) (j:=5) (u:=.slice (some ⟨g,0,none⟩) h.ds.length h.ds.length) (by omega);go_wp2_with fail
 refine Aaq Tryz.results8 Tryz.underlying41 rfl Alv hR8 rfl ?_;refine⟨⟨_,_,b,g,w3.heap.size,w5.heap.size,rfl,?_,?_⟩,?_⟩
 ·exact⟨(((((((ho7.set (by omega)).set (by omega)).set (by omega)).set (by omega)).set (by omega)).set (by omega)).set (by omega)).ls,(((((((hq7.set (by omega)).set (by omega)).set (by omega)).set (by omega)).set (by omega)).set (by omega)).set (by omega)).bs,((((((hx7.set (by omega)).set (by omega)).set (by omega)).set (by omega)).set (by omega)).set (by omega)).set (by omega),by simp;omega,((((((hD7.set (by omega)).set (by omega)).set (by omega)).set (by omega)).set (by omega)).set (by omega)).set (by omega)⟩
 ·refine HR.fin (l0:=w.heap.size+3) (l3:=w7.heap.size) ?_ (by omega) (by simp)
  exact ((((((HH7.out.set (by omega)).set (by omega)).set (by omega)).set (by omega)).set (by omega)).set (by omega)).set (by omega)
 ·exact I7 (I7 (I7 (I7 (I7 (I7 (I7 hB7 (by omega) _) (by omega) _) (by omega) _) (by omega) _) (by omega) _) (by omega) _) (by omega) _
theorem HR.shp {w:World} {l0 l1 l2 l3 b gd:Nat} {h:House} {tv bv:Value} (H:HR w l0 l1 l2 l3 h tv bv b gd):∃y1 y2,tv=.slice (some ⟨y1,0,none⟩) h.sh.things.length h.sh.things.length/\bv=.slice (some ⟨y2,0,none⟩) h.sh.bs.length h.sh.bs.length:=by
 obtain⟨bt,bb,mid,e,-⟩:=H.k;simp at e;exact⟨bt,bb,e.1,e.2⟩
theorem HSmall.lists {h:House} (H:HSmall h):∀x∈h.bs,x.ps.length<=1048576/\x.sl.length<=1048576:=λx hx=>by
 obtain⟨i,hi⟩:=C5.1 hx;exact H.x i x (A2.1 hi).1 hi
theorem AjK (nm:ByteArray) (a:Option Addr) (c:Nat) (sv:Value) (st:Int) (w:World) :
  Calls Tryz.prog 82 #[.string nm,.slice a 0 c,sv,.int .i64 st] w λe w'=>e=.returned (.tuple #[.agg #[.string ⟨#[]⟩,.slice none 0 0,.slice none 0 0,.string ⟨#[]⟩,.int .i64 0,.int .i64 0],.bool false])/\Below w.heap.size w w':=by
 obtain⟨W1,hW1,kR,hB1,hs1⟩:=K6 w [.string ⟨#[]⟩,.slice none 0 0,.slice none 0 0,.string ⟨#[]⟩,.int .i64 0,.int .i64 0] 71;go_enter Tryz.func82,Tryz.ntmps82
 go_upto_region 1 with fail
 try rw[hW1]
 clear hW1;obtain⟨y0,y1,y2,y3,y4,y5⟩:=kR.c6;obtain⟨f0,f1,f2,f3,f4,f5⟩:=kR.f6;go_wp2_with fail
 refine M3 Tryz.results82 Tryz.underlying71 rfl Ada kR rfl rfl ?_;exact⟨rfl,J2 hB1 (A3 _) _ _ _ _ _ _⟩
theorem AjL (nm:ByteArray) (ps:List Ph) (sl:List Sl) (st:Int) (b o c g q d:Nat) (w:World) (hE:Ends w) (hR:RbV w ⟨nm,ps,sl,fstN ps,-1,st⟩ (.slice (some ⟨b,o,none⟩) ps.length c) (.slice (some ⟨g,q,none⟩) sl.length d)) (hp:0<ps.length) :
  Calls Tryz.prog 82 #[.string nm,.slice (some ⟨b,o,none⟩) ps.length c,.slice (some ⟨g,q,none⟩) sl.length d,.int .i64 st] w λe w'=>e=.returned (.tuple #[.agg #[.string nm,.slice (some ⟨b,o,none⟩) ps.length c,.slice (some ⟨g,q,none⟩) sl.length d,.string (fstN ps),.int .i64 (-1),.int .i64 st],.bool (pB (RbOk ⟨nm,ps,sl,fstN ps,-1,st⟩))])/\Below w.heap.size w w':=by
 have hnp:ps.length<=1048576:=hR.np;obtain⟨W1,hW1,kR,hB1,hs1⟩:=K6 w [.string ⟨#[]⟩,.slice none 0 0,.slice none 0 0,.string ⟨#[]⟩,.int .i64 0,.int .i64 0] 71;have hV1:=hR.up hB1;have hE1:=hE.up hB1
 have c0:World.cell? W1 ⟨b,o,none⟩=some (.string (fstN ps)):=by
  obtain⟨b',o',c',e,hr,-⟩:=hV1.r;simp only[Value.slice.injEq,Option.some.injEq,Addr.mk.injEq,and_true] at e;obtain⟨⟨rfl,rfl⟩,-,rfl⟩:=e;have:=(hr.cells 0 hp).1;rw[Nat.zero_mul,Nat.add_zero] at this;rw[S9 hp];exact this
 clear hR hE;go_enter Tryz.func82,Tryz.ntmps82
 go_upto_region 1 with fail
 try rw[hW1]
 clear hW1;have hne:((ps.length:Int)==0)=false:=by rw[beq_eq_false_iff_ne];omega
 go_upto_region 4 with fail
 obtain⟨W2,hW2,kB,hb2,hs2⟩:=K6 W1 [.string nm,.slice (some ⟨b,o,none⟩) ps.length c,.slice (some ⟨g,q,none⟩) sl.length d,.string (fstN ps),.int .i64 (-1),.int .i64 st] 71;try rw[hW2]
 clear hW2 c0;rw[hs1] at kB;have hV2:=(hV1.up hb2).up (A4 _ _).drew;have hE2:=(hE1.up hb2).up (A4 _ _).drew;have kB2:=kB.up (A4 _ _).drew kB.2.2;have kR2:=(kR.up hb2 (by omega)).up (A4 W2.heap.size W2).drew (by omega);have hB2:=(D5 hB1 hb2).drew;have hz2:W2.drew.heap.size=W2.heap.size:=rfl;clear hV1 hE1 kB kR hB1 hb2;have hX2:w.heap.size+1<W2.drew.heap.size:=by omega
 clear hs1 hs2 hz2;have hS1:World.cell? W2.drew ⟨w.heap.size+1,0,none⟩=some (.string nm)/\World.cell? W2.drew ⟨w.heap.size+1,1,none⟩=some (.slice (some ⟨b,o,none⟩) ps.length c)/\World.cell? W2.drew ⟨w.heap.size+1,2,none⟩=some (.slice (some ⟨g,q,none⟩) sl.length d)/\World.cell? W2.drew ⟨w.heap.size+1,3,none⟩=some (.string (fstN ps))/\World.cell? W2.drew ⟨w.heap.size+1,4,none⟩=some (.int .i64 (-1))/\World.cell? W2.drew ⟨w.heap.size+1,5,none⟩=some (.int .i64 st):=kB2.c6;refine F6 99 (λw'=>World.cell? w' ⟨w.heap.size+1,0,none⟩=some (.string nm)/\World.cell? w' ⟨w.heap.size+1,1,none⟩=some (.slice (some ⟨b,o,none⟩) ps.length c)/\World.cell? w' ⟨w.heap.size+1,2,none⟩=some (.slice (some ⟨g,q,none⟩) sl.length d)/\World.cell? w' ⟨w.heap.size+1,3,none⟩=some (.string (fstN ps))/\World.cell? w' ⟨w.heap.size+1,4,none⟩=some (.int .i64 (-1))/\World.cell? w' ⟨w.heap.size+1,5,none⟩=some (.int .i64 st)) (by kernel_rfl) ?_;generalize W2.drew=Y at *;refine tkx 0 rfl hS1 ?_;refine tkx 1 rfl hS1 ?_;refine D7 (i:=2) (by kernel_rfl) rfl (λK hK=>?_);go_simp
 go_wp2_with (go_at_call 120;refine (Aaf ⟨nm,ps,sl,fstN ps,-1,st⟩ _ _ _ hE2 hV2).mono ?_;rintro e w3 ⟨rfl,hb3⟩)
 have kB3:=kB2.up hb3 hX2;have kR3:=kR2.up hb3 (by omega);have hB3:=D5 hB2 hb3;have hS3:World.cell? w3 ⟨w.heap.size+1,0,none⟩=some (.string nm)/\World.cell? w3 ⟨w.heap.size+1,1,none⟩=some (.slice (some ⟨b,o,none⟩) ps.length c)/\World.cell? w3 ⟨w.heap.size+1,2,none⟩=some (.slice (some ⟨g,q,none⟩) sl.length d)/\World.cell? w3 ⟨w.heap.size+1,3,none⟩=some (.string (fstN ps))/\World.cell? w3 ⟨w.heap.size+1,4,none⟩=some (.int .i64 (-1))/\World.cell? w3 ⟨w.heap.size+1,5,none⟩=some (.int .i64 st):=kB3.c6;refine hK.out _ _ (λ_=>hS3) ?_;clear hK K;have hg9:=L0 w3 w.heap.size (.string nm) (.slice (some ⟨b,o,none⟩) ps.length c) (.slice (some ⟨g,q,none⟩) sl.length d) (.string (fstN ps)) (.int .i64 (-1)) (.int .i64 st);have kB9:=kB3.kept hg9 (by simp);have hS9:=kB9.c6;obtain⟨y0,y1,y2,y3,y4,y5⟩:=kR3.c6;obtain⟨f0,f1,f2,f3,f4,f5⟩:=kR3.f6;refine D7 (i:=3) (by kernel_rfl) rfl (λK hK=>?_);go_simp
 refine hK.out _ _ (λ_=>hS9) ?_;clear hK K;refine D7 (i:=4) (by kernel_rfl) rfl (λK hK=>?_);go_simp
 refine hK.out _ _ (λ_=>hS9) ?_;clear hK K;refine F0 (by kernel_rfl) ?_ _;go_wp2_with fail
 refine M3 Tryz.results82 Tryz.underlying71 rfl Ada kR3 rfl rfl ?_;exact⟨rfl,J2 hB3 (A3 _) _ _ _ _ _ _⟩
def HPX (w:World) (base:Nat) (h:House) (tv bv xv dv:Value):Prop:=HP w base h tv bv xv dv∨(h=noHouse/\tv=.slice none 0 0/\bv=.slice none 0 0/\xv=.slice none 0 0/\dv=.slice none 0 0)
def runE (call:ByteArray) (c:Int):Value:=if c=0 then .nilIface else .iface 154 (.agg #[.string call,.iface 130 (.agg #[.int .i64 c])])
theorem Alw {x:Rb} (h:RbOk x):0<x.ps.length/\0<x.sl.length:=by
 have h1:=((I4 x.ps).1 h.2.1).1;refine⟨by omega,?_⟩;have hn:slNames x.sl=slE x.ps (fstN x.ps):=h.2.2.1.names;have ha:=Am0 h.2.1 (k:=0) (by omega) (nm:=fstN x.ps) (by rw[S9 (by omega)];simp);have hm:=(Amz h.2.1 (by omega) ha).1 _ (Anp _);have hl:(slNames x.sl).length=x.sl.length:=by simp[slNames]
 rw[hn] at hl;rcases C3 x.sl.length with e|e
 ·rw[e] at hl
  rw[C4.1 hl] at hm;simp[keys] at hm
 ·exact e
theorem HPX.up {w w':World} {base:Nat} {h:House} {tv bv xv dv:Value} (H:HPX w base h tv bv xv dv) (hb:Below w.heap.size w w'):HPX w' base h tv bv xv dv:=H.imp (λx=>x.up hb) id
theorem HPX.gr {w w':World} {base r:Nat} {h:House} {tv bv xv dv:Value} (H:HPX w base h tv bv xv dv) (hg:w.grownBy w' (some r)) (hr:r<base):HPX w' base h tv bv xv dv:=H.imp (λx=>x.gr hg hr) id
theorem HPX.low {w:World} {base base':Nat} {h:House} {tv bv xv dv:Value} (H:HPX w base h tv bv xv dv) (hb:base'<=base):HPX w base' h tv bv xv dv:=H.imp (λx=>x.low hb) id
theorem HPX.v {w:World} {base:Nat} {h:House} {tv bv xv dv:Value} (H:HPX w base h tv bv xv dv):HV w h tv bv xv dv:=by
 rcases H with H|⟨rfl,rfl,rfl,rfl,rfl⟩
 ·exact H.v
 ·exact Ai0 w
def ShB (bs:List Rb):Prop:=∀x∈bs,x.ps.length<=100/\x.sl.length<=100
theorem ShB.set {bs:List Rb} (h:ShB bs) {k:Nat} {x y:Rb} (hx:bs[k]?=some x) (h1:y.ps=x.ps) (h2:y.sl=x.sl):ShB (bs.set k y):=λz hz=>by
 rcases List.mem_or_eq_of_mem_set hz with h3|rfl
 ·exact h z h3
 ·rw[h1,h2];exact h x (A6 hx)
theorem AjM {h:House} (H:ShB h.bs) (k:Nat):ShB (askH h k).bs:=by
 unfold askH;split
 ·exact H
 ·rename_i x hx
  split
  ·exact H
  ·split
   ·exact H.set hx rfl rfl
   ·exact H
theorem Adu {h:House} (H:ShB h.bs):∀k,ShB (asksH h k).bs
 | 0=>H
 | k+1=>AjM (Adu H k) k
theorem HouseOk.short {h:House} (H:HouseOk h):ShB h.bs:=λx hx=>by
 obtain⟨i,hi⟩:=C5.1 hx;have hk:=H.batch hi;have h1:=((I4 x.ps).1 hk.2.1).2.1;have h2:=SlotsOk.len hk.2.2.1;omega
theorem Am6 {b:Bk} (h:Tiny b):Lit b:=⟨by have:=h.1;omega,by have:=h.2.1;omega,λx hx=>by have:=h.2.2 x hx;omega⟩
theorem Am7:ShB noHouse.bs:=λx hx=>by simp[noHouse] at hx
theorem Ant (w:World) (base:Nat):HQ w base noHouse (.slice none 0 0) (.slice none 0 0) (.slice none 0 0) (.slice none 0 0) :=
 ⟨Agw w base,⟨[],⟨B7 _ _ _ _,λi p hp=>by simp at hp,λi p hp=>by simp at hp,λi j p q _ hp=>by simp at hp⟩,rfl⟩,B7 _ _ _ _⟩
theorem HPX.q {w:World} {base:Nat} {h:House} {tv bv xv dv:Value} (H:HPX w base h tv bv xv dv):HQ w base h tv bv xv dv:=by
 rcases H with H|⟨rfl,rfl,rfl,rfl,rfl⟩
 ·exact H.q
 ·exact Ant w base
theorem BkF.outw {w w':World} {lo hi base:Nat} {v:Value} {b:Bk} (h:BkF w base v b) (ho:Out lo hi w w') (hb:hi<=base):BkF w' base v b:=by
 obtain⟨a1,c1,a2,c2,ps,e,h1,h2,h3⟩:=h;exact⟨a1,c1,a2,c2,ps,e,⟨V0 h1.1 ho hb,λp hp=>⟨V0 (h1.2 p hp).1 ho hb,V0 (h1.2 p hp).2.1 ho hb,(h1.2 p hp).2.2⟩⟩,h2,h3.keep λf _ hf=>V0 hf ho hb⟩
theorem RcW.outw {w w':World} {lo hi base:Nat} {p:Rv} (h:RcW w base p) (ho:Out lo hi w w') (hb:hi<=base):RcW w' base p:={h with r:=V0 h.r ho hb,s:=V0 h.s ho hb}
theorem HP.outw {w w':World} {lo hi base:Nat} {h:House} {tv bv xv dv:Value} (H:HP w base h tv bv xv dv) (ho:Out lo hi w w') (hb:hi<=base):HP w' base h tv bv xv dv :=
 ⟨H.k.outw ho hb,H.z,H.x.imp λ_ x=>⟨⟨⟨V0 x.1.1.1 ho hb,λp hp=>(x.1.1.2 p hp).outw ho hb⟩,x.1.2⟩,x.2⟩,⟨V0 H.d.1 ho hb,H.d.2⟩⟩
theorem HPX.outw {w w':World} {lo hi base:Nat} {h:House} {tv bv xv dv:Value} (H:HPX w base h tv bv xv dv) (ho:Out lo hi w w') (hb:hi<=base):HPX w' base h tv bv xv dv:=H.imp (λx=>x.outw ho hb) id
theorem Am8 (h:House):1<=endH h:=by have:=Ale h.sh;unfold endH;omega
def StartP (h:House) (nm:ByteArray) (ps:List Ph) (sl:List Sl) (cd:Int) (h':House):Prop :=
 (¬HouseOk h/\cd=1/\h'=noHouse)∨(HouseOk h/\¬RbOk (newB h nm ps sl)/\cd=2/\h'=h)∨
 (HouseOk h/\RbOk (newB h nm ps sl)/\startC h nm ps sl≠0/\cd=startC h nm ps sl/\h'=h)∨
 (HouseOk h/\RbOk (newB h nm ps sl)/\startC h nm ps sl=0/\h.last=1000000/\cd=4/\h'=h)∨
 (HouseOk h/\RbOk (newB h nm ps sl)/\startC h nm ps sl=0/\¬h.last=1000000/\cd=0/\h'=asksH (startH h nm ps sl) (startH h nm ps sl).bs.length)
theorem Alx {ps:List Ph} (h:0<ps.length):hasB ps (fstN ps)=true:=(S8 _ _).2 ⟨0,ps[0],A0 h,by rw[S9 h];exact beq_self_eq_true _⟩
theorem AaD {h:House} (hk:HouseOk h) (nm:ByteArray) (ps:List Ph) (sl:List Sl):RbOk (newB h nm ps sl)↔CanBegin nm ps sl:=by
 constructor
 ·rintro⟨h1,h2,h3,-⟩
  exact⟨h2,h3,h1⟩
 ·rintro⟨h2,h3,h1⟩
  have h0:0<ps.length:=by have:=((I4 ps).1 h2).1;omega
  have hh:=Alx h0;have hw:=(wi_pos h2 _ (AdC hh)).1;have hl:=hk.1.2.2.1;exact⟨h1,h2,h3,by show 1<=h.last+1;omega,hh,by show (-1:Int)<=-1;omega,by show (-1:Int)<(phOf ps (fstN ps)).wi;omega⟩
theorem Afr {h h1 h2:House} {nm:ByteArray} {ps:List Ph} {sl:List Sl} {c1 c2:Int} (H1:StartIs h nm ps sl c1 h1) (H2:StartP h nm ps sl c2 h2):c1=c2/\h1=h2:=by
 by_cases hk:HouseOk h
 case neg =>
  rcases H1 with⟨-,rfl,rfl⟩|⟨k,-⟩|⟨k,-⟩|⟨k,-⟩|⟨k,-⟩
  ·rcases H2 with⟨-,rfl,rfl⟩|⟨k,-⟩|⟨k,-⟩|⟨k,-⟩|⟨k,-⟩
   ·exact⟨rfl,rfl⟩
   all_goals exact absurd k hk
  all_goals exact absurd k hk
 case pos =>
  have hl:=hk.1.2.2.2;rcases H1 with⟨n1,-⟩|⟨-,n1,rfl,rfl⟩|⟨-,b1,s1,rfl,rfl⟩|⟨-,b1,s1,l1,rfl,rfl⟩|⟨-,b1,s1,l1,rfl,a1⟩
  ·exact absurd hk n1
  ·rcases H2 with⟨n2,-⟩|⟨-,n2,rfl,rfl⟩|⟨-,b2,-⟩|⟨-,b2,-⟩|⟨-,b2,-⟩
   ·exact absurd hk n2
   ·exact⟨rfl,rfl⟩
   all_goals exact absurd ((AaD hk _ _ _).1 b2) n1
  ·rcases H2 with⟨n2,-⟩|⟨-,n2,-⟩|⟨-,-,-,rfl,rfl⟩|⟨-,-,s2,-⟩|⟨-,-,s2,-⟩
   ·exact absurd hk n2
   ·exact absurd ((AaD hk _ _ _).2 b1) n2
   ·exact⟨rfl,rfl⟩
   all_goals exact absurd s2 s1
  ·rcases H2 with⟨n2,-⟩|⟨-,n2,-⟩|⟨-,-,s2,-⟩|⟨-,-,-,-,rfl,rfl⟩|⟨-,-,-,l2,-⟩
   ·exact absurd hk n2
   ·exact absurd ((AaD hk _ _ _).2 b1) n2
   ·exact absurd s1 s2
   ·exact⟨rfl,rfl⟩
   ·exact absurd (by omega) l2
  ·rcases H2 with⟨n2,-⟩|⟨-,n2,-⟩|⟨-,-,s2,-⟩|⟨-,-,-,l2,-⟩|⟨-,-,-,-,rfl,rfl⟩
   ·exact absurd hk n2
   ·exact absurd ((AaD hk _ _ _).2 b1) n2
   ·exact absurd s1 s2
   ·omega
   ·exact⟨rfl,a1.is⟩
theorem Aly {h h':House} {nm:ByteArray} {ps:List Ph} {sl:List Sl} {c:Int} (H:StartP h nm ps sl c h') (hf:Few h'):LitH h':=by
 obtain⟨f1,-,-⟩:=hf
 have key:h'.bs.length<=100/\ShB h'.bs/\h'.ds.length<=100:=by
  by_cases hk:HouseOk h
  case neg =>
   rcases H with⟨-,-,rfl⟩|⟨k,-⟩|⟨k,-⟩|⟨k,-⟩|⟨k,-⟩
   ·exact⟨by simp[noHouse],Am7,by simp[noHouse]⟩
   all_goals exact absurd k hk
  case pos =>
   obtain⟨-,t2,t3⟩:=hk.tiny;have self:h.bs.length<=100/\ShB h.bs/\h.ds.length<=100:=⟨by omega,hk.short,by omega⟩;rcases H with⟨n1,-⟩|⟨-,-,-,rfl⟩|⟨-,-,-,-,rfl⟩|⟨-,-,-,-,-,rfl⟩|⟨-,b1,-,-,-,rfl⟩
   ·exact absurd hk n1
   ·exact self
   ·exact self
   ·exact self
   ·have hs:ShB (startH h nm ps sl).bs:=λx hx=>by
     rcases D0.1 hx with h1|h1
     ·exact hk.short x h1
     ·obtain rfl:=D1.1 h1
      have h3:=((I4 _).1 b1.2.1).2.1;have h4:=SlotsOk.len b1.2.2.1;omega
    obtain⟨-,-,a3,a4⟩:=Aak (startH h nm ps sl) (startH h nm ps sl).bs.length;refine⟨?_,Adu hs _,by rw[a3];show h.ds.length<=100;omega⟩;rw[a4];show (h.bs++[newB h nm ps sl]).length<=100
    rw[A9,List.length_singleton];omega
 exact⟨Am6 f1,key.1,key.2.1,key.2.2⟩
structure EP (W:World) (h:House) (x:Rb) (X:World) (k8 k9:Option Value) (k13:Option Nat):Prop where
 B:Below W.heap.size W X
 s8:∀v,k8=some v->Lst X v (rbThings x x.ad)
 s9:∀v,k9=some v->BkF X W.heap.size v (enterB h.sh x.nm (rbThings x x.ad))
 s13:∀y,k13=some y->X.ownsRow W.heap.size 37 2 (.slice (some ⟨y,0,none⟩) 1 1) 1 [.slice none 0 0,.slice none 0 0]
theorem EP.up {W X X':World} {h:House} {x:Rb} {k8 k9:Option Value} {k13:Option Nat} (H:EP W h x X k8 k9 k13) (hb:Below X.heap.size X X'):EP W h x X' k8 k9 k13 :=
 ⟨D5 H.B hb,λv e=>(H.s8 v e).up hb,λv e=>(H.s9 v e).up hb,λy e=>E0 (H.s13 y e) hb⟩
theorem ep_nil (W:World) (h:House) (x:Rb):EP W h x W none none none:=⟨A4 _ _,λ_ h=>(by cases h),λ_ h=>(by cases h),λ_ h=>(by cases h)⟩
theorem EP.own {W X X':World} {h:House} {x:Rb} {k8 k9:Option Value} {k13:Option Nat} {v:Value} (H:EP W h x X k8 k9 k13) (hb:Below X.heap.size X X') (hv:Lst X' v (rbThings x x.ad)):EP W h x X' (some v) k9 k13 :=
 {H.up hb with s8:=λu e=>by cases e;exact hv}
theorem EP.ask {W X X':World} {h:House} {x:Rb} {k8 k9:Option Value} {k13:Option Nat} {v:Value} (H:EP W h x X k8 k9 k13) (hb:Below X.heap.size X X') (hv:BkF X' X.heap.size v (enterB h.sh x.nm (rbThings x x.ad))):EP W h x X' k8 (some v) k13 :=
 {H.up hb with s9:=λu e=>by cases e;exact hv.low H.B.size}
theorem EP.new {W X:World} {h:House} {x:Rb} {k8 k9:Option Value} {k13:Option Nat} (H:EP W h x X k8 k9 k13):EP W h x (X.alloc (.cells #[.slice none 0 0,.slice none 0 0] 37)) k8 k9 (some X.heap.size) :=
 {H.up ((A4 _ _).alloc (A3 _) _) with s13:=λu e=>by cases e;exact B8 X _ 1 H.B.size (by unfold maxLen;omega) rfl}
theorem EP.fin {W X:World} {h:House} {x:Rb} {k8:Option Value} {tu bu:Value} {y:Nat} (H:EP W h x X k8 (some (.agg #[tu,bu])) (some y)) :
  Below W.heap.size W ((X.setCell ⟨y,0,none⟩ tu).setCell ⟨y,1,none⟩ bu)/\BkF ((X.setCell ⟨y,0,none⟩ tu).setCell ⟨y,1,none⟩ bu) W.heap.size (.agg #[tu,bu]) (enterB h.sh x.nm (rbThings x x.ad))/\CB ((X.setCell ⟨y,0,none⟩ tu).setCell ⟨y,1,none⟩ bu) y [tu,bu]:=by
 have h16:=H.s13 y rfl;have h1:=B2 h16 0 tu;have h2:=B2 h1.1 1 bu;have hg:X.grownBy ((X.setCell ⟨y,0,none⟩ tu).setCell ⟨y,1,none⟩ bu) (Value.slice (some ⟨y,0,none⟩) 1 1).ownBlock:=E3 h1.2 h2.2;exact⟨F5 H.B H.B.size h16 hg (A3 _),(H.s9 _ rfl).step h16 (by decide) (by decide) hg,D8 h2.1⟩
theorem HP.comes {w w':World} {base:Nat} {h:House} {tv bv xv dv tu bu xu ru su:Value} {b':Bk} {x:Rb} {ps:List Rv} (H:HP w base h tv bv xv dv) (hW:RbsP w base xv ps) (hm:ps.map (·.1)=h.bs) (hb:BkF w base (.agg #[tu,bu]) b') (hz:Szb b') (hx:RcW w base (x,ru,su)) (h1:∀v∈ps.map (·.2.1),Ap v ru) (h2:∀v∈ps.map (·.2.2),Ap v su) (hg:w.grownBy w' xv.ownBlock) (ho:w'.ownsRow base 71 6 xu (ps.length+1) (rowsF rowR ps++rowR (x,ru,su))) (l:Int) :
  HP w' base {h with last:=l,sh:=b',bs:=h.bs++[x]} tu bu xu dv :=
 ⟨hb.step hW.1.1 (by decide) (by decide) hg,hz,⟨_,⟨hW.1.app hx hg ho,by rw[List.map_append];exact Adb hW.2.1 h1,by rw[List.map_append];exact Adb hW.2.2 h2⟩,by rw[List.map_append,hm];rfl⟩,⟨E4 H.d.1 hg (E5 H.d.1 hW.1.1 (by decide)),H.d.2⟩⟩
theorem Ai3 {P:Program} {c:Code} {K:Act->World->Prop} {Q:Exit->Act->World->Prop} {a:Act} {w:World} (h:c.wp P (Exit.then K λ_ _ _=>False) a w):c.wp P (Exit.then K Q) a w :=
 Code.wp_mono (λe _ _ he=>by cases e<;>first|exact he|exact he.elim) h
def stE (c:Int):Value:=if c=0 then .nilIface else .iface 130 (.agg #[.int .i64 c])
theorem Alz {c:Int} (h:c≠0):stE c=.iface 130 (.agg #[.int .i64 c]):=by simp[stE,h]
theorem AgV (h:House) (nm:ByteArray) (ps:List Ph) (sl:List Sl) (rv sv:Value) (y:Nat) (w0 w:World) (hB0:Below w0.heap.size w0 w) (hE:Ends w0) (hT:ErrT w0) (H:PH w w0.heap.size y h) (hR:RbV w0 (newB h nm ps sl) rv sv) (hk:HouseOk h) :
  Calls Tryz.prog 40 #[.pointer (some ⟨y,0,none⟩),.string nm,rv,sv] w λe w'=>∃cd hN,e=.returned (stE cd)/\StartP h nm ps sl cd hN/\PH w' w0.heap.size y hN/\Below w0.heap.size w0 w':=by
 obtain⟨tv,bv,xv,dv,kA,HH⟩:=H;obtain⟨a1,c1,a2,c2,a3,c3,a4,c4,rfl,rfl,rfl,rfl⟩:=HH.v.shapes;obtain⟨hl0,hl9⟩:=hk.1.2.2;have hRv:=hR.up hB0;obtain⟨rb,ro,rc,erv,-⟩:=hR.r;obtain⟨sb,so,sc,esv,-⟩:=hR.s;have erv':rv=.slice (some ⟨rb,ro,none⟩) ps.length rc:=erv;have esv':sv=.slice (some ⟨sb,so,none⟩) sl.length sc:=esv;subst erv' esv';have hnz:nm.size<=maxLen:=hR.zn;clear erv esv;have HK:Hid (HouseOk h):=hk;obtain⟨-,e1,-,-,-,-⟩:=(D8 kA).c6;by_cases hp:ps.length=0
 ·have hno:¬RbOk (newB h nm ps sl):=λhr=>by
   have h1:=((I4 _).1 hr.2.1).1;have h2:(newB h nm ps sl).ps.length=ps.length:=rfl;omega
  have hP:StartP h nm ps sl 2 h:=.inr (.inl ⟨hk,hno,rfl,rfl⟩);rw[hp];clear hk hno hRv hR;go_enter_defers Tryz.func40,Tryz.ntmps40
  go_wp2_with (go_at_call 82;refine (AjK nm _ _ _ _ _).mono ?_;rintro e w3 ⟨rfl,hb3⟩)
  have hb4:=hb3.alloc hb3.size (.cells #[.string ⟨#[]⟩,.slice none 0 0,.slice none 0 0,.string ⟨#[]⟩,.int .i64 0,.int .i64 0] 71);exact⟨_,results_tmp rfl _ _ _,2,h,rfl,hP,⟨_,_,_,_,E0 kA hb4,HH.up hb4⟩,D5 hB0 hb4⟩
 have hp0:0<ps.length:=by omega
 have hEw:=hE.up hB0;have hc:=AjL nm ps sl (h.last+1) rb ro rc sb so sc w hEw hRv hp0;by_cases hok:RbOk (newB h nm ps sl)
 case neg =>
  have hP:StartP h nm ps sl 2 h:=.inr (.inl ⟨hk,hok,rfl,rfl⟩);rw[show (⟨nm,ps,sl,fstN ps,-1,h.last+1⟩:Rb)=newB h nm ps sl from rfl,F1 hok] at hc;clear hk hok hRv hR;go_enter_defers Tryz.func40,Tryz.ntmps40
  go_wp2_with (go_at_call 82;refine hc.mono ?_;rintro e w3 ⟨rfl,hb3⟩)
  have hb4:=hb3.alloc hb3.size (.cells #[.string nm,.slice (some ⟨rb,ro,none⟩) ps.length rc,.slice (some ⟨sb,so,none⟩) sl.length sc,.string (fstN ps),.int .i64 (-1),.int .i64 (h.last+1)] 71);exact⟨_,results_tmp rfl _ _ _,2,h,rfl,hP,⟨_,_,_,_,E0 kA hb4,HH.up hb4⟩,D5 hB0 hb4⟩
 rw[show (⟨nm,ps,sl,fstN ps,-1,h.last+1⟩:Rb)=newB h nm ps sl from rfl,G9 hok] at hc;have Hok:Hid (RbOk (newB h nm ps sl)):=hok;have hpx:=Alw hok;have hty:=hk.tiny
 have Hsi:Hid (∀x∈h.bs,-1<=x.si):=λx hx=>by
  obtain⟨i,hi⟩:=C5.1 hx;exact (hk.batch hi).2.2.2.2.2.1
 clear hk hok;go_enter_defers Tryz.func40,Tryz.ntmps40
 go_upto_region 2 with (go_at_call 82;refine hc.mono ?_;rintro e w3 ⟨rfl,hb3⟩)
 obtain⟨W4,hW4,kB,hb4,hs4⟩:∃W4,w3.alloc (.cells #[.string nm,.slice (some ⟨rb,ro,none⟩) ps.length rc,.slice (some ⟨sb,so,none⟩) sl.length sc,.string (fstN ps),.int .i64 (-1),.int .i64 (h.last+1)] 71)=W4/\W4.ownsRow w0.heap.size 71 6 (.slice (some ⟨w3.heap.size,0,none⟩) 1 1) 1 [.string nm,.slice (some ⟨rb,ro,none⟩) ps.length rc,.slice (some ⟨sb,so,none⟩) sl.length sc,.string (fstN ps),.int .i64 (-1),.int .i64 (h.last+1)]/\Below w3.heap.size w3 W4/\W4.heap.size=w3.heap.size+1:=⟨_,rfl,B8 w3 _ 1 (B1 hB0.size hb3.size) (by unfold maxLen;omega) rfl,(cb1 w3 [.string nm,.slice (some ⟨rb,ro,none⟩) ps.length rc,.slice (some ⟨sb,so,none⟩) sl.length sc,.string (fstN ps),.int .i64 (-1),.int .i64 (h.last+1)] _).2⟩;try rw[hW4]
 have HltB:Hid (∀g,(Value.slice a3 h.bs.length c3).ownBlock=some g->g<w3.heap.size):=λg e=>by
  obtain⟨qs,hq,-⟩:=HH.x;exact A1 (hq.1.1.lt g e).2 hb3.size
 have hb34:=D5 hb3 hb4;have kA4:=E0 kA hb34;have H4:=HH.up hb34;have hB4:=D5 hB0 hb34;have hv4:=hRv.up hb34;have hE4:=hE.up hB4;have hT4:=hT.up hB4;clear hW4 kA HH hB0 hRv hEw hb3 hb4 hb34 hc e1;generalize w3.heap.size=B at *;have hyl:y<W4.heap.size:=(kA4.lt y rfl).2;have hbl:B<W4.heap.size:=(kB.lt B rfl).2;have HB:Hid (BkV W4 (.agg #[.slice a1 h.sh.things.length c1,.slice a2 h.sh.bs.length c2]) h.sh):=H4.v.book;have HC8:Hid (∀X,Below W4.heap.size W4 X->Calls Tryz.prog 84 #[.agg #[.string nm,.slice (some ⟨rb,ro,none⟩) ps.length rc,.slice (some ⟨sb,so,none⟩) sl.length sc,.string (fstN ps),.int .i64 (-1),.int .i64 (h.last+1)],.string (fstN ps)] X λe w'=>(∃u,e=.returned u/\OwnT w' X.heap.size u (rbThings (newB h nm ps sl) (fstN ps)))/\Below X.heap.size X w'):=λX hX=>Adm (newB h nm ps sl) _ _ (fstN ps) X (hE4.up hX) (hv4.up hX);have HC9:Hid (∀X v,Below W4.heap.size W4 X->Lst X v (rbThings (newB h nm ps sl) (fstN ps))->Calls Tryz.prog 83 #[.agg #[.slice a1 h.sh.things.length c1,.slice a2 h.sh.bs.length c2],.string nm,v] X λe w'=>(∃u,e=.returned (.tuple #[u,.int .i64 (startC h nm ps sl)])/\BkF w' X.heap.size u (enterB h.sh nm (rbThings (newB h nm ps sl) (fstN ps))))/\Below X.heap.size X w'):=λX v hX hv=>Aj5 h.sh _ nm _ _ X (HB.out.up hX) (hv.ls (O1 hv4 _)) hnz (hT4.up hX);have HSZ:Hid (Szb (enterB h.sh nm (rbThings (newB h nm ps sl) (fstN ps)))):=Ali H4.z (O1 hv4 _)
 have mk:∀w',Below W4.heap.size W4 w'->World.cell? w' ⟨y,2,none⟩=some (.slice a1 h.sh.things.length c1)/\World.cell? w' ⟨y,3,none⟩=some (.slice a2 h.sh.bs.length c2)/\World.cell? w' ⟨B,0,none⟩=some (.string nm)/\World.cell? w' ⟨B,1,none⟩=some (.slice (some ⟨rb,ro,none⟩) ps.length rc)/\World.cell? w' ⟨B,2,none⟩=some (.slice (some ⟨sb,so,none⟩) sl.length sc)/\World.cell? w' ⟨B,3,none⟩=some (.string (fstN ps))/\World.cell? w' ⟨B,4,none⟩=some (.int .i64 (-1))/\World.cell? w' ⟨B,5,none⟩=some (.int .i64 (h.last+1)):=λw' hb'=>by
  obtain⟨-,-,z2,z3,-,-⟩:=(D8 (E0 kA4 hb')).c6;obtain⟨l0,l1,l2,l3,l4,l5⟩:=(D8 (E0 kB hb')).c6;exact⟨z2,z3,l0,l1,l2,l3,l4,l5⟩
 have Mk:Hid (∀w',Below W4.heap.size W4 w'->World.cell? w' ⟨y,2,none⟩=some (.slice a1 h.sh.things.length c1)/\World.cell? w' ⟨y,3,none⟩=some (.slice a2 h.sh.bs.length c2)/\World.cell? w' ⟨B,0,none⟩=some (.string nm)/\World.cell? w' ⟨B,1,none⟩=some (.slice (some ⟨rb,ro,none⟩) ps.length rc)/\World.cell? w' ⟨B,2,none⟩=some (.slice (some ⟨sb,so,none⟩) sl.length sc)/\World.cell? w' ⟨B,3,none⟩=some (.string (fstN ps))/\World.cell? w' ⟨B,4,none⟩=some (.int .i64 (-1))/\World.cell? w' ⟨B,5,none⟩=some (.int .i64 (h.last+1))):=mk;clear mk;go_upto_region 4 with fail
 go_cut [11,12] from 13 to 74 (λv11 v12 wc=>∃(Y:Nat) (tw bw:Value),v11=.pointer (some ⟨Y,0,none⟩)/\v12=.int .i64 (startC h nm ps sl)/\Below W4.heap.size W4 wc/\BkF wc W4.heap.size (.agg #[tw,bw]) (enterB h.sh nm (rbThings (newB h nm ps sl) (fstN ps)))/\CB wc Y [tw,bw])
 case first =>
  have hC:EP W4 h (newB h nm ps sl) W4.drew none none none:=(ep_nil W4 h _).up (A4 _ _).drew;refine Ai3 (F6 99 (λw'=>World.cell? w' ⟨y,2,none⟩=some (.slice a1 h.sh.things.length c1)/\World.cell? w' ⟨y,3,none⟩=some (.slice a2 h.sh.bs.length c2)/\World.cell? w' ⟨B,0,none⟩=some (.string nm)/\World.cell? w' ⟨B,1,none⟩=some (.slice (some ⟨rb,ro,none⟩) ps.length rc)/\World.cell? w' ⟨B,2,none⟩=some (.slice (some ⟨sb,so,none⟩) sl.length sc)/\World.cell? w' ⟨B,3,none⟩=some (.string (fstN ps))/\World.cell? w' ⟨B,4,none⟩=some (.int .i64 (-1))/\World.cell? w' ⟨B,5,none⟩=some (.int .i64 (h.last+1))) (by kernel_rfl) ?_);generalize W4.drew=X1 at hC ⊢
  have hS1:=Mk.out _ hC.B;refine tkx 0 rfl hS1 ?_;refine tkx 1 rfl hS1 ?_;refine tkx 2 rfl hS1 ?_;refine tkx 3 rfl hS1 ?_;refine tkx 4 rfl hS1 ?_;refine tkx 5 rfl hS1 ?_;refine tkx 6 rfl hS1 ?_;refine tkx 7 rfl hS1 ?_;clear hS1;refine J9 (i:=8) (j:=13) (by kernel_rfl) rfl rfl (λK hK=>?_) (λK hK=>?_)
  ·(go_simp;go_wp2_with (go_at_call 84;refine (HC8.out _ hC.B).mono ?_;rintro e X2 ⟨⟨u1,rfl,hu⟩,hb2⟩;replace hC:=hC.own hb2 hu.lst;obtain⟨a9,c9,rfl⟩:=hu.lst.shape;clear hb2 hu);refine hK.out _ _ (λ_=>(Mk.out _ hC.B)) ?_;clear hK K)
   refine J9 (i:=9) (j:=13) (by kernel_rfl) rfl rfl (λK hK=>?_) (λK hK=>?_)
   ·(go_simp;go_wp2_with (go_at_call 83;refine (HC9.out _ _ hC.B (hC.s8 _ rfl)).mono ?_;rintro e X3 ⟨⟨v8,rfl,hk8⟩,hb8⟩;replace hC:=hC.ask hb8 hk8;obtain⟨t1,d1,t2,d2,rfl⟩:=hk8.shape;clear hk8 hb8);refine hK.out _ _ (λ_=>(Mk.out _ hC.B)) ?_;clear hK K;(refine tkx 10 rfl (Mk.out _ hC.B) ?_);(refine tkx 11 rfl (Mk.out _ hC.B) ?_);(refine tkx 12 rfl (Mk.out _ hC.B) ?_))
    refine D7 (i:=13) (by kernel_rfl) rfl (λK hK=>?_)
    (go_simp;replace hC:=hC.new;refine hK.out _ _ (λ_=>(Mk.out _ hC.B)) ?_;clear hK K;generalize World.alloc _ (.cells #[.slice none 0 0,.slice none 0 0] 37)=X4 at hC ⊢)
    (have kY:=D8 (hC.s13 _ rfl);obtain⟨⟨j0,j1⟩,m0,m1⟩:=kY.c2;have hF:=hC.fin;refine D7 (i:=14) (by kernel_rfl) rfl (λK hK=>?_);go_simp;refine hK.out _ _ (λ_=>Mk.out _ hF.1) ?_;clear hK K j0 j1 m0 m1 kY;refine D7 (i:=15) (by kernel_rfl) rfl (λK hK=>?_);go_simp;refine hK.out _ _ (λ_=>Mk.out _ hF.1) ?_;clear hK K;refine F0 (by kernel_rfl) ?_ _;go_wp2_with fail;go_meet;exact⟨_,_,_,rfl,rfl,hF⟩)
   ·(go_simp;replace hC:=hC.new;refine hK.out _ _ (λ_=>(Mk.out _ hC.B)) ?_;clear hK K;generalize World.alloc _ (.cells #[.slice none 0 0,.slice none 0 0] 37)=X4 at hC ⊢)
    refine D7 (i:=9) (by kernel_rfl) rfl (λK hK=>?_)
    (go_simp;go_wp2_with (go_at_call 83;refine (HC9.out _ _ hC.B (hC.s8 _ rfl)).mono ?_;rintro e X3 ⟨⟨v8,rfl,hk8⟩,hb8⟩;replace hC:=hC.ask hb8 hk8;obtain⟨t1,d1,t2,d2,rfl⟩:=hk8.shape;clear hk8 hb8);refine hK.out _ _ (λ_=>(Mk.out _ hC.B)) ?_;clear hK K;(refine tkx 10 rfl (Mk.out _ hC.B) ?_);(refine tkx 11 rfl (Mk.out _ hC.B) ?_);(refine tkx 12 rfl (Mk.out _ hC.B) ?_))
    (have kY:=D8 (hC.s13 _ rfl);obtain⟨⟨j0,j1⟩,m0,m1⟩:=kY.c2;have hF:=hC.fin;refine D7 (i:=14) (by kernel_rfl) rfl (λK hK=>?_);go_simp;refine hK.out _ _ (λ_=>Mk.out _ hF.1) ?_;clear hK K j0 j1 m0 m1 kY;refine D7 (i:=15) (by kernel_rfl) rfl (λK hK=>?_);go_simp;refine hK.out _ _ (λ_=>Mk.out _ hF.1) ?_;clear hK K;refine F0 (by kernel_rfl) ?_ _;go_wp2_with fail;go_meet;exact⟨_,_,_,rfl,rfl,hF⟩)
  ·(go_simp;replace hC:=hC.new;refine hK.out _ _ (λ_=>(Mk.out _ hC.B)) ?_;clear hK K;generalize World.alloc _ (.cells #[.slice none 0 0,.slice none 0 0] 37)=X4 at hC ⊢)
   refine D7 (i:=8) (by kernel_rfl) rfl (λK hK=>?_)
   (go_simp;go_wp2_with (go_at_call 84;refine (HC8.out _ hC.B).mono ?_;rintro e X2 ⟨⟨u1,rfl,hu⟩,hb2⟩;replace hC:=hC.own hb2 hu.lst;obtain⟨a9,c9,rfl⟩:=hu.lst.shape;clear hb2 hu);refine hK.out _ _ (λ_=>(Mk.out _ hC.B)) ?_;clear hK K)
   refine D7 (i:=9) (by kernel_rfl) rfl (λK hK=>?_)
   (go_simp;go_wp2_with (go_at_call 83;refine (HC9.out _ _ hC.B (hC.s8 _ rfl)).mono ?_;rintro e X3 ⟨⟨v8,rfl,hk8⟩,hb8⟩;replace hC:=hC.ask hb8 hk8;obtain⟨t1,d1,t2,d2,rfl⟩:=hk8.shape;clear hk8 hb8);refine hK.out _ _ (λ_=>(Mk.out _ hC.B)) ?_;clear hK K;(refine tkx 10 rfl (Mk.out _ hC.B) ?_);(refine tkx 11 rfl (Mk.out _ hC.B) ?_);(refine tkx 12 rfl (Mk.out _ hC.B) ?_))
   (have kY:=D8 (hC.s13 _ rfl);obtain⟨⟨j0,j1⟩,m0,m1⟩:=kY.c2;have hF:=hC.fin;refine D7 (i:=14) (by kernel_rfl) rfl (λK hK=>?_);go_simp;refine hK.out _ _ (λ_=>Mk.out _ hF.1) ?_;clear hK K j0 j1 m0 m1 kY;refine D7 (i:=15) (by kernel_rfl) rfl (λK hK=>?_);go_simp;refine hK.out _ _ (λ_=>Mk.out _ hF.1) ?_;clear hK K;refine F0 (by kernel_rfl) ?_ _;go_wp2_with fail;go_meet;exact⟨_,_,_,rfl,rfl,hF⟩)
 case rest =>
  obtain⟨Y,tw,bw,rfl,rfl,hBc,hbk,kY⟩:=hcut;have kA5:=E0 kA4 hBc;have H5:=H4.up hBc;have kB5:=E0 kB hBc;have hv5:=hv4.up hBc;have hB5:=D5 hB4 hBc;have hb5:=hB4.size;clear Mk HB HC8 HC9 kA4 H4 kB hv4 hB4 hBc hyl hbl;by_cases hcd:startC h nm ps sl=0
  case neg =>
   have hP:StartP h nm ps sl (startC h nm ps sl) h:=.inr (.inr (.inl ⟨HK.out,Hok.out,hcd,rfl,rfl⟩));have HE:Hid (stE (startC h nm ps sl)=.iface 130 (.agg #[.int .i64 (startC h nm ps sl)])):=Alz hcd;have hcd':(startC h nm ps sl==0)=false:=by simpa using hcd
   go_wp2_with fail
   exact⟨_,results_tmp rfl _ _ _,startC h nm ps sl,h,by rw[HE.out];rfl,hP,⟨_,_,_,_,kA5,H5⟩,hB5⟩
  case pos =>
   have HC0:Hid (startC h nm ps sl=0):=hcd;rw[hcd];clear hcd;obtain⟨e0,e1,e2,e3,e4,e5⟩:=(D8 kA5).c6;by_cases hlast:h.last=1000000
   case pos =>
    have hP:StartP h nm ps sl 4 h:=.inr (.inr (.inr (.inl ⟨HK.out,Hok.out,HC0.out,hlast,rfl,rfl⟩)));have hl':(h.last==1000000)=true:=by simpa using hlast
    go_wp2_with fail
    exact⟨_,results_tmp rfl _ _ _,4,h,rfl,hP,⟨_,_,_,_,kA5,H5⟩,hB5⟩
   case neg =>
    have hP:StartP h nm ps sl 0 (asksH (startH h nm ps sl) (startH h nm ps sl).bs.length):=.inr (.inr (.inr (.inr ⟨HK.out,Hok.out,HC0.out,hlast,rfl,rfl⟩)));have HP0:Hid (StartP h nm ps sl 0 (asksH (startH h nm ps sl) (startH h nm ps sl).bs.length)):=hP;have HSH:Hid (startH h nm ps sl={h with last:=h.last+1,sh:=enterB h.sh nm (rbThings (newB h nm ps sl) (fstN ps)),bs:=h.bs++[newB h nm ps sl]}):=rfl;have hl':(h.last==1000000)=false:=by simpa using hlast
    clear hP;obtain⟨t1,d1,t2,d2,e9⟩:=hbk.shape;simp only[Value.agg.injEq,Array.mk.injEq,List.cons.injEq,and_true] at e9;obtain⟨rfl,rfl⟩:=e9;generalize enterB h.sh nm (rbThings (newB h nm ps sl) (fstN ps))=b' at *;obtain⟨v0,v1⟩:=kY.c2';obtain⟨f0,f1,f2,f3,f4,f5⟩:=(D8 kA5).f6;obtain⟨l0,l1,l2,l3,l4,l5⟩:=(D8 kB5).c6;have b1:=Y9 (j:=2) kA5 (.slice t1 b'.things.length d1);have b2:=Y9 (j:=3) b1.1 (.slice t2 b'.bs.length d2);have hg2:wc.grownBy ((wc.setCell ⟨y,2,none⟩ (.slice t1 b'.things.length d1)).setCell ⟨y,3,none⟩ (.slice t2 b'.bs.length d2)) (Value.slice (some ⟨y,0,none⟩) 1 1).ownBlock:=E3 b1.2 b2.2
    obtain⟨W6,hW6,kA6,kB6,H6,hbk6,hB6⟩:∃W6,(wc.setCell ⟨y,2,none⟩ (.slice t1 b'.things.length d1)).setCell ⟨y,3,none⟩ (.slice t2 b'.bs.length d2)=W6/\W6.ownsRow w0.heap.size 41 6 (.slice (some ⟨y,0,none⟩) 1 1) 1 [.int .i64 h.now,.int .i64 h.last,.slice t1 b'.things.length d1,.slice t2 b'.bs.length d2,.slice a3 h.bs.length c3,.slice a4 h.ds.length c4]/\W6.ownsRow w0.heap.size 71 6 (.slice (some ⟨B,0,none⟩) 1 1) 1 [.string nm,.slice (some ⟨rb,ro,none⟩) ps.length rc,.slice (some ⟨sb,so,none⟩) sl.length sc,.string (fstN ps),.int .i64 (-1),.int .i64 (h.last+1)]/\HP W6 w0.heap.size h (.slice a1 h.sh.things.length c1) (.slice a2 h.sh.bs.length c2) (.slice a3 h.bs.length c3) (.slice a4 h.ds.length c4)/\BkF W6 w0.heap.size (.agg #[.slice t1 b'.things.length d1,.slice t2 b'.bs.length d2]) b'/\Below w0.heap.size w0 W6 :=
     ⟨_,rfl,b2.1,E4 kB5 hg2 (E5 kB5 kA5 (by decide)),H5.box kA5 hg2,(hbk.step kA5 (by decide) (by decide) hg2).low hb5,F5 hB5 hB5.size kA5 hg2 (A3 _)⟩
    go_upto_region 11 with fail
    try rw[hW6]
    clear hW6 e0 e1 e2 e3 e4 e5 f0 f1 f2 f3 f4 f5 l0 l1 l2 l3 l4 l5 v0 v1 b1 b2 hg2 kA5 kB5 H5 hbk kY hB5 hv5;obtain⟨e0,e1,e2,e3,e4,e5⟩:=(D8 kA6).c6;obtain⟨f0,f1,f2,f3,f4,f5⟩:=(D8 kA6).f6;obtain⟨l0,l1,l2,l3,l4,l5⟩:=(D8 kB6).c6;have b3:=Y9 (j:=1) kA6 (.int .i64 (h.last+1));have hg3:W6.grownBy (W6.setCell ⟨y,1,none⟩ (.int .i64 (h.last+1))) (Value.slice (some ⟨y,0,none⟩) 1 1).ownBlock:=b3.2
    obtain⟨W7,hW7,kA7,kB7,H7,hbk7,hB7⟩:∃W7,W6.setCell ⟨y,1,none⟩ (.int .i64 (h.last+1))=W7/\W7.ownsRow w0.heap.size 41 6 (.slice (some ⟨y,0,none⟩) 1 1) 1 [.int .i64 h.now,.int .i64 (h.last+1),.slice t1 b'.things.length d1,.slice t2 b'.bs.length d2,.slice a3 h.bs.length c3,.slice a4 h.ds.length c4]/\W7.ownsRow w0.heap.size 71 6 (.slice (some ⟨B,0,none⟩) 1 1) 1 [.string nm,.slice (some ⟨rb,ro,none⟩) ps.length rc,.slice (some ⟨sb,so,none⟩) sl.length sc,.string (fstN ps),.int .i64 (-1),.int .i64 (h.last+1)]/\HP W7 w0.heap.size h (.slice a1 h.sh.things.length c1) (.slice a2 h.sh.bs.length c2) (.slice a3 h.bs.length c3) (.slice a4 h.ds.length c4)/\BkF W7 w0.heap.size (.agg #[.slice t1 b'.things.length d1,.slice t2 b'.bs.length d2]) b'/\Below w0.heap.size w0 W7 :=
     ⟨_,rfl,b3.1,E4 kB6 hg3 (E5 kB6 kA6 (by decide)),H6.box kA6 hg3,hbk6.step kA6 (by decide) (by decide) hg3,F5 hB6 hB6.size kA6 hg3 (A3 _)⟩
    go_upto_region 12 with fail
    try rw[hW7]
    clear hW7 e0 e1 e2 e3 e4 e5 f0 f1 f2 f3 f4 f5 l0 l1 l2 l3 l4 l5 b3 hg3 kA6 kB6 H6 hbk6 hB6;have hv7:=hR.up hB7;obtain⟨irb,hirb,r0,r1,r2⟩:=info_parts AcZ;have hd:=(A4 W7.heap.size W7).drew;have kA8:=E0 kA7 hd;have kB8:=E0 kB7 hd;have H8:=H7.up hd;have hbk8:=hbk7.up hd;have hB8:=hB7.drew;have hv8:=hv7.up hd;clear kA7 kB7 H7 hbk7 hB7 hv7 hd
    have mkS:∀(X:World) (p:X.ownsRow w0.heap.size 41 6 (.slice (some ⟨y,0,none⟩) 1 1) 1 [.int .i64 h.now,.int .i64 (h.last+1),.slice t1 b'.things.length d1,.slice t2 b'.bs.length d2,.slice a3 h.bs.length c3,.slice a4 h.ds.length c4]) (q:X.ownsRow w0.heap.size 71 6 (.slice (some ⟨B,0,none⟩) 1 1) 1 [.string nm,.slice (some ⟨rb,ro,none⟩) ps.length rc,.slice (some ⟨sb,so,none⟩) sl.length sc,.string (fstN ps),.int .i64 (-1),.int .i64 (h.last+1)]),World.cell? X ⟨y,4,none⟩=some (.slice a3 h.bs.length c3)/\World.cell? X ⟨B,0,none⟩=some (.string nm)/\World.cell? X ⟨B,1,none⟩=some (.slice (some ⟨rb,ro,none⟩) ps.length rc)/\World.cell? X ⟨B,2,none⟩=some (.slice (some ⟨sb,so,none⟩) sl.length sc)/\World.cell? X ⟨B,3,none⟩=some (.string (fstN ps))/\World.cell? X ⟨B,4,none⟩=some (.int .i64 (-1))/\World.cell? X ⟨B,5,none⟩=some (.int .i64 (h.last+1)):=λX p q=>by
     obtain⟨-,-,-,-,z4,-⟩:=(D8 p).c6;obtain⟨l0,l1,l2,l3,l4,l5⟩:=(D8 q).c6;exact⟨z4,l0,l1,l2,l3,l4,l5⟩
    have MkS:Hid (∀(X:World) (p:X.ownsRow w0.heap.size 41 6 (.slice (some ⟨y,0,none⟩) 1 1) 1 [.int .i64 h.now,.int .i64 (h.last+1),.slice t1 b'.things.length d1,.slice t2 b'.bs.length d2,.slice a3 h.bs.length c3,.slice a4 h.ds.length c4]) (q:X.ownsRow w0.heap.size 71 6 (.slice (some ⟨B,0,none⟩) 1 1) 1 [.string nm,.slice (some ⟨rb,ro,none⟩) ps.length rc,.slice (some ⟨sb,so,none⟩) sl.length sc,.string (fstN ps),.int .i64 (-1),.int .i64 (h.last+1)]),World.cell? X ⟨y,4,none⟩=some (.slice a3 h.bs.length c3)/\World.cell? X ⟨B,0,none⟩=some (.string nm)/\World.cell? X ⟨B,1,none⟩=some (.slice (some ⟨rb,ro,none⟩) ps.length rc)/\World.cell? X ⟨B,2,none⟩=some (.slice (some ⟨sb,so,none⟩) sl.length sc)/\World.cell? X ⟨B,3,none⟩=some (.string (fstN ps))/\World.cell? X ⟨B,4,none⟩=some (.int .i64 (-1))/\World.cell? X ⟨B,5,none⟩=some (.int .i64 (h.last+1))):=mkS;have HC6:Hid (∀X,RbV X (newB h nm ps sl) (.slice (some ⟨rb,ro,none⟩) ps.length rc) (.slice (some ⟨sb,so,none⟩) sl.length sc)->Calls Tryz.prog 86 #[.agg #[.string nm,.slice (some ⟨rb,ro,none⟩) ps.length rc,.slice (some ⟨sb,so,none⟩) sl.length sc,.string (fstN ps),.int .i64 (-1),.int .i64 (h.last+1)]] X λe w'=>(∃ru su,e=.returned (.agg #[.string nm,ru,su,.string (fstN ps),.int .i64 (-1),.int .i64 (h.last+1)])/\RcW w' X.heap.size (newB h nm ps sl,ru,su))/\Below X.heap.size X w'):=λX hv=>Afi (newB h nm ps sl) _ _ X hv hpx.1 hpx.2;clear mkS hpx;refine Ai3 (F6 11 (λw'=>World.cell? w' ⟨y,4,none⟩=some (.slice a3 h.bs.length c3)/\World.cell? w' ⟨B,0,none⟩=some (.string nm)/\World.cell? w' ⟨B,1,none⟩=some (.slice (some ⟨rb,ro,none⟩) ps.length rc)/\World.cell? w' ⟨B,2,none⟩=some (.slice (some ⟨sb,so,none⟩) sl.length sc)/\World.cell? w' ⟨B,3,none⟩=some (.string (fstN ps))/\World.cell? w' ⟨B,4,none⟩=some (.int .i64 (-1))/\World.cell? w' ⟨B,5,none⟩=some (.int .i64 (h.last+1))) (by kernel_rfl) ?_);generalize W7.drew=X1 at kA8 kB8 H8 hbk8 hB8 hv8 ⊢
    have hS1:=MkS.out _ kA8 kB8;refine tkx 0 rfl hS1 ?_;refine tkx 1 rfl hS1 ?_;refine tkx 2 rfl hS1 ?_;refine tkx 3 rfl hS1 ?_;refine tkx 4 rfl hS1 ?_;refine tkx 5 rfl hS1 ?_;clear hS1;refine D7 (i:=6) (by kernel_rfl) rfl (λK hK=>?_);go_simp
    go_wp2_with (go_at_call 86;refine (HC6.out _ hv8).mono ?_;rintro e X3 ⟨⟨ru,su,rfl,hrc⟩,hb3⟩)
    obtain⟨qs,hW1,hm⟩:=H8.x;have Hm:Hid (qs.map (·.1)=h.bs):=hm;have hql:qs.length=h.bs.length:=by rw[← hm,B3]
    have Hap1:Hid (∀v∈qs.map (·.2.1),Ap v ru):=λv hv=>by
     obtain⟨z,hz,rfl⟩:=List.mem_map.1 hv;exact Aez (hW1.1.2 z hz).r hrc.r (A3 _)
    have Hap2:Hid (∀v∈qs.map (·.2.2),Ap v su):=λv hv=>by
     obtain⟨z,hz,rfl⟩:=List.mem_map.1 hv;exact Aez (hW1.1.2 z hz).s hrc.s (A3 _)
    have kA3:=E0 kA8 hb3;have kB3:=E0 kB8 hb3;have H3:=H8.up hb3;have hbk3:=hbk8.up hb3;have hW3:=hW1.up hb3;have hrc3:=hrc.low hB8.size;have hB3:=D5 hB8 hb3;obtain⟨g3,n3,m3,ee⟩:NN ru:=hrc.nr;obtain⟨g4,n4,m4,ef⟩:NN su:=hrc.ns;subst ee ef;clear kA8 kB8 H8 hbk8 hB8 hv8 hW1 hm hrc hb3 HC6;refine hK.out _ _ (λ_=>(MkS.out _ kA3 kB3)) ?_;clear hK K;have hnb9:Below X3.heap.size X3 (X3.alloc (.cells #[.string nm,.slice (some ⟨g3,0,none⟩) n3 m3,.slice (some ⟨g4,0,none⟩) n4 m4,.string (fstN ps),.int .i64 (-1),.int .i64 (h.last+1)] 71)):=(A4 _ _).alloc (A3 _) _;have kA4:=E0 kA3 hnb9;have kB4:=E0 kB3 hnb9;have H4:=H3.up hnb9;have hbk4:=hbk3.up hnb9;have hW4:=hW3.up hnb9;have hrc4:=hrc3.up hnb9;have hB4:=D5 hB3 hnb9;have hnews:∀(j:Nat) (u:Value),(rowR (newB h nm ps sl,.slice (some ⟨g3,0,none⟩) n3 m3,.slice (some ⟨g4,0,none⟩) n4 m4))[j]?=some u->(X3.alloc (.cells #[.string nm,.slice (some ⟨g3,0,none⟩) n3 m3,.slice (some ⟨g4,0,none⟩) n4 m4,.string (fstN ps),.int .i64 (-1),.int .i64 (h.last+1)] 71)).cell? ((⟨X3.heap.size,0,none⟩:Addr).add j)=some u:=λj u hj=>AfB _ _ _ _ _ _ _ _ hj;clear kA3 kB3 H3 hbk3 hW3 hrc3 hB3;refine D7 (i:=7) (by kernel_rfl) rfl (λK hK=>?_);go_simp
    refine hK.out _ _ (λ_=>(MkS.out _ kA4 kB4)) ?_;clear hK K;clear hnb9;generalize X3.alloc (.cells #[.string nm,.slice (some ⟨g3,0,none⟩) n3 m3,.slice (some ⟨g4,0,none⟩) n4 m4,.string (fstN ps),.int .i64 (-1),.int .i64 (h.last+1)] 71)=X4 at kA4 kB4 H4 hbk4 hW4 hrc4 hB4 hnews ⊢
    have hrow4:=hW4.1.1;rw[hql] at hrow4;refine D7 (i:=8) (by kernel_rfl) rfl (λK hK=>?_);refine F4 rfl _ _ 38 rfl w0.heap.size 71 irb _ 6 96 Tryz.underlying38 hirb r0 r1 r2 rfl (by decide) (.slice a3 h.bs.length c3) _ _ rfl hrow4 ⟨X3.heap.size,0,none⟩ 1 1 (rowR (newB h nm ps sl,.slice (some ⟨g3,0,none⟩) n3 m3,.slice (some ⟨g4,0,none⟩) n4 m4)) rfl rfl hnews (Acn hrc4) (by unfold maxLen;omega) (by omega) hB4.size ?_;intro v5 X5 hown5 hgr5;have kA5:=E4 kA4 hgr5 (E5 kA4 hrow4 (by decide));have kB5:=(D8 kB4).kept hgr5 (λe=>by have:=HltB.out _ e.symm;omega);have hB5:=F5 hB4 hB4.size hrow4 hgr5 (A3 _);have hown6:=hown5;rw[← hql] at hown6;have H5:=H4.comes hW4 Hm.out hbk4 HSZ.out hrc4 Hap1.out Hap2.out hgr5 hown6 (h.last+1)
    have hS5:World.cell? X5 ⟨y,4,none⟩=some (.slice a3 h.bs.length c3)/\World.cell? X5 ⟨B,0,none⟩=some (.string nm)/\World.cell? X5 ⟨B,1,none⟩=some (.slice (some ⟨rb,ro,none⟩) ps.length rc)/\World.cell? X5 ⟨B,2,none⟩=some (.slice (some ⟨sb,so,none⟩) sl.length sc)/\World.cell? X5 ⟨B,3,none⟩=some (.string (fstN ps))/\World.cell? X5 ⟨B,4,none⟩=some (.int .i64 (-1))/\World.cell? X5 ⟨B,5,none⟩=some (.int .i64 (h.last+1)):=by
     obtain⟨-,-,-,-,z4,-⟩:=(D8 kA5).c6;obtain⟨l0,l1,l2,l3,l4,l5⟩:=kB5.c6;exact⟨z4,l0,l1,l2,l3,l4,l5⟩
    obtain⟨gg,cc,rfl⟩:=F2 hown5 (by omega);clear hown5 hown6 hgr5 kA4 kB4 H4 hbk4 hW4 hrc4 hB4 hnews hrow4 kB5 MkS;refine hK.out _ _ (λ_=>hS5) ?_;clear hK K;refine D7 (i:=9) (by kernel_rfl) rfl (λK hK=>?_);go_simp
    refine hK.out _ _ (λ_=>hS5) ?_;clear hK K;refine tkx 10 rfl hS5 ?_;have b5:=Y9 (j:=4) kA5 (.slice (some ⟨gg,0,none⟩) (h.bs.length+1) cc);have hg6:X5.grownBy (X5.setCell ⟨y,4,none⟩ (.slice (some ⟨gg,0,none⟩) (h.bs.length+1) cc)) (Value.slice (some ⟨y,0,none⟩) 1 1).ownBlock:=b5.2;have H6:=H5.box kA5 hg6;have hB6:=F5 hB5 hB5.size kA5 hg6 (A3 _);have kA6:(X5.setCell ⟨y,4,none⟩ (.slice (some ⟨gg,0,none⟩) (h.bs.length+1) cc)).ownsRow w0.heap.size 41 6 (.slice (some ⟨y,0,none⟩) 1 1) 1 [.int .i64 h.now,.int .i64 (h.last+1),.slice t1 b'.things.length d1,.slice t2 b'.bs.length d2,.slice (some ⟨gg,0,none⟩) (h.bs.length+1) cc,.slice a4 h.ds.length c4]:=b5.1;obtain⟨e0,e1,e2,e3,e4,e5⟩:=(D8 kA5).c6;obtain⟨f0,f1,f2,f3,f4,f5⟩:=(D8 kA5).f6;refine D7 (i:=11) (by kernel_rfl) rfl (λK hK=>?_);go_simp
    refine hK.out _ _ (λh=>absurd rfl h) ?_;clear hK K;refine F0 (by kernel_rfl) ?_ _;clear e0 e1 e2 e3 e4 e5 f0 f1 f2 f3 f4 f5 kA5 H5 hB5 hS5 b5 hg6
    have HPH:Hid (PH (X5.setCell ⟨y,4,none⟩ (.slice (some ⟨gg,0,none⟩) (h.bs.length+1) cc)) w0.heap.size y (startH h nm ps sl)):=by
     show PH _ _ _ _
     rw[HSH.out];exact⟨_,_,_,_,kA6,H6⟩
    have HSI:Hid (∀x∈(startH h nm ps sl).bs,-1<=x.si):=λx hx=>by
     rcases D0.1 hx with h1|h1
     ·exact Hsi.out x h1
     ·obtain rfl:=D1.1 h1
      show (-1:Int)<=-1;omega
    clear kA6 H6;generalize X5.setCell ⟨y,4,none⟩ (.slice (some ⟨gg,0,none⟩) (h.bs.length+1) cc)=X6 at *;go_wp2_with fail
    refine leaves_cons (f:=85) (args:=#[.pointer (some ⟨y,0,none⟩)]) (by simp) (by simp[go_sem]) ?_;refine (AjJ (startH h nm ps sl) y .returning w0 X6 hB6 hE hT HPH.out HSI.out).mono ?_;rintro e u' w2 ⟨rfl,rfl,H2,hB2⟩;exact⟨_,results_tmp rfl _ _ _,0,_,rfl,HP0.out,H2,hB2⟩
theorem AhT (h:House) (nm:ByteArray) (ps:List Ph) (sl:List Sl) (rv sv:Value) (y p5 p6 p7:Nat) (w0 w:World) (hB0:Below w0.heap.size w0 w) (hE:Ends w0) (hT:ErrT w0) (H:PH w w0.heap.size y h) (hR:RbV w0 (newB h nm ps sl) rv sv) (hk:HouseOk h) (c5:w.cell? ⟨p5,0,none⟩=some (.string nm)) (c6:w.cell? ⟨p6,0,none⟩=some rv) (c7:w.cell? ⟨p7,0,none⟩=some sv) :
  Calls Tryz.prog 39 #[.pointer (some ⟨y,0,none⟩),.pointer (some ⟨p5,0,none⟩),.pointer (some ⟨p6,0,none⟩),.pointer (some ⟨p7,0,none⟩)] w λe w'=>∃cd hN,e=.returned (stE cd)/\StartP h nm ps sl cd hN/\PH w' w0.heap.size y hN/\Below w0.heap.size w0 w':=by
 have hc:=AgV h nm ps sl rv sv y w0 w hB0 hE hT H hR hk;obtain⟨rb,ro,rc,erv,-⟩:=hR.r;obtain⟨sb,so,sc,esv,-⟩:=hR.s;have erv':rv=.slice (some ⟨rb,ro,none⟩) ps.length rc:=erv;have esv':sv=.slice (some ⟨sb,so,none⟩) sl.length sc:=esv;subst erv' esv';clear erv esv H hR hk hB0 hE hT;go_enter Tryz.func39,Tryz.ntmps39
 go_wp2_with (go_at_call 40;refine hc.mono ?_;rintro e w2 ⟨cd,hN,rfl,hP,hPH,hB⟩)
 go_ret
 exact⟨cd,hN,rfl,hP,hPH,hB⟩
theorem AgW (h:House) (tv bv xv dv:Value) (nm:ByteArray) (ps:List Ph) (sl:List Sl) (rv sv:Value) (p5 p6 p7:Nat) (call:ByteArray) (w:World) (hE:Ends w) (hT:ErrT w) (H:HV w h tv bv xv dv) (hR:RbV w (newB h nm ps sl) rv sv) (k5:CB w p5 [.string nm]) (k6:CB w p6 [rv]) (k7:CB w p7 [sv]) :
  Calls Tryz.prog 80 #[.agg #[.int .i64 h.now,.int .i64 h.last,tv,bv,xv,dv],.string call,.func (.func 39) #[] #[.pointer (some ⟨p5,0,none⟩),.pointer (some ⟨p6,0,none⟩),.pointer (some ⟨p7,0,none⟩)]] w λe w'=>(∃h' tu bu xu du cd,e=.returned (.tuple #[.agg #[.int .i64 h'.now,.int .i64 h'.last,tu,bu,xu,du],runE call cd])/\StartP h nm ps sl cd h'/\HPX w' w.heap.size h' tu bu xu du)/\Below w.heap.size w w':=by
 obtain⟨a1,c1,a2,c2,a3,c3,a4,c4,rfl,rfl,rfl,rfl⟩:=H.shapes;obtain⟨W1,hW1,kA,kR,hB1,hs1⟩:=L8 w [.int .i64 h.now,.int .i64 h.last,.slice a1 h.sh.things.length c1,.slice a2 h.sh.bs.length c2,.slice a3 h.bs.length c3,.slice a4 h.ds.length c4] 41 [.int .i64 0,.int .i64 0,.slice none 0 0,.slice none 0 0,.slice none 0 0,.slice none 0 0] 41;have H1:=H.up hB1;have hE1:=hE.up hB1;have hT1:=hT.up hB1;have hR1:=hR.up hB1;have q5:=k5.up hB1 k5.2.2;have q6:=k6.up hB1 k6.2.2;have q7:=k7.up hB1 k7.2.2;have z5:=k5.2.2;have z6:=k6.2.2;have z7:=k7.2.2;clear H hE hT hR k5 k6 k7;go_enter Tryz.func80,Tryz.ntmps80
 go_upto_region 1 with fail
 try rw[hW1]
 clear hW1;obtain⟨e0,e1,e2,e3,e4,e5⟩:=kA.c6;have hcall:=AgU h _ _ _ _ W1 hE1 H1;by_cases hk:HouseOk h
 case neg =>
  rw[F1 hk] at hcall;have HI:Hid (StartP h nm ps sl 1 noHouse):=.inl ⟨hk,rfl,rfl⟩;clear hk;go_upto_region 2 with (go_at_call 114;refine hcall.mono ?_;rintro e w2 ⟨rfl,hb2⟩)
  have kR2:=kR.up hb2 kR.2.2;obtain⟨y0,y1,y2,y3,y4,y5⟩:=kR2.c6;obtain⟨f0,f1,f2,f3,f4,f5⟩:=kR2.f6;have hB2:=D5 hB1 hb2;clear hcall hb2;go_wp2_with fail
  refine M3 Tryz.results80 Tryz.underlying41 rfl J7 kR2 rfl rfl ?_;exact⟨⟨noHouse,_,_,_,_,1,rfl,HI.out,.inr ⟨rfl,rfl,rfl,rfl,rfl⟩⟩,J2 hB2 (by omega) _ _ _ _ _ _⟩
 case pos =>
  rw[G9 hk] at hcall;obtain⟨hty,hb5,hd20⟩:=hk.tiny
  have hbk:∀x∈h.bs,RbOk x:=λx hx=>by
   obtain⟨i,hi⟩:=C5.1 hx;exact hk.batch hi
  have HK:Hid (HouseOk h):=hk;have Hpos:Hid (∀x∈h.bs,0<x.ps.length/\0<x.sl.length):=λx hx=>Alw (hbk x hx);have s1:=hty.1;have s2:=hty.2.1;have Hs3:Hid (∀y∈h.sh.bs,y.has.length<=100/\y.needs.length<=100):=λy hy=>by have:=hty.2.2 y hy;omega
  clear hk hbk hty
  go_upto_region 4 with (first
   | (go_at_call 114;refine hcall.mono ?_;rintro e w2 ⟨rfl,hb2⟩;have hz2:=hb2.size;have kA2:=kA.up hb2 kA.2.2;clear e0 e1 e2 e3 e4 e5;obtain⟨e0,e1,e2,e3,e4,e5⟩:=kA2.c6)
   | (go_at_call 115;refine (Alq h _ _ _ _ w2 (H1.up hb2) (by omega) (by omega) Hs3.out (by omega) (by omega) Hpos.out).mono ?_;rintro e w3 ⟨⟨tu,bu,xu,du,rfl,HC⟩,hb3⟩;obtain⟨i1,j1,i2,j2,i3,j3,i4,j4,rfl,rfl,rfl,rfl⟩:=HC.v.shapes))
  obtain⟨W4,hW4,H4,hb4⟩:∃W4,w3.alloc (.cells #[.int .i64 h.now,.int .i64 h.last,.slice i1 h.sh.things.length j1,.slice i2 h.sh.bs.length j2,.slice i3 h.bs.length j3,.slice i4 h.ds.length j4] 41)=W4/\PH W4 w2.heap.size w3.heap.size h/\Below w3.heap.size w3 W4:=by
   have hb:Below w3.heap.size w3 (w3.alloc (.cells #[.int .i64 h.now,.int .i64 h.last,.slice i1 h.sh.things.length j1,.slice i2 h.sh.bs.length j2,.slice i3 h.bs.length j3,.slice i4 h.ds.length j4] 41)):=(A4 _ _).alloc (A3 _) _;exact⟨_,rfl,⟨_,_,_,_,B8 w3 _ 1 hb3.size (by unfold maxLen;omega) rfl,HC.up hb⟩,hb⟩
  try rw[hW4]
  have hB24:=D5 hb3 hb4;have kR2:=kR.up hb2 kR.2.2;have hRz:w.heap.size+1<w2.heap.size:=kR2.2.2;have hBw2:=D5 hB1 hb2;have hE2:=hE1.up hb2;have hT2:=hT1.up hb2;have hR2:=hR1.up hb2;have q5':=(q5.up hb2 q5.2.2).up hB24 (by have:=hb2.size;omega);have q6':=(q6.up hb2 q6.2.2).up hB24 (by have:=hb2.size;omega);have q7':=(q7.up hb2 q7.2.2).up hB24 (by have:=hb2.size;omega);clear hW4 HC hcall H1 kA kR hB1 e0 e1 e2 e3 e4 e5 kA2 hb3 hb4 hb2 hE1 hT1 hR1 q5 q6 q7;generalize w3.heap.size=y at *;have hc:=AhT h nm ps sl rv sv y p5 p6 p7 w2 W4 hB24 hE2 hT2 H4 hR2 HK.out (q5'.1 0 _ rfl) (q6'.1 0 _ rfl) (q7'.1 0 _ rfl);clear H4 hR2 q5' q6' q7' z5 z6 z7;go_upto_region 5 with (go_at_call 39;refine hc.mono ?_;rintro e w5 ⟨cd,hN,rfl,hP,⟨tv,bv,xv,dv,kY5,HH⟩,hB5⟩;obtain⟨k1,l1,k2,l2,k3,l3,k4,l4,rfl,rfl,rfl,rfl⟩:=HH.v.shapes)
  have kR5:=kR2.up hB5 hRz;have HP5:Hid (StartP h nm ps sl cd hN):=hP;clear hc hP hB24 kR2;obtain⟨e0,e1,e2,e3,e4,e5⟩:=(D8 kY5).c6;obtain⟨y0,y1,y2,y3,y4,y5⟩:=kR5.c6;obtain⟨f0,f1,f2,f3,f4,f5⟩:=kR5.f6;have hg9:=L0 w5 (w.heap.size+1) (.int .i64 hN.now) (.int .i64 hN.last) (.slice k1 hN.sh.things.length l1) (.slice k2 hN.sh.bs.length l2) (.slice k3 hN.bs.length l3) (.slice k4 hN.ds.length l4);have hX9:=(HH.gr hg9 hRz).low (B1 (Nat.le_succ _) (Nat.le_of_lt hRz));have hB9:=J2 (D5 hBw2 hB5) (Nat.le_succ _) (.int .i64 hN.now) (.int .i64 hN.last) (.slice k1 hN.sh.things.length l1) (.slice k2 hN.sh.bs.length l2) (.slice k3 hN.bs.length l3) (.slice k4 hN.ds.length l4);clear hg9 HH kY5 hB5 hBw2;by_cases hcd:cd=0
  ·subst hcd
   rw[show stE 0=.nilIface from rfl];go_wp2_with fail
   refine M3 Tryz.results80 Tryz.underlying41 rfl J7 kR5 rfl rfl ?_;exact⟨⟨hN,_,_,_,_,0,rfl,HP5.out,.inl hX9⟩,hB9⟩
  ·have HRE:Hid (runE call cd=.iface 154 (.agg #[.string call,.iface 130 (.agg #[.int .i64 cd])])):=by show _=_;simp[runE,hcd]
   rw[Alz hcd];clear hcd;go_wp2_with fail
   refine M3 Tryz.results80 Tryz.underlying41 rfl J7 kR5 rfl rfl ?_;exact⟨⟨hN,_,_,_,_,cd,by rw[HRE.out];rfl,HP5.out,.inl hX9⟩,hB9⟩
theorem Ae1 (h:House) (tv bv xv dv:Value) (nm:ByteArray) (ps:List Ph) (sl:List Sl) (rv sv:Value) (p5 p6 p7:Nat) (call:ByteArray) (w:World) (hE:Ends w) (hT:ErrT w) (H:HV w h tv bv xv dv) (hR:RbV w (newB h nm ps sl) rv sv) (q5:CB w p5 [.string nm]) (q6:CB w p6 [rv]) (q7:CB w p7 [sv]) :
  Calls Tryz.prog 38 #[.agg #[.int .i64 h.now,.int .i64 h.last,tv,bv,xv,dv],.string call,.func (.func 39) #[] #[.pointer (some ⟨p5,0,none⟩),.pointer (some ⟨p6,0,none⟩),.pointer (some ⟨p7,0,none⟩)]] w λe w'=>(∃h' tu bu xu du cd,e=.returned (.tuple #[.agg #[.int .i64 h'.now,.int .i64 h'.last,tu,bu,xu,du],.int .i64 cd])/\StartP h nm ps sl cd h'/\HPX w' w.heap.size h' tu bu xu du)/\Below w.heap.size w w':=by
 obtain⟨a1,c1,a2,c2,a3,c3,a4,c4,rfl,rfl,rfl,rfl⟩:=H.shapes;obtain⟨W1,hW1,kA,kR,hB1,hs1⟩:=L8 w [.int .i64 h.now,.int .i64 h.last,.slice a1 h.sh.things.length c1,.slice a2 h.sh.bs.length c2,.slice a3 h.bs.length c3,.slice a4 h.ds.length c4] 41 [.int .i64 0,.int .i64 0,.slice none 0 0,.slice none 0 0,.slice none 0 0,.slice none 0 0] 41;have hc:=AgW h _ _ _ _ nm ps sl rv sv p5 p6 p7 call W1 (hE.up hB1) (hT.up hB1) (H.up hB1) (hR.up hB1) (q5.up hB1 q5.2.2) (q6.up hB1 q6.2.2) (q7.up hB1 q7.2.2);have HT:Hid (ErrT W1):=hT.up hB1;clear H hE hT hR q5 q6 q7;go_enter Tryz.func38,Tryz.ntmps38
 go_upto_region 1 with fail
 try rw[hW1]
 clear hW1;obtain⟨e0,e1,e2,e3,e4,e5⟩:=kA.c6;go_upto_region 3 with (go_at_call 80;refine hc.mono ?_;rintro e w2 ⟨⟨hN,tu,bu,xu,du,cd,rfl,hP,HX⟩,hb2⟩;obtain⟨k1,l1,k2,l2,k3,l3,k4,l4,rfl,rfl,rfl,rfl⟩:=HX.v.shapes)
 obtain⟨W4,hW4,kX,kT,hb4,hs4⟩:=L8 w2 [.int .i64 hN.now,.int .i64 hN.last,.slice k1 hN.sh.things.length l1,.slice k2 hN.sh.bs.length l2,.slice k3 hN.bs.length l3,.slice k4 hN.ds.length l4] 41 [.int .i64 0] 130;try rw[hW4]
 have hz2:=hb2.size;have kR4:=(kR.up hb2 kR.2.2).up hb4 (by omega);have hB14:=D5 hb2 hb4;have hB4:=D5 hB1 hB14;have HX4:=HX.up hb4;have HP':Hid (StartP h nm ps sl cd hN):=hP;have HE:Hid (ErrT W4):=HT.out.up hB14;clear hW4 e0 e1 e2 e3 e4 e5 kA kR hB1 hc hP hb2 hB14 HT;have hRz:w.heap.size+1<W1.heap.size:=by omega
 by_cases h0:cd=0
 ·subst h0
  rw[show runE call 0=.nilIface from rfl];obtain⟨x0,x1,x2,x3,x4,x5⟩:=kX.c6;obtain⟨y0,y1,y2,y3,y4,y5⟩:=kR4.c6;obtain⟨f0,f1,f2,f3,f4,f5⟩:=kR4.f6;go_wp2_with (go_at_call 81;refine (AjY _ _).mono ?_;rintro e w5 ⟨rfl,hw5⟩;obtain rfl:=hw5.symm;clear hw5)
  refine M3 Tryz.results38 Tryz.underlying41 rfl J7 kR4 rfl rfl ?_;have hg9:=L0 W4 (w.heap.size+1) (.int .i64 hN.now) (.int .i64 hN.last) (.slice k1 hN.sh.things.length l1) (.slice k2 hN.sh.bs.length l2) (.slice k3 hN.bs.length l3) (.slice k4 hN.ds.length l4);exact⟨⟨hN,_,_,_,_,0,rfl,HP'.out,(HX4.gr hg9 hRz).low (by omega)⟩,J2 hB4 (by omega) _ _ _ _ _ _⟩
 ·rw[show runE call cd=.iface 154 (.agg #[.string call,.iface 130 (.agg #[.int .i64 cd])]) by simp[runE,h0]]
  have t0:W4.cell? ⟨w2.heap.size+1,0,none⟩=some (.int .i64 0):=kT.1 0 _ rfl;have t1:W4.frozen? ⟨w2.heap.size+1,0,none⟩=false:=(kT.2.1 0 (by simp)).2;have hc:=Ahn call cd (w2.heap.size+1) _ W4 HE.out t0 t1;clear h0;go_upto_region 4 with (go_at_call 81;refine hc.mono ?_;rintro e w5 ⟨rfl,W5,hb5,rfl⟩)
  have kX5:=(kX.up hb5 (by omega)).other (q:=w2.heap.size+1) (j:=0) (u:=.int .i64 cd) (by omega);have kR5:=(kR4.up hb5 (by omega)).other (q:=w2.heap.size+1) (j:=0) (u:=.int .i64 cd) (by omega);have kT5:=(kT.up hb5 (by omega)).set (j:=0) (u:=.int .i64 cd) (by simp);have HX6:=HX.up ((D5 hb4 hb5).setCell (p:=⟨w2.heap.size+1,0,none⟩) (by show _<=w2.heap.size+1;omega) (.int .i64 cd));have hB5:Below w.heap.size w (W5.setCell ⟨w2.heap.size+1,0,none⟩ (.int .i64 cd)):=(D5 hB4 hb5).setCell (p:=⟨w2.heap.size+1,0,none⟩) (by show _<=w2.heap.size+1;omega) _;clear kX kR4 kT hB4 HX4 HX t0 t1 HE hb4 hb5 hc;generalize W5.setCell ⟨w2.heap.size+1,0,none⟩ (.int .i64 cd)=W6 at *;have hX1:W1.heap.size<=w2.heap.size:=hz2;generalize w2.heap.size=X at *;obtain⟨x0,x1,x2,x3,x4,x5⟩:=kX5.c6;have hS1:World.cell? W6.drew ⟨X,0,none⟩=some (.int .i64 hN.now)/\World.cell? W6.drew ⟨X,1,none⟩=some (.int .i64 hN.last)/\World.cell? W6.drew ⟨X,2,none⟩=some (.slice k1 hN.sh.things.length l1)/\World.cell? W6.drew ⟨X,3,none⟩=some (.slice k2 hN.sh.bs.length l2)/\World.cell? W6.drew ⟨X,4,none⟩=some (.slice k3 hN.bs.length l3)/\World.cell? W6.drew ⟨X,5,none⟩=some (.slice k4 hN.ds.length l4)/\World.cell? W6.drew ⟨X+1,0,none⟩=some (.int .i64 cd):=⟨x0,x1,x2,x3,x4,x5,kT5.1 0 _ rfl⟩;have kR6:=kR5.up (A4 _ _).drew kR5.2.2;have kX6:=kX5.up (A4 _ _).drew kX5.2.2;have kT6:=kT5.up (A4 _ _).drew kT5.2.2;have HX7:=HX6.up (A4 _ _).drew;have hB6:=hB5.drew;clear x0 x1 x2 x3 x4 x5 kR5 kX5 kT5 HX6 hB5;refine F6 99 (λw'=>World.cell? w' ⟨X,0,none⟩=some (.int .i64 hN.now)/\World.cell? w' ⟨X,1,none⟩=some (.int .i64 hN.last)/\World.cell? w' ⟨X,2,none⟩=some (.slice k1 hN.sh.things.length l1)/\World.cell? w' ⟨X,3,none⟩=some (.slice k2 hN.sh.bs.length l2)/\World.cell? w' ⟨X,4,none⟩=some (.slice k3 hN.bs.length l3)/\World.cell? w' ⟨X,5,none⟩=some (.slice k4 hN.ds.length l4)/\World.cell? w' ⟨X+1,0,none⟩=some (.int .i64 cd)) (by kernel_rfl) ?_;generalize W6.drew=Y at hS1 kR6 kX6 kT6 HX7 hB6 ⊢
  refine tkx 0 rfl hS1 ?_;refine tkx 1 rfl hS1 ?_;refine tkx 2 rfl hS1 ?_;have hg9:=L0 Y (w.heap.size+1) (.int .i64 hN.now) (.int .i64 hN.last) (.slice k1 hN.sh.things.length l1) (.slice k2 hN.sh.bs.length l2) (.slice k3 hN.bs.length l3) (.slice k4 hN.ds.length l4);have kX9:=kX6.kept hg9 (by simp;omega);have kT9:=kT6.kept hg9 (by simp;omega);have hS9:=(⟨kX9.c6.1,kX9.c6.2.1,kX9.c6.2.2.1,kX9.c6.2.2.2.1,kX9.c6.2.2.2.2.1,kX9.c6.2.2.2.2.2,kT9.1 0 _ rfl⟩:_/\_/\_/\_/\_/\_/\_);obtain⟨y0,y1,y2,y3,y4,y5⟩:=kR6.c6;obtain⟨f0,f1,f2,f3,f4,f5⟩:=kR6.f6;refine D7 (i:=3) (by kernel_rfl) rfl (λK hK=>?_);go_simp
  refine hK.out _ _ (λ_=>hS9) ?_;clear hK K;refine D7 (i:=4) (by kernel_rfl) rfl (λK hK=>?_);go_simp
  refine hK.out _ _ (λ_=>hS9) ?_;clear hK K;refine F0 (by kernel_rfl) ?_ _;go_wp2_with fail
  refine M3 Tryz.results38 Tryz.underlying41 rfl J7 kR6 rfl rfl ?_;exact⟨⟨hN,_,_,_,_,cd,rfl,HP'.out,(HX7.gr hg9 hRz).low (by omega)⟩,J2 hB6 (by omega) _ _ _ _ _ _⟩
theorem Ae2 (h:House) (tv bv xv dv:Value) (nm:ByteArray) (ps:List Ph) (sl:List Sl) (rv sv:Value) (w:World) (hE:Ends w) (hT:ErrT w) (H:HV w h tv bv xv dv) (hR:RbV w (newB h nm ps sl) rv sv) :
  Calls Tryz.prog 11 #[.agg #[.int .i64 h.now,.int .i64 h.last,tv,bv,xv,dv],.string nm,rv,sv] w λe w'=>(∃h' tu bu xu du cd,e=.returned (.tuple #[.agg #[.int .i64 h'.now,.int .i64 h'.last,tu,bu,xu,du],.int .i64 cd])/\StartP h nm ps sl cd h'/\HPX w' w.heap.size h' tu bu xu du)/\Below w.heap.size w w':=by
 obtain⟨a1,c1,a2,c2,a3,c3,a4,c4,rfl,rfl,rfl,rfl⟩:=H.shapes;obtain⟨rb,ro,rc,erv,-⟩:=hR.r;obtain⟨sb,so,sc,esv,-⟩:=hR.s;have erv':rv=.slice (some ⟨rb,ro,none⟩) ps.length rc:=erv;have esv':sv=.slice (some ⟨sb,so,none⟩) sl.length sc:=esv;subst erv' esv';clear erv esv;obtain⟨W0,hW0,kA0,k50,k60,hB0,hs0⟩:=Adv w [.int .i64 h.now,.int .i64 h.last,.slice a1 h.sh.things.length c1,.slice a2 h.sh.bs.length c2,.slice a3 h.bs.length c3,.slice a4 h.ds.length c4] 41 [.string nm] 9 [.slice (some ⟨rb,ro,none⟩) ps.length rc] 45;obtain⟨W1,hW1,k7,kR,hb1,hs1⟩:=L8 W0 [.slice (some ⟨sb,so,none⟩) sl.length sc] 47 [.int .i64 0,.int .i64 0,.slice none 0 0,.slice none 0 0,.slice none 0 0,.slice none 0 0] 41;have hB1:=D5 hB0 hb1;have kA:=kA0.up hb1 (by omega);have k5:=k50.up hb1 (by omega);have k6:=k60.up hb1 (by omega);have hc:=Ae1 h _ _ _ _ nm ps sl _ _ (w.heap.size+1) (w.heap.size+2) W0.heap.size ⟨#[115,116,97,114,116]⟩ W1 (hE.up hB1) (hT.up hB1) (H.up hB1) (hR.up hB1) k5 k6 k7;clear H hE hT hR;go_enter Tryz.func11,Tryz.ntmps11
 go_upto_region 1 with fail
 try rw[hW0]
 try rw[hW1]
 clear hW0 hW1 kA0 k50 k60 hb1;obtain⟨e0,e1,e2,e3,e4,e5⟩:=kA.c6;rw[hs0] at hc kR hs1;go_wp2_with (go_at_call 38;refine hc.mono ?_;rintro e w2 ⟨⟨hN,tu,bu,xu,du,cd,rfl,hP,HX⟩,hb2⟩;obtain⟨k1,l1,k2,l2,k3,l3,k4,l4,rfl,rfl,rfl,rfl⟩:=HX.v.shapes;have kR2:=kR.up hb2 kR.2.2;obtain⟨y0,y1,y2,y3,y4,y5⟩:=kR2.c6;obtain⟨f0,f1,f2,f3,f4,f5⟩:=kR2.f6)
 refine M3 Tryz.results11 Tryz.underlying41 rfl J7 kR2 rfl rfl ?_;have hg9:=L0 w2 (w.heap.size+3+1) (.int .i64 hN.now) (.int .i64 hN.last) (.slice k1 hN.sh.things.length l1) (.slice k2 hN.sh.bs.length l2) (.slice k3 hN.bs.length l3) (.slice k4 hN.ds.length l4);exact⟨⟨hN,_,_,_,_,cd,rfl,hP,(HX.gr hg9 (by omega)).low (by omega)⟩,J2 (D5 hB1 hb2) (by omega) _ _ _ _ _ _⟩
theorem AjN {ps:List Ph} (h:Sized ps):(fstN ps).size<=maxLen:=by
 rcases C3 ps.length with e|e
 ·obtain rfl:=C4.1 e
  unfold maxLen;decide
 ·rw[S9 e];exact (h _ (List.getElem_mem e)).1
theorem AgX (h:House) (tv bv xv dv:Value) (nm:ByteArray) (ps:List Ph) (rv:Value) (sl:List Sl) (sv:Value) (w:World) (hE:Ends w) (hT:ErrT w) (H:HSrc w h tv bv xv dv) (hnz:nm.size<=maxLen) (hr:Src w rv ps) (hzp:Sized ps) (hs:SlSrc w sv sl) (hzs:SlZ sl) :
  Calls Tryz.prog 3 #[.agg #[.int .i64 h.now,.int .i64 h.last,tv,bv,xv,dv],.string nm,rv,sv] w λe' w'=>e'=.returned (.bool true)/\Below w.heap.size w w':=by
 obtain⟨a1,c1,a2,c2,a3,c3,a4,c4,rfl,rfl,rfl,rfl⟩:=H.shapes;have Hx:Hid (RbSrc w (newB h nm ps sl) rv sv):=⟨hr,hs,hzp,hzs,hnz,AjN hzp⟩;have hnz':=hnz;unfold maxLen at hnz';obtain⟨r1,r2,erv⟩:=hr.shape;obtain⟨s1,s2,esv⟩:=hs.shape;subst erv esv;obtain⟨W1,hW1,kA,hB1,hs1⟩:=K6 w [.int .i64 h.now,.int .i64 h.last,.slice a1 h.sh.things.length c1,.slice a2 h.sh.bs.length c2,.slice a3 h.bs.length c3,.slice a4 h.ds.length c4] 29;by_cases hnl:1048576<nm.size
 ·go_enter Tryz.func3,Tryz.ntmps3
  go_upto_region 1 with fail
  try rw[hW1]
  go_wp2_with fail
  go_ret
  exact⟨rfl,hB1⟩
 go_enter Tryz.func3,Tryz.ntmps3
 go_upto_region 1 with fail
 try rw[hW1]
 clear hW1;obtain⟨p0,p1,p2,p3,p4,p5⟩:=kA.c6;go_wp2_with fail
 refine (AgO h _ _ _ _ _ _ (H.up hB1) (by omega) (by omega)).mono ?_;rintro e w2 ⟨⟨x,rfl,hx,hx9⟩,hb2⟩;have hz2:=hb2.size;have hB2:=D5 hB1 hb2;have kA2:=kA.up hb2 (by omega);clear p0 p1 p2 p3 p4 p5;clear kA hB1 hb2;by_cases hx0:x<0
 ·clear hx
  go_wp2_with fail
  go_ret
  exact⟨rfl,hB2⟩
 have hm:HSmall h:=hx (by omega);clear hx;have Hls:Hid (∀x∈h.bs,x.ps.length<=1048576/\x.sl.length<=1048576):=hm.lists;go_wp2_with fail
 refine (AgA ps _ x _ (by omega) hx9 (hr.up hB2) hzp).mono ?_;rintro e wa ⟨⟨xa,rfl,hxa,hxa9⟩,hba⟩;have hza:=hba.size;have hBa:=D5 hB2 hba;have kAa:=kA2.up hba (by omega);clear kA2 hB2 hba;by_cases hxa0:xa<0
 ·clear hxa
  go_wp2_with fail
  go_ret
  exact⟨rfl,hBa⟩
 have hnp:ps.length<=1048576:=by have:=hxa (by omega);omega
 clear hxa;go_wp2_with fail
 refine (Adl sl _ xa _ (by omega) hxa9 (hs.up hBa) hzs).mono ?_;rintro e wb ⟨⟨xb,rfl,hxb,hxb9⟩,hbb⟩;have hzb:=hbb.size;have hBb:=D5 hBa hbb;have kAb:=kAa.up hbb (by omega);clear kAa hBa hbb;by_cases hxb0:xb<0
 ·clear hxb
  go_wp2_with fail
  go_ret
  exact⟨rfl,hBb⟩
 have hns:sl.length<=1048576:=by have:=hxb (by omega);omega
 clear hxb hx9 hxa9 hxb9;obtain⟨p0,p1,p2,p3,p4,p5⟩:=kAb.c6;go_wp2_with fail
 refine (Aal h _ _ _ _ _ (H.up hBb) hm).mono ?_;rintro e w3 ⟨⟨tu,bu,b3,g3,l1,l2,rfl,hC3,-⟩,hb3⟩;have hz3:=hb3.size;have hB3:=D5 hBb hb3;clear p0 p1 p2 p3 p4 p5;go_wp2_with fail
 refine (Ab5 ps _ _ (hr.up hB3) hnp).mono ?_;rintro e wc ⟨⟨bp,rfl,hop,hbp⟩,hbc⟩;have hzc:=hbc.size;have hBc:=D5 hB3 hbc;have hpl:=hop.2.2;go_wp2_with fail
 refine (X8 sl _ _ (hs.up hBc) hns).mono ?_;rintro e wd ⟨⟨bq,rfl,hoq,hbq⟩,hbd⟩;have hzd:=hbd.size;have hRb:RbO wd w3.heap.size (newB h nm ps sl) bp bq:=⟨hop.up hbd,hoq,hbp,A1 hpl hbq⟩;have hRv:=hRb.v Hx.out hnp hns;have hCd:=hC3.up (D5 hbc hbd);go_wp2_with fail
 refine (AjC h _ _ _ _ nm ps sl _ _ _ (hCd.v H hm) hRv).mono ?_;rintro e w4 ⟨⟨hN,tw,bw,xw,dw,cd,rfl,hI,hf,hX4⟩,hb4⟩;have hz4:=hb4.size;have hb34:=D5 hb3 (D5 hbc (D5 hbd hb4));have hB4:=D5 hBb hb34;have kA4:=kAb.up hb34 (by omega);have hV4:=hX4.v;obtain⟨e1,f1,e2,f2,e3,f3,e4,f4,rfl,rfl,rfl,rfl⟩:=hV4.shapes;have HI:Hid (StartIs h nm ps sl cd hN):=hI;have Hf:Hid (Few hN):=hf;clear kAb hBb hb3 hb4 hb34 hC3 hX4 hI hf hop hoq hbc hbd hB3 hBc hCd hRb hRv hpl hbp hbq;go_upto_region 14 with fail
 obtain⟨W5,hW5,kW5,hb5,hs5⟩:=K6 w4 [.int .i64 hN.now,.int .i64 hN.last,.slice e1 hN.sh.things.length f1,.slice e2 hN.sh.bs.length f2,.slice e3 hN.bs.length f3,.slice e4 hN.ds.length f4] 41;try rw[hW5]
 clear hW5;have kA5:=kA4.up hb5 (by omega);have hV5:=hV4.up hb5;have hB5:=D5 hB4 hb5;have hE5:=hE.up hB5;have hT5:=hT.up hB5;clear kA4 hV4 hB4 hb5 hE hT;obtain⟨p0,p1,p2,p3,p4,p5⟩:=kA5.c6;go_wp2_with fail
 refine (Aal h _ _ _ _ _ (H.up hB5) hm).mono ?_;rintro e w6 ⟨⟨tu,bu,b5,g5,l1,l2,rfl,hC6,hR6⟩,hb6⟩;obtain⟨y1,y2,rfl,rfl⟩:=hR6.shp;have hz6:=hb6.size;clear p0 p1 p2 p3 p4 p5;go_upto_region 15 with fail
 obtain⟨W7,hW7,kX7,hb7,hs7⟩:=K6 w6 [.int .i64 h.now,.int .i64 h.last,.slice (some ⟨y1,0,none⟩) h.sh.things.length h.sh.things.length,.slice (some ⟨y2,0,none⟩) h.sh.bs.length h.sh.bs.length,.slice (some ⟨b5,0,none⟩) h.bs.length h.bs.length,.slice (some ⟨g5,0,none⟩) h.ds.length h.ds.length] 41;try rw[hW7]
 clear hW7;have hL7:=D5 hb6 hb7;have hC7:=hC6.up hb7;have hR7:=hR6.up hb7;clear hC6 hR6 hb6 hb7;go_wp2_with fail
 refine (Ab5 ps _ _ (hr.up (D5 hB5 hL7)) hnp).mono ?_;rintro e we ⟨⟨bx,rfl,hox,hbx⟩,hbe⟩;have hze:=hbe.size;have hLe:=D5 hL7 hbe;have hxl:=hox.2.2;go_wp2_with fail
 refine (X8 sl _ _ (hs.up (D5 hB5 hLe)) hns).mono ?_;rintro e wf ⟨⟨bs',rfl,hoy,hby'⟩,hbf⟩;have hzf:=hbf.size;have hyl:=hoy.2.2;have hLf:=D5 hLe hbf;have kXf:=kX7.up (D5 hbe hbf) (by omega);have hCf:=hC7.up (D5 hbe hbf);have hRf:=hR7.up (D5 hbe hbf);have hRb:RbO wf W7.heap.size (newB h nm ps sl) bx bs':=⟨hox.up hbf,hoy,hbx,A1 hxl hby'⟩;clear hL7 hLe kX7 hC7 hR7 hbe hbf hox hoy;obtain⟨p0,p1,p2,p3,p4,p5⟩:=kXf.c6;go_wp2_with fail
 refine (Ae2 h _ _ _ _ nm ps sl _ _ _ (hE5.up hLf) (hT5.up hLf) (hCf.v H hm) (hRb.v Hx.out hnp hns)).mono ?_;rintro e w8 ⟨⟨h2,tg,bg,xg,dg,cd2,rfl,hP,hX8⟩,hb8⟩;obtain⟨ec,eh⟩:=Afr HI.out hP;subst ec eh;have Hlit:Hid (LitH hN):=Aly hP Hf.out;clear hP;have hz8:=hb8.size;obtain⟨i1,j1,i2,j2,i3,j3,i4,j4,rfl,rfl,rfl,rfl⟩:=hX8.v.shapes;have hL8:=D5 hLf hb8;have kX8:=kXf.up hb8 (by omega);have hC8:=hCf.up hb8;have hR8:=hRf.up hb8;have hRb8:=hRb.up hb8;clear p0 p1 p2 p3 p4 p5;clear hLf kXf hCf hRf hRb hb8;go_upto_region 18 with fail
 obtain⟨W9,hW9,kG9,hb9,hs9⟩:∃W9,w8.alloc (.cells #[.int .i64 hN.now,.int .i64 hN.last,.slice i1 hN.sh.things.length j1,.slice i2 hN.sh.bs.length j2,.slice i3 hN.bs.length j3,.slice i4 hN.ds.length j4] 41)=W9/\W9.ownsRow wf.heap.size 41 6 (.slice (some ⟨w8.heap.size,0,none⟩) 1 1) 1 [.int .i64 hN.now,.int .i64 hN.last,.slice i1 hN.sh.things.length j1,.slice i2 hN.sh.bs.length j2,.slice i3 hN.bs.length j3,.slice i4 hN.ds.length j4]/\Below w8.heap.size w8 W9/\W9.heap.size=w8.heap.size+1:=⟨_,rfl,B8 w8 _ 1 (by omega) (by unfold maxLen;omega) rfl,(cb1 w8 [.int .i64 hN.now,.int .i64 hN.last,.slice i1 hN.sh.things.length j1,.slice i2 hN.sh.bs.length j2,.slice i3 hN.bs.length j3,.slice i4 hN.ds.length j4] _).2⟩;try rw[hW9]
 clear hW9;have hL9:=D5 hL8 hb9;have kX9:=kX8.up hb9 (by omega);have hC9:=hC8.up hb9;have hR9:=hR8.up hb9;have hRb9:=hRb8.up hb9;have hG9:=hX8.up hb9;have kW9:=kW5.up hL9 (by omega);clear hL8 kX8 hC8 hR8 hRb8 hX8 hb9;obtain⟨p0,p1,p2,p3,p4,p5⟩:=(D8 kG9).c6;obtain⟨q0,q1,q2,q3,q4,q5⟩:=kW9.c6;go_wp2_with fail
 refine (Aai hN _ _ _ _ _ _ _ _ _ hG9.v (hV5.up hL9)).mono ?_;rintro e wA ⟨rfl,hbA⟩;have hzA:=hbA.size;have hLA:=D5 hL9 hbA;have kXA:=kX9.up hbA (by omega);have kGA:=E0 kG9 hbA;have hCA:=hC9.up hbA;have hRA:=hR9.up hbA;have hRbA:=hRb9.up hbA;have hGA:=hG9.up hbA;have kAA:=kA5.up hLA (by omega);clear p0 p1 p2 p3 p4 p5;clear q0 q1 q2 q3 q4 q5;clear kW9 hL9 kX9 kG9 hC9 hR9 hRb9 hG9 hbA;obtain⟨p0,p1,p2,p3,p4,p5⟩:=kAA.c6;obtain⟨q0,q1,q2,q3,q4,q5⟩:=kXA.c6;have hS0:Below wA.heap.size wA wA/\wA.cell? ⟨w.heap.size,0,none⟩=some (.int .i64 h.now)/\wA.cell? ⟨w.heap.size,1,none⟩=some (.int .i64 h.last)/\wA.cell? ⟨w.heap.size,2,none⟩=some (.slice a1 h.sh.things.length c1)/\wA.cell? ⟨w.heap.size,3,none⟩=some (.slice a2 h.sh.bs.length c2)/\wA.cell? ⟨w.heap.size,4,none⟩=some (.slice a3 h.bs.length c3)/\wA.cell? ⟨w.heap.size,5,none⟩=some (.slice a4 h.ds.length c4)/\wA.cell? ⟨w6.heap.size,0,none⟩=some (.int .i64 h.now)/\wA.cell? ⟨w6.heap.size,1,none⟩=some (.int .i64 h.last)/\wA.cell? ⟨w6.heap.size,2,none⟩=some (.slice (some ⟨y1,0,none⟩) h.sh.things.length h.sh.things.length)/\wA.cell? ⟨w6.heap.size,3,none⟩=some (.slice (some ⟨y2,0,none⟩) h.sh.bs.length h.sh.bs.length)/\wA.cell? ⟨w6.heap.size,4,none⟩=some (.slice (some ⟨b5,0,none⟩) h.bs.length h.bs.length)/\wA.cell? ⟨w6.heap.size,5,none⟩=some (.slice (some ⟨g5,0,none⟩) h.ds.length h.ds.length):=⟨A4 _ _,p0,p1,p2,p3,p4,p5,q0,q1,q2,q3,q4,q5⟩;have hq6:w6.heap.size<wA.heap.size:=by omega
 have hq0:w.heap.size<wA.heap.size:=by omega
 have hBA:=D5 hB5 hLA;clear p0 p1 p2 p3 p4 p5;clear q0 q1 q2 q3 q4 q5;go_wp2_with fail
 go_region_held (λw'=>Below wA.heap.size wA w'/\w'.cell? ⟨w.heap.size,0,none⟩=some (.int .i64 h.now)/\w'.cell? ⟨w.heap.size,1,none⟩=some (.int .i64 h.last)/\w'.cell? ⟨w.heap.size,2,none⟩=some (.slice a1 h.sh.things.length c1)/\w'.cell? ⟨w.heap.size,3,none⟩=some (.slice a2 h.sh.bs.length c2)/\w'.cell? ⟨w.heap.size,4,none⟩=some (.slice a3 h.bs.length c3)/\w'.cell? ⟨w.heap.size,5,none⟩=some (.slice a4 h.ds.length c4)/\w'.cell? ⟨w6.heap.size,0,none⟩=some (.int .i64 h.now)/\w'.cell? ⟨w6.heap.size,1,none⟩=some (.int .i64 h.last)/\w'.cell? ⟨w6.heap.size,2,none⟩=some (.slice (some ⟨y1,0,none⟩) h.sh.things.length h.sh.things.length)/\w'.cell? ⟨w6.heap.size,3,none⟩=some (.slice (some ⟨y2,0,none⟩) h.sh.bs.length h.sh.bs.length)/\w'.cell? ⟨w6.heap.size,4,none⟩=some (.slice (some ⟨b5,0,none⟩) h.bs.length h.bs.length)/\w'.cell? ⟨w6.heap.size,5,none⟩=some (.slice (some ⟨g5,0,none⟩) h.ds.length h.ds.length)) (first|exact Ame hS0|exact k12_up hq0 hq6 (by assumption) (by assumption))
  (first
   | (go_at_call 8;refine (Aal h _ _ _ _ _ (H.up hBA.drew) hm).mono ?_;rintro e' wz ⟨⟨r1,r2,r3,r4,r5,r6,rfl,hCz,hRz⟩,hbz⟩;have hxz:=(hCA.up (A4 _ _).drew).up hbz;obtain⟨z1,z2,rfl,rfl⟩:=hRz.shp)
   | (go_at_call 12;refine (Aai h _ _ _ _ _ _ _ _ _ (hxz.v H hm) (hCz.v H hm)).mono ?_;rintro e' wB ⟨rfl,hby⟩))
 rename_i hHeld;have hbB:=hHeld.1;clear hHeld hS0 hxz hCz hRz hbz hby;have hBB:=D5 hBA hbB;have hRbB:=hRbA.up hbB;go_wp2_with fail
 refine (Ab5 ps _ _ (hr.up hBB) hnp).mono ?_;rintro e wg ⟨⟨b7,rfl,ho7,-⟩,hbg⟩;have hRg:=hRbB.up hbg;go_wp2_with fail
 refine (Afl ps bx 0 b7 0 _ _ _ hRg.r.1 hRg.r.2.2 ho7.1 ho7.2.2 hnp).mono ?_;rintro e wh ⟨rfl,hbh⟩;have hBgh:=D5 hbB (D5 hbg hbh);have hRh:=hRg.up hbh;clear hRbB hRg ho7;go_wp2_with fail
 refine (X8 sl _ _ (hs.up (D5 hBA hBgh)) hns).mono ?_;rintro e wi ⟨⟨b8,rfl,ho8,-⟩,hbi⟩;have hRi:=hRh.up hbi;go_wp2_with fail
 refine (Afm sl bs' 0 b8 0 _ _ _ hRi.s.1 hRi.s.2.2 ho8.1 ho8.2.2 hns).mono ?_;rintro e wj ⟨rfl,hbj⟩;have hbJ:=D5 hBgh (D5 hbi hbj);have hRj:=hRi.up hbj;clear hbB hBB hbg hbh hBgh hRh ho8 hbi hbj hRi hRbA;have hzB:=hbJ.size;have hLB:=D5 hLA hbJ;have kXB:=kXA.up hbJ (by omega);have kGB:=E0 kGA hbJ;have hRB:=hRA.up hbJ;have hGB:=hGA.up hbJ;clear hLA kXA kGA hCA hRA hGA kAA hBA hbJ;obtain⟨p0,p1,p2,p3,p4,p5⟩:=kXB.c6;go_wp2_with fail
 refine (AeF h _ _ _ _ _ _ _ _ _ hRB hm.k hm.n Hls.out hm.d).mono ?_;rintro e wC ⟨⟨mk,rfl,hk1,hk9⟩,hO⟩;have hzC:=hO.2.2.2.1;have hLC:Below W5.heap.size W5 wC:=hLB.trans (hO.below (by omega));have kGC:=V0 kGB hO (by omega);have hGC:=hGB.outw hO (by omega);have hthx:=T8 hRj.r.2.1 hO (by omega) (by omega);have hthy:=T8 hRj.s.2.1 hO (by omega) (by omega);clear p0 p1 p2 p3 p4 p5;clear kXB kGB hRB hGB hLB hO hRj;go_wp2_with fail
 refine (Aep ps.length bx _ mk wC hthx (by omega) hnp hk1 (by omega)).mono ?_;rintro e wM ⟨rfl,hgM,htM⟩;have hzM:=hgM.size;have hLM:Below W5.heap.size W5 wM:=hLC.trans (Aco hgM (by omega) (λk e=>by cases e;omega));have kGM:=E6 kGC hgM (by omega);have hGM:=hGC.gr hgM (by omega);have hthy2:=htM _ _ (by omega) hthy;clear hLC kGC hGC hthx hthy hgM htM;go_wp2_with fail
 refine (Aeq sl.length bs' _ (mk+8*ps.length) wM hthy2 (by omega) hns (by omega) (by omega)).mono ?_;rintro e wN ⟨rfl,hgN,-⟩;have hzN:=hgN.size;have hLN:Below W5.heap.size W5 wN:=hLM.trans (Aco hgN (by omega) (λk e=>by cases e;omega));have kGN:=E6 kGM hgN (by omega);have hGN:=hGM.gr hgN (by omega);have kWN:=kW5.up hLN (by omega);clear hLM kGM hGM hthy2 hgN;obtain⟨p0,p1,p2,p3,p4,p5⟩:=(D8 kGN).c6;obtain⟨q0,q1,q2,q3,q4,q5⟩:=kWN.c6;obtain⟨mz,hmz⟩:∃mz:Int,mz=mk+8*ps.length+2*sl.length:=⟨_,rfl⟩;rw[← hmz];have hkb:decide (mz<0)=false:=by simp;omega
 clear hmz;go_wp2_with fail
 refine (Aai hN _ _ _ _ _ _ _ _ _ hGN.v (hV5.up hLN)).mono ?_;rintro e wD ⟨rfl,hbD⟩;have hzD:=hbD.size;have hLD:=D5 hLN hbD;have kGD:=E0 kGN hbD;have hGD:=hGN.up hbD;clear p0 p1 p2 p3 p4 p5;clear q0 q1 q2 q3 q4 q5;clear kWN kGN hGN hLN hbD;obtain⟨p0,p1,p2,p3,p4,p5⟩:=(D8 kGD).c6;go_wp2_with fail
 refine (Af4 hN wf.heap.size _ _ _ _ _ hGD.q Hlit.out (by omega)).mono ?_;rintro e wE ⟨rfl,hFE,hbE,hkE⟩;have hzE:=hbE.size;have hLE:Below W5.heap.size W5 wE:=hLD.trans (hbE.mono (by omega));have kGE:wE.ownsRow wf.heap.size 41 6 (.slice (some ⟨w8.heap.size,0,none⟩) 1 1) 1 [.int .i64 hN.now,.int .i64 hN.last,.slice i1 hN.sh.things.length j1,.slice i2 hN.sh.bs.length j2,.slice i3 hN.bs.length j3,.slice i4 hN.ds.length j4]:=hkE _ _ _ _ _ _ (by decide) kGD;have hme:=Am8 hN;clear p0 p1 p2 p3 p4 p5;clear kGD hGD hLD hbE hkE;obtain⟨p0,p1,p2,p3,p4,p5⟩:=(D8 kGE).c6;go_wp2_with fail
 refine (Acu hN wf.heap.size _ _ _ _ _ hFE Hlit.out).mono ?_;rintro e wF ⟨rfl,hbF⟩;have hzF:=hbF.size;have hLF:=D5 hLE hbF;have kGF:=E0 kGE hbF;have hFF:=hFE.up hbF;have hBF:=D5 hB5 hLF;have kAF:=kA5.up hLF (by omega);clear p0 p1 p2 p3 p4 p5;clear kGE hFE hLE hbF;obtain⟨p0,p1,p2,p3,p4,p5⟩:=kAF.c6;have hn1:¬endH hN<0:=by omega
 go_wp2_with fail
 refine (Aal h _ _ _ _ _ (H.up hBF) hm).mono ?_;rintro e wG ⟨⟨tu,bu,b6,g6,l3,l4,rfl,hCG,hRG⟩,hbG⟩;obtain⟨z1,z2,rfl,rfl⟩:=hRG.shp;clear p0 p1 p2 p3 p4 p5;have hBG:=D5 hBF hbG;go_wp2_with fail
 refine (Ab5 ps _ _ (hr.up hBG) hnp).mono ?_;rintro e wP ⟨⟨bp,rfl,hop,hbp⟩,hbP⟩;have hpl:=hop.2.2;have hBP:=D5 hBG hbP;go_wp2_with fail
 refine (X8 sl _ _ (hs.up hBP) hns).mono ?_;rintro e wQ ⟨⟨bq,rfl,hoq,hbq⟩,hbQ⟩;have hRb:RbO wQ wG.heap.size (newB h nm ps sl) bp bq:=⟨hop.up hbQ,hoq,hbp,A1 hpl hbq⟩;have hbFQ:=D5 hbG (D5 hbP hbQ);have hCQ:=hCG.up (D5 hbP hbQ);have hLG:=D5 hLF hbFQ;have kGG:=E0 kGF hbFQ;have hFG:=hFF.up hbFQ;clear kAF kGF hFF hLF hbG hBF hRG hBG hbP hBP hop hoq hbQ hbFQ hCG;go_wp2_with fail
 refine (Ae2 h _ _ _ _ nm ps sl _ _ _ (hE5.up hLG) (hT5.up hLG) (hCQ.v H hm) (hRb.v Hx.out hnp hns)).mono ?_;rintro e wH ⟨⟨h3,tz,bz,xz,dz,cd3,rfl,hP,hXH⟩,hbH⟩;obtain⟨ec,eh⟩:=Afr HI.out hP;subst ec eh;clear hP;obtain⟨m1,n1,m2,n2,m3,n3,m4,n4,rfl,rfl,rfl,rfl⟩:=hXH.v.shapes;have hzH:=hbH.size;have hLH:=D5 hLG hbH;have kGH:=E0 kGG hbH;have hFH:=hFG.up hbH;have hVH:=hXH.v;clear hCQ hRb hLG kGG hFG hbH hXH;go_upto_region 41 with fail
 obtain⟨W0,hW0,kH0,hb0,hs0⟩:=K6 wH [.int .i64 hN.now,.int .i64 hN.last,.slice m1 hN.sh.things.length n1,.slice m2 hN.sh.bs.length n2,.slice m3 hN.bs.length n3,.slice m4 hN.ds.length n4] 41;try rw[hW0]
 clear hW0;have hL0:=D5 hLH hb0;have kG0:=E0 kGH hb0;have hF0:=hFH.up hb0;have hh0:=hVH.up hb0;have kW0:=kW5.up hL0 (by omega);clear hLH kGH hFH hVH hb0;obtain⟨p0,p1,p2,p3,p4,p5⟩:=kH0.c6;obtain⟨q0,q1,q2,q3,q4,q5⟩:=kW0.c6;go_wp2_with fail
 refine (Aai hN _ _ _ _ _ _ _ _ _ hh0 (hV5.up hL0)).mono ?_;rintro e wJ ⟨rfl,hbJ⟩;have hLJ:=D5 hL0 hbJ;have kGJ:=E0 kG0 hbJ;have hFJ:=hF0.up hbJ;clear p0 p1 p2 p3 p4 p5;clear q0 q1 q2 q3 q4 q5;clear kW0 kH0 hL0 kG0 hF0 hh0 hbJ;obtain⟨p0,p1,p2,p3,p4,p5⟩:=(D8 kGJ).c6;go_wp2_with fail
 refine (Acu hN wf.heap.size _ _ _ _ _ hFJ Hlit.out).mono ?_;rintro e wK ⟨rfl,hbK⟩;have hBK:=D5 hB5 (D5 hLJ hbK);clear p0 p1 p2 p3 p4 p5;go_wp2_with fail
 go_ret
 exact⟨rfl,hBK⟩
end Go.Proofs.YtgecdacgmehmbaaGreatDoor
