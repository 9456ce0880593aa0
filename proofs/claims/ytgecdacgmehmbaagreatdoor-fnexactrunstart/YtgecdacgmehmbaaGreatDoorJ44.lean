/- Houses as they are handed to a law: lists of batches that are alike; their sizes. -/
import Derived.Test.YtgecdacgmehmbaaGreatDoorJ41
import Derived.Test.YtgecdacgmehmbaaGreatDoorJ19
import Derived.Test.YtgecdacgmehmbaaGreatDoorJ36
import Derived.Test.YtgecdacgmehmbaaGreatDoorJ17
import Derived.Test.YtgecdacgmehmbaaGreatDoorJ38
import Derived.Test.YtgecdacgmehmbaaGreatDoorJ22
import Derived.Test.YtgecdacgmehmbaaGreatDoorJ21
import Derived.Test.YtgecdacgmehmbaaGreatDoorKre
import Derived.Test.YtgecdacgmehmbaaGreatDoorKt9
set_option maxRecDepth 20000
set_option maxHeartbeats 4000000
namespace Go.Proofs.YtgecdacgmehmbaaGreatDoor
open Go.RowKit
theorem RsO.rbs {w W:World} {b:Nat} {bs:List Rb} {v:Value} (h:RsO w b bs) (hb:b<w.heap.size) (hs:RsSrc W v bs) (hsm:RsSmall bs bs.length):Rbs w (.slice (some ⟨b,0,none⟩) bs.length bs.length) bs:=by
 obtain⟨a,c,-,hm,hpos⟩:=hs;refine⟨_,_,rfl,hm,λhp=>⟨b,0,rfl,λi x hx=>?_,hb⟩⟩;obtain⟨b1,b2,hr,ho⟩:=h i x hx;obtain⟨g,o,-,hat,-⟩:=hpos hp;obtain⟨rv,sv,-,hsrc⟩:=hat i x hx;obtain⟨np,ns⟩:=hsm i x (A2.1 hx).1 hx;exact⟨_,_,by rw[Nat.zero_add];exact hr,ho.v hsrc np ns⟩
structure HSrc (w:World) (h:House) (tv bv xv dv:Value):Prop where
 t:Ls w tv h.sh.things
 b:Bs w bv h.sh.bs
 x:RsSrc w xv h.bs
 d:Dns w dv h.ds
theorem HSrc.up {w w':World} {h:House} {tv bv xv dv:Value} (H:HSrc w h tv bv xv dv) (hb:Below w.heap.size w w'):HSrc w' h tv bv xv dv:=⟨H.t.up hb,H.b.up hb,H.x.up hb,H.d.up hb⟩
theorem HSrc.shapes {w:World} {h:House} {tv bv xv dv:Value} (H:HSrc w h tv bv xv dv):∃a1 c1 a2 c2 a3 c3 a4 c4,tv=.slice a1 h.sh.things.length c1/\bv=.slice a2 h.sh.bs.length c2/\xv=.slice a3 h.bs.length c3/\dv=.slice a4 h.ds.length c4:=by
 obtain⟨a1,c1,e1,-⟩:=H.t;obtain⟨a2,c2,e2,-⟩:=H.b;obtain⟨a3,c3,e3,-⟩:=H.x;obtain⟨a4,c4,e4,-⟩:=H.d;exact⟨a1,c1,a2,c2,a3,c3,a4,c4,e1,e2,e3,e4⟩
theorem HSrc.book {w:World} {h:House} {tv bv xv dv:Value} (H:HSrc w h tv bv xv dv):BkV w (.agg #[tv,bv]) h.sh:=⟨tv,bv,rfl,H.t,H.b⟩
structure HSmall (h:House):Prop where
 k:Small h.sh
 n:h.bs.length<=1048576
 x:RsSmall h.bs h.bs.length
 d:h.ds.length<=1048576
structure HC (w:World) (h:House) (tv bv:Value) (b:Nat) (dv:Value):Prop where
 t:Ls w tv h.sh.things
 k:Bs w bv h.sh.bs
 x:RsO w b h.bs
 l:b<w.heap.size
 d:Dns w dv h.ds
theorem HC.up {w w':World} {h:House} {tv bv dv:Value} {b:Nat} (H:HC w h tv bv b dv) (hb:Below w.heap.size w w'):HC w' h tv bv b dv:=⟨H.t.up hb,H.k.up hb,H.x.up hb H.l,A1 H.l hb.size,H.d.up hb⟩
theorem HC.v {w W:World} {h:House} {tv bv dv tv' bv' xv' dv':Value} {b:Nat} (H:HC w h tv bv b dv) (hs:HSrc W h tv' bv' xv' dv') (hm:HSmall h):HV w h tv bv (.slice (some ⟨b,0,none⟩) h.bs.length h.bs.length) dv:=⟨H.t,H.k,H.x.rbs H.l hs.x hm.x,H.d⟩
theorem AgO (h:House) (tv bv xv dv:Value) (l:Int) (w:World) (H:HSrc w h tv bv xv dv) (hl:0<=l) (hl':l<=1048576) :
  Calls Tryz.prog 4 #[.agg #[.int .i64 h.now,.int .i64 h.last,tv,bv,xv,dv],.int .i64 l] w λe' w'=>(∃x:Int,e'=.returned (.int .i64 x)/\(0<=x->HSmall h)/\x<=1048576)/\Below w.heap.size w w':=by
 obtain⟨a1,c1,a2,c2,a3,c3,a4,c4,rfl,rfl,rfl,rfl⟩:=H.shapes;have hB0:=(A4 w.heap.size w).alloc (A3 _) (.cells #[.int .i64 h.now,.int .i64 h.last,.slice a1 h.sh.things.length c1,.slice a2 h.sh.bs.length c2,.slice a3 h.bs.length c3,.slice a4 h.ds.length c4] 29);have hC:CB (w.alloc (.cells #[.int .i64 h.now,.int .i64 h.last,.slice a1 h.sh.things.length c1,.slice a2 h.sh.bs.length c2,.slice a3 h.bs.length c3,.slice a4 h.ds.length c4] 29)) w.heap.size [.int .i64 h.now,.int .i64 h.last,.slice a1 h.sh.things.length c1,.slice a2 h.sh.bs.length c2,.slice a3 h.bs.length c3,.slice a4 h.ds.length c4]:=E8 w _ _;go_enter Tryz.func4,Tryz.ntmps4
 go_upto_region 1 with fail
 generalize w.alloc (.cells #[.int .i64 h.now,.int .i64 h.last,.slice a1 h.sh.things.length c1,.slice a2 h.sh.bs.length c2,.slice a3 h.bs.length c3,.slice a4 h.ds.length c4] 29)=W1 at *;have hlt:=hC.2.2;have H1:=H.up hB0;clear H;obtain⟨d0,d1,d2,d3,d4,d5⟩:=hC.c6;go_wp2_with fail
 refine (AiY h.sh _ _ _ H1.book hl hl').mono ?_;rintro e w2 ⟨⟨y2,rfl,hy2,hk2⟩,hB2⟩;have hB02:=D5 hB0 hB2;clear d0 d1 d2 d3 d4 d5;by_cases g2:y2<0
 ·go_wp2_with fail
  go_ret
  exact⟨⟨_,rfl,by omega,by omega⟩,hB02⟩
 have K2:Hid (Small h.sh):=hk2 (by omega);clear hk2;obtain⟨d0,d1,d2,d3,d4,d5⟩:=(hC.up hB2 hlt).c6;go_wp2_with fail
 refine (AkZ h.bs _ _ _ (by omega) (by omega) (H1.x.up hB2)).mono ?_;rintro e w3 ⟨⟨y3,rfl,hy3,hm3⟩,hB3⟩;have hB03:=D5 hB02 hB3;clear d0 d1 d2 d3 d4 d5;by_cases g3:y3<0
 ·go_wp2_with fail
  go_ret
  exact⟨⟨_,rfl,by omega,by omega⟩,hB03⟩
 have K3:Hid ((h.bs.length:Int)<=y2/\RsSmall h.bs h.bs.length):=hy3 (by omega);clear hy3;obtain⟨d0,d1,d2,d3,d4,d5⟩:=(hC.up (D5 hB2 hB3) hlt).c6;go_wp2_with fail
 refine (AhC h.ds _ _ _ (by omega) (by omega) (H1.d.up (D5 hB2 hB3))).mono ?_;rintro e w4 ⟨⟨y4,rfl,hy4,hm4⟩,hB4⟩;have hB04:=D5 hB03 hB4;clear d0 d1 d2 d3 d4 d5;by_cases g4:y4<0
 ·go_wp2_with fail
  go_ret
  exact⟨⟨_,rfl,by omega,by omega⟩,hB04⟩
 have K4:Hid (HSmall h):=⟨K2.out,by have:=K3.out.1;omega,K3.out.2,by have:=hy4 (by omega);omega⟩;clear hy4;go_wp2_with fail
 go_ret
 exact⟨⟨_,rfl,λ_=>K4.out,hm4⟩,hB04⟩
theorem Afl (ps:List Ph) (b o b2 o2 cA cB:Nat) (w:World) (hr:RecAt w b o ps) (hb:b<w.heap.size) (hr2:RecAt w b2 o2 ps) (hb2:b2<w.heap.size) (hn:ps.length<=1048576) :
  Calls Tryz.prog 13 #[.slice (some ⟨b,o,none⟩) ps.length cA,.slice (some ⟨b2,o2,none⟩) ps.length cB] w λe w'=>e=.returned (.bool true)/\Below w.heap.size w w':=by
 go_enter Tryz.func13,Tryz.ntmps13
 go_wp2
 go_loopw [5] (λi w'=>∃k:Nat,k<=ps.length/\i=.int .i64 k/\Below w.heap.size w w') (λi _=>ps.length-(intOf i).toNat)
 case atStart=>exact⟨0,by omega,rfl,A4 _ _⟩
 case round =>
  obtain⟨k,hk,rfl,hB⟩:=hrel;by_cases hp:k<ps.length
  ·obtain⟨c0,c1,c2,c3,c4,c5,c6,c7⟩:=hr.cells k hp
   obtain⟨d0,d1,d2,d3,d4,d5,d6,d7⟩:=hr2.cells k hp;obtain⟨hc,hf⟩:=E2 hB;go_wp2_with fail
   go_region_with (go_at_call 44;refine (Ahh _ _ _ _ _ _ _ _ _).mono ?_;rintro e w1 ⟨rfl,hb1⟩)
   all_goals
    have hB1:=D5 hB.drew hb1;clear hc hf c0 c1 c2 c3 c4 c5 c6 c7 d0 d1 d2 d3 d4 d5 d6 d7;go_wp2_with fail
    go_roundw
    case rel=>exact⟨k+1,by omega,by go_num,hB1⟩
    case measure=>simp[intOf];omega
  ·go_wp2_with fail
   go_ret
   exact⟨rfl,hB⟩
theorem Afm (l:List Sl) (b o b2 o2 cA cB:Nat) (w:World) (hr:SlAt w b o l) (hb:b<w.heap.size) (hr2:SlAt w b2 o2 l) (hb2:b2<w.heap.size) (hn:l.length<=1048576) :
  Calls Tryz.prog 14 #[.slice (some ⟨b,o,none⟩) l.length cA,.slice (some ⟨b2,o2,none⟩) l.length cB] w λe w'=>e=.returned (.bool true)/\Below w.heap.size w w':=by
 go_enter Tryz.func14,Tryz.ntmps14
 go_wp2
 go_loopw [5] (λi w'=>∃k:Nat,k<=l.length/\i=.int .i64 k/\Below w.heap.size w w') (λi _=>l.length-(intOf i).toNat)
 case atStart=>exact⟨0,by omega,rfl,A4 _ _⟩
 case round =>
  obtain⟨k,hk,rfl,hB⟩:=hrel;by_cases hp:k<l.length
  ·obtain⟨c0,c1⟩:=hr.cells k hp
   obtain⟨d0,d1⟩:=hr2.cells k hp;obtain⟨hc,hf⟩:=E2 hB;generalize l[k]=s0 at *;go_wp2_with fail
   go_region_with (go_at_call 45;refine (Ajk s0 _).mono ?_;rintro e w1 ⟨rfl,hb1⟩)
   all_goals
    have hB1:=D5 hB.drew hb1;clear hc hf c0 c1 d0 d1;go_wp2_with fail
    go_roundw
    case rel=>exact⟨k+1,by omega,by go_num,hB1⟩
    case measure=>simp[intOf];omega
  ·go_wp2_with fail
   go_ret
   exact⟨rfl,hB⟩
theorem RbV.opened {w:World} {x:Rb} {p q c g r d:Nat} (h:RbV w x (.slice (some ⟨p,q,none⟩) x.ps.length c) (.slice (some ⟨g,r,none⟩) x.sl.length d)):RecAt w p q x.ps/\p<w.heap.size/\SlAt w g r x.sl/\g<w.heap.size:=by
 obtain⟨p',q',c',e,h1,h2,-⟩:=h.r;obtain⟨g',r',d',e',h3,h4⟩:=h.s;simp only[Value.slice.injEq,Option.some.injEq,Addr.mk.injEq] at e e';obtain⟨⟨rfl,rfl,-⟩,-,rfl⟩:=e;obtain⟨⟨rfl,rfl,-⟩,-,rfl⟩:=e';exact⟨h1,h2,h3,h4⟩
theorem All (x:Rb) (p q c g r d p' q' c' g' r' d':Nat) (w:World) (h:RbV w x (.slice (some ⟨p,q,none⟩) x.ps.length c) (.slice (some ⟨g,r,none⟩) x.sl.length d)) (h':RbV w x (.slice (some ⟨p',q',none⟩) x.ps.length c') (.slice (some ⟨g',r',none⟩) x.sl.length d')) :
  Calls Tryz.prog 89 #[.agg #[.string x.nm,.slice (some ⟨p,q,none⟩) x.ps.length c,.slice (some ⟨g,r,none⟩) x.sl.length d,.string x.ad,.int .i64 x.si,.int .i64 x.st],.agg #[.string x.nm,.slice (some ⟨p',q',none⟩) x.ps.length c',.slice (some ⟨g',r',none⟩) x.sl.length d',.string x.ad,.int .i64 x.si,.int .i64 x.st]] w λe w'=>e=.returned (.bool true)/\Below w.heap.size w w':=by
 have np:=h.np;have ns:=h.ns;go_enter Tryz.func89,Tryz.ntmps89
 go_upto_region 1 with fail
 obtain⟨W1,hW1,kP,kR,hB1,hs1⟩:=L8 w [.string x.nm,.slice (some ⟨p,q,none⟩) x.ps.length c,.slice (some ⟨g,r,none⟩) x.sl.length d,.string x.ad,.int .i64 x.si,.int .i64 x.st] 71 [.string x.nm,.slice (some ⟨p',q',none⟩) x.ps.length c',.slice (some ⟨g',r',none⟩) x.sl.length d',.string x.ad,.int .i64 x.si,.int .i64 x.st] 71;rw[hW1];clear hW1;obtain⟨d0,d1,d2,d3,d4,d5⟩:=kP.c6;obtain⟨e0,e1,e2,e3,e4,e5⟩:=kR.c6;obtain⟨o1,l1,-,-⟩:=(h.up hB1).opened;obtain⟨o2,l2,-,-⟩:=(h'.up hB1).opened;go_wp2_with fail
 refine (Afl x.ps p q p' q' _ _ _ o1 l1 o2 l2 np).mono ?_;rintro e w2 ⟨rfl,hB2⟩;have hB12:=D5 hB1 hB2;clear d0 d1 d2 d3 d4 d5 e0 e1 e2 e3 e4 e5 o1 o2 l1 l2;obtain⟨d0,d1,d2,d3,d4,d5⟩:=(kP.up hB2 (by omega)).c6;obtain⟨e0,e1,e2,e3,e4,e5⟩:=(kR.up hB2 (by omega)).c6;obtain⟨-,-,o1,l1⟩:=(h.up hB12).opened;obtain⟨-,-,o2,l2⟩:=(h'.up hB12).opened;go_wp2_with fail
 refine (Afm x.sl g r g' r' _ _ _ o1 l1 o2 l2 ns).mono ?_;rintro e w3 ⟨rfl,hB3⟩;have hB13:=D5 hB12 hB3;clear d0 d1 d2 d3 d4 d5 e0 e1 e2 e3 e4 e5 o1 o2 l1 l2;obtain⟨d0,d1,d2,d3,d4,d5⟩:=(kP.up (D5 hB2 hB3) (by omega)).c6;obtain⟨e0,e1,e2,e3,e4,e5⟩:=(kR.up (D5 hB2 hB3) (by omega)).c6;go_wp2_with fail
 go_ret
 exact⟨rfl,hB13⟩
theorem AjD (bs:List Rb) (va vb:Value) (w:World) (h1:Rbs w va bs) (h2:Rbs w vb bs) :
  Calls Tryz.prog 42 #[va,vb] w λe w'=>e=.returned (.bool true)/\Below w.heap.size w w':=by
 obtain⟨a1,k1,rfl,hmax,hp1⟩:=h1;obtain⟨a2,k2,rfl,-,hp2⟩:=h2;unfold maxLen at hmax;go_enter Tryz.func42,Tryz.ntmps42
 go_wp2
 go_loopw [5] (λi w'=>∃k:Nat,k<=bs.length/\i=.int .i64 k/\Below w.heap.size w w') (λi _=>bs.length-(intOf i).toNat)
 case atStart=>exact⟨0,by omega,rfl,A4 _ _⟩
 case round =>
  obtain⟨k,hk,rfl,hB⟩:=hrel;by_cases hp:k<bs.length
  ·obtain⟨b1,o1,e1,hr1,hb1⟩:=hp1 (by omega)
   obtain⟨b2,o2,e2,hr2,hb2⟩:=hp2 (by omega);subst e1 e2;obtain⟨p,q,c,g,r,d,⟨c0,c1,c2,c3,c4,c5⟩,ho1⟩:=((hr1.up hB hb1).at hp).open;obtain⟨p',q',c',g',r',d',⟨d0,d1,d2,d3,d4,d5⟩,ho2⟩:=((hr2.up hB hb2).at hp).open;generalize bs[k]=x0 at *;have Ho1:Hid (RbV wr x0 (.slice (some ⟨p,q,none⟩) x0.ps.length c) (.slice (some ⟨g,r,none⟩) x0.sl.length d)):=ho1;have Ho2:Hid (RbV wr x0 (.slice (some ⟨p',q',none⟩) x0.ps.length c') (.slice (some ⟨g',r',none⟩) x0.sl.length d')):=ho2;clear ho1 ho2 hp1 hp2 hr1 hr2;go_wp2_with fail
   go_region_with (go_at_call 89;refine (All x0 p q c g r d p' q' c' g' r' d' _ (Ho1.out.up (A4 _ _).drew) (Ho2.out.up (A4 _ _).drew)).mono ?_;rintro e w1 ⟨rfl,hbx⟩)
   all_goals
    have hB1:=D5 hB.drew hbx;clear c0 c1 c2 c3 c4 c5 d0 d1 d2 d3 d4 d5;go_wp2_with fail
    go_roundw
    case rel=>exact⟨k+1,by omega,by go_num,hB1⟩
    case measure=>simp[intOf];omega
  ·go_wp2_with fail
   go_ret
   exact⟨rfl,hB⟩
theorem Aai (h:House) (t1 k1 x1 d1 t2 k2 x2 d2:Value) (w:World) (H1:HV w h t1 k1 x1 d1) (H2:HV w h t2 k2 x2 d2) :
  Calls Tryz.prog 12 #[.agg #[.int .i64 h.now,.int .i64 h.last,t1,k1,x1,d1],.agg #[.int .i64 h.now,.int .i64 h.last,t2,k2,x2,d2]] w λe w'=>e=.returned (.bool true)/\Below w.heap.size w w':=by
 obtain⟨a1,c1,a2,c2,a3,c3,a4,c4,rfl,rfl,rfl,rfl⟩:=H1.shapes;obtain⟨a5,c5,a6,c6,a7,c7,a8,c8,rfl,rfl,rfl,rfl⟩:=H2.shapes;go_enter Tryz.func12,Tryz.ntmps12
 go_upto_region 1 with fail
 obtain⟨W1,hW1,kP,kR,hB1,hs1⟩:=L8 w [.int .i64 h.now,.int .i64 h.last,.slice a1 h.sh.things.length c1,.slice a2 h.sh.bs.length c2,.slice a3 h.bs.length c3,.slice a4 h.ds.length c4] 41 [.int .i64 h.now,.int .i64 h.last,.slice a5 h.sh.things.length c5,.slice a6 h.sh.bs.length c6,.slice a7 h.bs.length c7,.slice a8 h.ds.length c8] 41;rw[hW1];clear hW1;obtain⟨e0,e1,e2,e3,e4,e5⟩:=kP.c6;obtain⟨f0,f1,f2,f3,f4,f5⟩:=kR.c6;go_wp2_with fail
 refine (Aja h.sh _ _ _ (H1.up hB1).book (H2.up hB1).book).mono ?_;rintro e w2 ⟨rfl,hB2⟩;have hB12:=D5 hB1 hB2;clear e0 e1 e2 e3 e4 e5 f0 f1 f2 f3 f4 f5;obtain⟨e0,e1,e2,e3,e4,e5⟩:=(kP.up hB2 (by omega)).c6;obtain⟨f0,f1,f2,f3,f4,f5⟩:=(kR.up hB2 (by omega)).c6;have G1:=H1.up hB12;have G2:=H2.up hB12;go_wp2_with fail
 refine (AjD h.bs _ _ _ G1.x G2.x).mono ?_;rintro e w3 ⟨rfl,hB3⟩;have hB13:=D5 hB12 hB3;have hB23:=D5 hB2 hB3;clear e0 e1 e2 e3 e4 e5 f0 f1 f2 f3 f4 f5;obtain⟨e0,e1,e2,e3,e4,e5⟩:=(kP.up hB23 (by omega)).c6;obtain⟨f0,f1,f2,f3,f4,f5⟩:=(kR.up hB23 (by omega)).c6;go_wp2_with fail
 refine (AhE h.ds _ _ _ (G1.up hB3).d (G2.up hB3).d).mono ?_;rintro e w4 ⟨rfl,hB4⟩;have hB14:=D5 hB13 hB4;clear e0 e1 e2 e3 e4 e5 f0 f1 f2 f3 f4 f5;go_wp2_with fail
 go_ret
 exact⟨rfl,hB14⟩
theorem BkF.step {w w':World} {base b2 e k n:Nat} {v u:Value} {b:Bk} {xs:List Value} (h:BkF w base v b) (hrow:w.ownsRow b2 e k u n xs) (h1:9≠e) (h2:118≠e) (hg:w.grownBy w' u.ownBlock):BkF w' base v b:=by
 obtain⟨a1,c1,a2,c2,ps,rfl,hB,hm,hF⟩:=h;exact⟨a1,c1,a2,c2,ps,rfl,⟨E4 hB.1 hg (E5 hB.1 hrow h2),λp hp=>⟨E4 (hB.2 p hp).1 hg (E5 (hB.2 p hp).1 hrow h1),E4 (hB.2 p hp).2.1 hg (E5 (hB.2 p hp).2.1 hrow h1),(hB.2 p hp).2.2⟩⟩,hm,hF.keep λf _ ho=>E4 ho hg (E5 ho hrow h1)⟩
def RbsP (w:World) (base:Nat) (v:Value) (ps:List Rv):Prop:=RbsW w base v ps/\(ps.map (·.2.1)).Pairwise Ap/\(ps.map (·.2.2)).Pairwise Ap
theorem RbsP.up {w w':World} {base:Nat} {v:Value} {ps:List Rv} (h:RbsP w base v ps) (hb:Below w.heap.size w w'):RbsP w' base v ps:=⟨h.1.up hb,h.2⟩
theorem RbsP.low {w:World} {base base':Nat} {v:Value} {ps:List Rv} (h:RbsP w base v ps) (hb:base'<=base):RbsP w base' v ps:=⟨h.1.low hb,h.2⟩
theorem RbsP.step {w w':World} {base b2 e k n:Nat} {v u:Value} {ps:List Rv} {xs:List Value} (h:RbsP w base v ps) (hrow:w.ownsRow b2 e k u n xs) (h1:71≠e) (h2:73≠e) (h3:81≠e) (hg:w.grownBy w' u.ownBlock):RbsP w' base v ps :=
 ⟨⟨E4 h.1.1 hg (E5 h.1.1 hrow h1),λp hp=>(h.1.2 p hp).step hrow h2 h3 hg⟩,h.2⟩
def DnsP (w:World) (base:Nat) (v:Value) (ds:List Done):Prop:=w.ownsRow base 124 3 v ds.length (rowsF Done.cells ds)/\∀d∈ds,d.nm.size<=maxLen
theorem DnsP.dns {w:World} {base:Nat} {v:Value} {ds:List Done} (h:DnsP w base v ds):Dns w v ds:=by
 obtain⟨a,c,rfl⟩:=E9 h.1;refine⟨a,c,rfl,AaI h.1,λhp=>?_⟩;obtain⟨g,cap,e⟩:=F2 h.1 hp;simp only[Value.slice.injEq] at e;obtain⟨rfl,-,rfl⟩:=e;exact⟨g,0,rfl,λi d hd=>⟨by rw[Nat.zero_add];exact J6 I8 h.1 hd,h.2 d (A6 hd)⟩,(h.1.lt g rfl).2⟩
structure HP (w:World) (base:Nat) (h:House) (tv bv xv dv:Value):Prop where
 k:BkF w base (.agg #[tv,bv]) h.sh
 z:Szb h.sh
 x:∃ps,RbsP w base xv ps/\ps.map (·.1)=h.bs
 d:DnsP w base dv h.ds
theorem HP.v {w:World} {base:Nat} {h:House} {tv bv xv dv:Value} (H:HP w base h tv bv xv dv):HV w h tv bv xv dv:=by
 obtain⟨ps,h1,h2⟩:=H.x;obtain⟨t,b,e,k1,k2⟩:=H.k.bk H.z;simp at e;obtain⟨rfl,rfl⟩:=e;exact⟨k1,k2,h1.1.rbs h2,H.d.dns⟩
theorem HP.up {w w':World} {base:Nat} {h:House} {tv bv xv dv:Value} (H:HP w base h tv bv xv dv) (hb:Below w.heap.size w w'):HP w' base h tv bv xv dv :=
 ⟨H.k.up hb,H.z,H.x.imp λ_ x=>⟨x.1.up hb,x.2⟩,⟨E0 H.d.1 hb,H.d.2⟩⟩
theorem HP.low {w:World} {base base':Nat} {h:House} {tv bv xv dv:Value} (H:HP w base h tv bv xv dv) (hb:base'<=base):HP w base' h tv bv xv dv :=
 ⟨H.k.low hb,H.z,H.x.imp λ_ x=>⟨x.1.low hb,x.2⟩,⟨F9 H.d.1 hb,H.d.2⟩⟩
theorem HP.box {w w':World} {base b2 n:Nat} {h:House} {tv bv xv dv v:Value} {xs:List Value} (H:HP w base h tv bv xv dv) (hrow:w.ownsRow b2 41 6 v n xs) (hg:w.grownBy w' v.ownBlock):HP w' base h tv bv xv dv :=
 ⟨H.k.step hrow (by decide) (by decide) hg,H.z,H.x.imp λ_ x=>⟨x.1.step hrow (by decide) (by decide) (by decide) hg,x.2⟩,⟨E4 H.d.1 hg (E5 H.d.1 hrow (by decide)),H.d.2⟩⟩
theorem BkF.gr {w w':World} {base r:Nat} {v:Value} {b:Bk} (h:BkF w base v b) (hg:w.grownBy w' (some r)) (hr:r<base):BkF w' base v b:=by
 obtain⟨a1,c1,a2,c2,ps,rfl,hB,hm,hF⟩:=h;exact⟨a1,c1,a2,c2,ps,rfl,⟨E6 hB.1 hg hr,λp hp=>⟨E6 (hB.2 p hp).1 hg hr,E6 (hB.2 p hp).2.1 hg hr,(hB.2 p hp).2.2⟩⟩,hm,hF.gr hg hr⟩
theorem HP.gr {w w':World} {base r:Nat} {h:House} {tv bv xv dv:Value} (H:HP w base h tv bv xv dv) (hg:w.grownBy w' (some r)) (hr:r<base):HP w' base h tv bv xv dv :=
 ⟨H.k.gr hg hr,H.z,H.x.imp λ_ x=>⟨⟨x.1.1.gr hg hr,x.1.2⟩,x.2⟩,⟨E6 H.d.1 hg hr,H.d.2⟩⟩
theorem Adb {vs:List Value} {u:Value} (h:vs.Pairwise Ap) (hu:∀v∈vs,Ap v u):(vs++[u]).Pairwise Ap :=
 List.pairwise_append.2 ⟨h,List.pairwise_singleton _ _,λv hv x hx=>by obtain rfl:=D1.1 hx;exact hu v hv⟩
theorem Aez {w w':World} {base base' e e' s s' n n':Nat} {v u:Value} {xs xs':List Value} (h:w.ownsRow base e s v n xs) (h':w'.ownsRow base' e' s' u n' xs') (hb:w.heap.size<=base'):Ap v u:=λg hg hu=>by
 have h1:=(h.lt g hg).2;have h2:=(h'.lt g hu).1;omega
theorem Am1 {needs has things:List ByteArray} (hn:Asc needs) (h1:PartOk has needs) (h2:PartOk things needs):needs.filter (memS (has++things))=insAll has things:=by
 obtain⟨bm,bp⟩:=O7 things has;refine k_inj (Z8 _ _ ((asc_k hn).sublist (List.Sublist.map _ List.filter_sublist)) (bp (asc_k h1.2)) λx=>?_);refine Iff.trans ?_ (bm x).symm;simp only[keys,List.mem_map,List.mem_filter,J8,D0];constructor
 ·rintro⟨s,⟨-,hs|hs⟩,e⟩
  ·exact .inl ⟨s,hs,e⟩
  ·exact .inr ⟨s,hs,e⟩
 ·rintro (⟨s,hs,e⟩|⟨s,hs,e⟩)
  ·exact⟨s,⟨AbE h1.1 hs,.inl hs⟩,e⟩
  ·exact⟨s,⟨AbE h2.1 hs,.inr hs⟩,e⟩
def Other (b:Bk) (nm s:ByteArray):Prop:=whoB b.bs s≠⟨#[]⟩/\whoB b.bs s≠nm
theorem Alm {s:ByteArray} (h:nameB s=true):s≠⟨#[]⟩:=λe=>by subst e;revert h;decide
theorem nm_at {b:Bk} {nm:ByteArray} (hm:memS (nms b.bs) nm=true):∃hpl:plN b nm<b.bs.length,(b.bs[plN b nm]).nm=nm:=by
 obtain⟨hi,hlt⟩:=AaK hm;obtain⟨k,hk,hkl,hkn⟩:=AhX (l:=nms b.bs) (s:=nm) (by omega);obtain rfl:plN b nm=k:=by omega
 exact⟨hlt,by rw[← Q8 b.bs _ hlt];exact hkn⟩
theorem Afn {b:Bk} {nm s:ByteArray} (hok:BookOk b) (hm:memS (nms b.bs) nm=true):Other b nm s↔∃(i:Nat) (x:Ba),i≠plN b nm/\b.bs[i]?=some x/\memS x.has s=true:=by
 obtain⟨hpl,hpn⟩:=nm_at hm;constructor
 ·rintro⟨h1,h2⟩
  cases hf:b.bs.find? (λx=>memS x.has s) with
  | none=>exact absurd (by rw[whoB,hf];rfl) h1
  | some x =>
   obtain⟨hx,k,hk,e,-⟩:=List.find?_eq_some_iff_getElem.1 hf;refine⟨k,x,λhp=>h2 ?_,by rw[A0 hk,e],hx⟩;rw[whoB,hf];subst hp;rw[← e];exact hpn
 ·rintro⟨i,x,hip,hx,hs⟩
  obtain⟨hi,rfl⟩:=A2.1 hx
  have hw:whoB b.bs s=(b.bs[i]).nm:=AhV hi (λj y hj hy=>by
   cases hq:memS y.has s
   ·rfl
   ·have:=hok.2.2.2.2.2 i j _ y hj (by omega) (A0 hi) hy
    rw[N8] at this;exact absurd ((J8 _ _).1 hq) (this s ((J8 _ _).1 hs))) hs
  rw[Other,hw];refine⟨Alm ?_,λe=>hip ?_⟩
  ·exact hok.2.2.1 i _ (by rw[I0];exact hi) (by rw[A0 (by rw[I0];exact hi),Q8 _ _ hi])
  ·refine Abx hok.2.2.2.1 (a:=nm) ?_ ?_
   ·rw[A0 (by rw[I0];exact hi),Q8 _ _ hi,e]
   ·rw[A0 (by rw[I0];exact hpl),Q8 _ _ hpl,hpn]
theorem Afo {b:Bk} {nm:ByteArray} {things:List ByteArray} (hok:BookOk b) (hm:memS (nms b.bs) nm=true):Taken b.bs (plN b nm:Int) things↔∃s∈things,Other b nm s:=by
 constructor
 ·rintro⟨i,x,hi,hx,hs⟩
  obtain⟨s,h1,h2⟩:=(AbC _ _).1 hs;exact⟨s,h2,(Afn hok hm).2 ⟨i,x,by omega,hx,(J8 _ _).2 h1⟩⟩
 ·rintro⟨s,hs,ho⟩
  obtain⟨i,x,hi,hx,h1⟩:=(Afn hok hm).1 ho;exact⟨i,x,by omega,hx,(AbC _ _).2 ⟨s,(J8 _ _).1 h1,hs⟩⟩
def SafeQ (b:Bk):Prop:=∃ss,OrderIs b ss true
theorem Aas {b:Bk} {ss:List ByteArray} {ok:Bool} (h:OrderIs b ss ok):ok=pB (SafeQ b):=by
 cases ok with
 | true=>exact (G9 ⟨ss,h⟩).symm
 | false=>exact (F1 λ⟨ss',h'⟩=>by have:=(h.uniq h').2;cases this).symm
noncomputable def askR (b:Bk) (nm:ByteArray) (things:List ByteArray):Int :=
 if ofC b nm things≠0 then ofC b nm things else if pB (Taken b.bs (plN b nm:Int) things)=true then 5 else if (pB (SafeQ b) && !pB (SafeQ (chg b (plN b nm) (askF things))))=true then 6 else 0
theorem Adc {b:Bk} {nm:ByteArray} {things:List ByteArray} (h:ofC b nm things≠0):askR b nm things=ofC b nm things:=by simp[askR,h]
theorem Afp {b:Bk} {nm:ByteArray} {things:List ByteArray} (h:ofC b nm things=0) (ht:Taken b.bs (plN b nm:Int) things):askR b nm things=5:=by simp[askR,h,G9 ht]
theorem AcO {b:Bk} {nm:ByteArray} {things:List ByteArray} (h:ofC b nm things=0) (ht:¬Taken b.bs (plN b nm:Int) things):askR b nm things=if (pB (SafeQ b) && !pB (SafeQ (chg b (plN b nm) (askF things))))=true then 6 else 0:=by simp[askR,h,F1 ht]
theorem AcP {b:Bk} {nm:ByteArray} {things:List ByteArray} (h:askR b nm things=0):ofC b nm things=0:=by
 by_cases h0:ofC b nm things=0
 ·exact h0
 ·rw[Adc h0] at h;exact absurd h h0
theorem ask_is {b b':Bk} {nm:ByteArray} {things:List ByteArray} {cd:Int} (h:AskIs b nm things cd b'):cd=askedC b (askR b nm things)/\b'=askedB b (askR b nm things) (chg b (plN b nm) (askF things)):=by
 rcases h with⟨h1,rfl,hb⟩|⟨h1,h2,rfl,hb⟩|⟨h1,h2,h3,rfl,hb⟩|⟨h1,h2,h3,h4,rfl,hb⟩|⟨h1,h2,h3,h4,⟨ss,h5⟩,⟨st,h6⟩,rfl,hb⟩|⟨h1,h2,h3,h4,h5,rfl,hb⟩
 ·exact⟨by simp[askedC,h1],by rw[hb];simp[askedB,h1]⟩
 ·have e:askR b nm things=3:=by rw[Adc (by rw[AcV h2];omega),AcV h2]
  exact⟨by simp[askedC,h1,e],by rw[hb];simp[askedB,h1,e]⟩
 ·have e:askR b nm things=2:=by rw[Adc (by rw[Aeg h2 h3];omega),Aeg h2 h3]
  exact⟨by simp[askedC,h1,e],by rw[hb];simp[askedB,h1,e]⟩
 ·have e:=Afp (Aeh h2 h3) h4
  exact⟨by simp[askedC,h1,e],by rw[hb];simp[askedB,h1,e]⟩
 ·have e:=AcO (Aeh h2 h3) h4
  rw[← Aas h5,← Aas h6] at e;simp at e;exact⟨by simp[askedC,h1,e],by rw[hb];simp[askedB,h1,e]⟩
 ·have e:askR b nm things=0:=by
   rw[AcO (Aeh h2 h3) h4];rcases h5 with⟨ss,h5⟩|⟨ss,h5⟩
   ·rw[← Aas h5];simp
   ·rw[← Aas h5];simp
  exact⟨by simp[askedC,h1,e],by rw[hb];simp[askedB,h1,e]⟩
end Go.Proofs.YtgecdacgmehmbaaGreatDoor
