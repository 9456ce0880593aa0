/- The program's chapter 23: a house copied. -/
import Derived.Test.YtgecdacgmehmbaaGreatDoorJ44
import Derived.Test.YtgecdacgmehmbaaGreatDoorJ39
import Derived.Test.YtgecdacgmehmbaaGreatDoorJ14
namespace Go.Proofs.YtgecdacgmehmbaaGreatDoor
open Go.RowKit
structure CP (W1:World) (h:House) (X:World) (k6 k9:Option Value) (k11:Option Nat):Prop where
 B:Below W1.heap.size W1 X
 s6:∀v,k6=some v->BkF X W1.heap.size v h.sh
 s9:∀v,k9=some v->X.ownsRow W1.heap.size 124 3 v h.ds.length (rowsF Done.cells h.ds)
 s11:∀y,k11=some y->X.ownsRow W1.heap.size 41 6 (.slice (some ⟨y,0,none⟩) 1 1) 1 [.int .i64 0,.int .i64 0,.slice none 0 0,.slice none 0 0,.slice none 0 0,.slice none 0 0]
theorem cp_nil (W1:World) (h:House):CP W1 h W1 none none none:=⟨A4 _ _,λ_ h=>(by cases h),λ_ h=>(by cases h),λ_ h=>(by cases h)⟩
theorem CP.up {W1 X X':World} {h:House} {k6 k9:Option Value} {k11:Option Nat} (H:CP W1 h X k6 k9 k11) (hb:Below X.heap.size X X'):CP W1 h X' k6 k9 k11 :=
 ⟨D5 H.B hb,λv e=>(H.s6 v e).up hb,λv e=>E0 (H.s9 v e) hb,λy e=>E0 (H.s11 y e) hb⟩
theorem CP.call {W1 X X':World} {h:House} {k6 k9:Option Value} {k11:Option Nat} {v:Value} (H:CP W1 h X k6 k9 k11) (hb:Below X.heap.size X X') (hv:BkF X' X.heap.size v h.sh):CP W1 h X' (some v) k9 k11 :=
 {H.up hb with s6:=λu e=>by cases e;exact hv.low H.B.size}
theorem CP.list {W1 X X':World} {h:House} {k6 k9:Option Value} {k11:Option Nat} {v:Value} (H:CP W1 h X k6 k9 k11) (hb:Below X.heap.size X X') (hv:X'.ownsRow X.heap.size 124 3 v h.ds.length (rowsF Done.cells h.ds)):CP W1 h X' k6 (some v) k11 :=
 {H.up hb with s9:=λu e=>by cases e;exact F9 hv H.B.size}
theorem CP.new {W1 X:World} {h:House} {k6 k9:Option Value} {k11:Option Nat} (H:CP W1 h X k6 k9 k11):CP W1 h (X.alloc (.cells #[.int .i64 0,.int .i64 0,.slice none 0 0,.slice none 0 0,.slice none 0 0,.slice none 0 0] 41)) k6 k9 (some X.heap.size) :=
 {H.up ((A4 _ _).alloc (A3 _) _) with s11:=λu e=>by cases e;exact B8 X _ 1 H.B.size (by unfold maxLen;omega) rfl}
structure CY (W1:World) (h:House) (X:World) (y:Nat) (tu bu xu du:Value):Prop where
 B:Below W1.heap.size W1 X
 k:BkF X W1.heap.size (.agg #[tu,bu]) h.sh
 d:X.ownsRow W1.heap.size 124 3 du h.ds.length (rowsF Done.cells h.ds)
 y:X.ownsRow W1.heap.size 41 6 (.slice (some ⟨y,0,none⟩) 1 1) 1 [.int .i64 h.now,.int .i64 h.last,tu,bu,xu,du]
theorem CY.up {W1 X X':World} {h:House} {y:Nat} {tu bu xu du:Value} (H:CY W1 h X y tu bu xu du) (hb:Below X.heap.size X X'):CY W1 h X' y tu bu xu du :=
 ⟨D5 H.B hb,H.k.up hb,E0 H.d hb,E0 H.y hb⟩
theorem CY.row {W1 X X':World} {h:House} {y n:Nat} {tu bu xu du v:Value} {xs:List Value} (H:CY W1 h X y tu bu xu du) (hrow:X.ownsRow W1.heap.size 71 6 v n xs) (hg:X.grownBy X' v.ownBlock):CY W1 h X' y tu bu xu du :=
 ⟨F5 H.B H.B.size hrow hg (A3 _),H.k.step hrow (by decide) (by decide) hg,E4 H.d hg (E5 H.d hrow (by decide)),E4 H.y hg (E5 H.y hrow (by decide))⟩
theorem CY.put {W1 X:World} {h:House} {y:Nat} {tu bu xu du:Value} (H:CY W1 h X y tu bu xu du) (u:Value):CY W1 h (X.setCell ⟨y,4,none⟩ u) y tu bu u du:=by
 obtain⟨h1,h2⟩:=B2 H.y 4 u;have hg:X.grownBy (X.setCell ⟨y,4,none⟩ u) (Value.slice (some ⟨y,0,none⟩) 1 1).ownBlock:=h2;exact⟨F5 H.B H.B.size H.y hg (A3 _),H.k.step H.y (by decide) (by decide) hg,E4 H.d hg (E5 H.d H.y (by decide)),h1⟩
theorem RbsP.off {W1 X:World} {h:House} {y base j:Nat} {tu bu xu du v u:Value} {ps:List Rv} (H:CY W1 h X y tu bu xu du) (hr:RbsP X base v ps):RbsP (X.setCell ⟨y,j,none⟩ u) base v ps:=by
 have hg:X.grownBy (X.setCell ⟨y,j,none⟩ u) (Value.slice (some ⟨y,0,none⟩) 1 1).ownBlock:=(B2 H.y j u).2;exact hr.step H.y (by decide) (by decide) (by decide) hg
theorem CP.fin {W1 X:World} {h:House} {y:Nat} {tu bu du:Value} (H:CP W1 h X (some (.agg #[tu,bu])) (some du) (some y)):CY W1 h ((((((X.setCell ⟨y,0,none⟩ (.int .i64 h.now)).setCell ⟨y,1,none⟩ (.int .i64 h.last)).setCell ⟨y,2,none⟩ tu).setCell ⟨y,3,none⟩ bu).setCell ⟨y,4,none⟩ (.slice none 0 0)).setCell ⟨y,5,none⟩ du) y tu bu (.slice none 0 0) du:=by
 have h12:=H.s11 y rfl;have h1:=B2 h12 0 (.int .i64 h.now);have h2:=B2 h1.1 1 (.int .i64 h.last);have h3:=B2 h2.1 2 tu;have h4:=B2 h3.1 3 bu;have h5:=B2 h4.1 4 (.slice none 0 0);have h6:=B2 h5.1 5 du;have hg:X.grownBy ((((((X.setCell ⟨y,0,none⟩ (.int .i64 h.now)).setCell ⟨y,1,none⟩ (.int .i64 h.last)).setCell ⟨y,2,none⟩ tu).setCell ⟨y,3,none⟩ bu).setCell ⟨y,4,none⟩ (.slice none 0 0)).setCell ⟨y,5,none⟩ du) (Value.slice (some ⟨y,0,none⟩) 1 1).ownBlock:=E3 (E3 (E3 (E3 (E3 h1.2 h2.2) h3.2) h4.2) h5.2) h6.2;exact⟨F5 H.B H.B.size h12 hg (A3 _),(H.s6 _ rfl).step h12 (by decide) (by decide) hg,E4 (H.s9 _ rfl) hg (E5 (H.s9 _ rfl) h12 (by decide)),h6.1⟩
theorem AjE {w w':World} {a4:Option Addr} {ds:List Done} (h:0<ds.length->∃b o,a4=some ⟨b,o,none⟩/\DnsAt w b o ds/\b<w.heap.size) (hb:Below w.heap.size w w') (hp:0<ds.length):∃b o,a4=some ⟨b,o,none⟩/\∀(i:Nat) (d:Done),ds[i]?=some d->w'.rangeAt b (o+i*3) (Done.cells d):=by
 obtain⟨b,o,rfl,hD,hlt⟩:=h hp;refine⟨b,o,rfl,λi d hd j u hu=>?_⟩;rw[hb.cell (p:=⟨b,o+i*3+j,none⟩) hlt];exact (hD i d hd).1 j u hu
set_option maxRecDepth 20000 in
set_option maxHeartbeats 8000000 in
theorem Alq (h:House) (tv bv xv dv:Value) (w:World) (H:HV w h tv bv xv dv) (hz1:h.sh.things.length<=100) (hz2:h.sh.bs.length<=100) (hz3:∀y∈h.sh.bs,y.has.length<=100/\y.needs.length<=100) (hnb:h.bs.length<=1048576) (hnd:h.ds.length<=1048576) (hpos:∀x∈h.bs,0<x.ps.length/\0<x.sl.length) :
  Calls Tryz.prog 115 #[.agg #[.int .i64 h.now,.int .i64 h.last,tv,bv,xv,dv]] w λe w'=>(∃tu bu xu du,e=.returned (.agg #[.int .i64 h.now,.int .i64 h.last,tu,bu,xu,du])/\HP w' w.heap.size h tu bu xu du)/\Below w.heap.size w w':=by
 have Hsz:=H.book.szb;obtain⟨a1,c1,a2,c2,a3,c3,a4,c4,rfl,rfl,rfl,rfl⟩:=H.shapes;obtain⟨W1,hW1,kA,kR,hB1,hs1⟩:=L8 w [.int .i64 h.now,.int .i64 h.last,.slice a1 h.sh.things.length c1,.slice a2 h.sh.bs.length c2,.slice a3 h.bs.length c3,.slice a4 h.ds.length c4] 41 [.int .i64 0,.int .i64 0,.slice none 0 0,.slice none 0 0,.slice none 0 0,.slice none 0 0] 41;go_enter Tryz.func115,Tryz.ntmps115
 go_upto_region 1 with fail
 try rw[hW1]
 clear hW1;have hA0:w.heap.size<W1.heap.size:=by omega
 have hR0:w.heap.size+1<W1.heap.size:=by omega
 have hLW:w.heap.size<=W1.heap.size:=by omega
 clear hs1;have H1:=H.up hB1;have HB:Hid (BkV W1 (.agg #[.slice a1 h.sh.things.length c1,.slice a2 h.sh.bs.length c2]) h.sh):=H1.book
 have hpd:Hid (0<h.ds.length->∃b o,a4=some ⟨b,o,none⟩/\DnsAt W1 b o h.ds/\b<W1.heap.size):=by
  obtain⟨a,c,e,-,h2⟩:=H1.d;simp only[Value.slice.injEq] at e;obtain⟨rfl,-,-⟩:=e;exact h2
 have mk:∀w',Below W1.heap.size W1 w'->Below W1.heap.size W1 w'/\World.cell? w' ⟨w.heap.size,0,none⟩=some (.int .i64 h.now)/\World.cell? w' ⟨w.heap.size,1,none⟩=some (.int .i64 h.last)/\World.cell? w' ⟨w.heap.size,2,none⟩=some (.slice a1 h.sh.things.length c1)/\World.cell? w' ⟨w.heap.size,3,none⟩=some (.slice a2 h.sh.bs.length c2)/\World.cell? w' ⟨w.heap.size,4,none⟩=some (.slice a3 h.bs.length c3)/\World.cell? w' ⟨w.heap.size,5,none⟩=some (.slice a4 h.ds.length c4):=λw' hb'=>by
  obtain⟨e0,e1,e2,e3,e4,e5⟩:=(kA.up hb' hA0).c6;exact⟨hb',e0,e1,e2,e3,e4,e5⟩
 have Mk:Hid (∀w',Below W1.heap.size W1 w'->Below W1.heap.size W1 w'/\World.cell? w' ⟨w.heap.size,0,none⟩=some (.int .i64 h.now)/\World.cell? w' ⟨w.heap.size,1,none⟩=some (.int .i64 h.last)/\World.cell? w' ⟨w.heap.size,2,none⟩=some (.slice a1 h.sh.things.length c1)/\World.cell? w' ⟨w.heap.size,3,none⟩=some (.slice a2 h.sh.bs.length c2)/\World.cell? w' ⟨w.heap.size,4,none⟩=some (.slice a3 h.bs.length c3)/\World.cell? w' ⟨w.heap.size,5,none⟩=some (.slice a4 h.ds.length c4)):=mk;clear mk;go_cut [3] (λv3 wc=>∃(Y:Nat) (tu bu du:Value),v3=.pointer (some ⟨Y,0,none⟩)/\CY W1 h wc Y tu bu (.slice none 0 0) du)
 case first =>
  have hC:CP W1 h W1.drew none none none:=(cp_nil W1 h).up (A4 _ _).drew;refine F6 99 (λw'=>Below W1.heap.size W1 w'/\World.cell? w' ⟨w.heap.size,0,none⟩=some (.int .i64 h.now)/\World.cell? w' ⟨w.heap.size,1,none⟩=some (.int .i64 h.last)/\World.cell? w' ⟨w.heap.size,2,none⟩=some (.slice a1 h.sh.things.length c1)/\World.cell? w' ⟨w.heap.size,3,none⟩=some (.slice a2 h.sh.bs.length c2)/\World.cell? w' ⟨w.heap.size,4,none⟩=some (.slice a3 h.bs.length c3)/\World.cell? w' ⟨w.heap.size,5,none⟩=some (.slice a4 h.ds.length c4)) (by kernel_rfl) ?_;generalize W1.drew=X1 at hC ⊢
  have hS1:=Mk.out _ hC.B;refine tkx 0 rfl hS1 ?_;refine tkx 1 rfl hS1 ?_;refine tkx 2 rfl hS1 ?_;refine tkx 3 rfl hS1 ?_;refine tkx 4 rfl hS1 ?_;refine tkx 5 rfl hS1 ?_;refine tkx 7 rfl hS1 ?_;refine tkx 8 rfl hS1 ?_;refine J9 (i:=6) (j:=11) (by kernel_rfl) rfl rfl (λK hK=>?_) (λK hK=>?_)
  ·(go_simp;go_wp2_with (go_at_call 139;refine (Aa1 h.sh _ _ (HB.out.up hC.B) hz1 hz2 hz3).mono ?_;rintro e X2 ⟨⟨t1,d1,t2,d2,ps8,rfl,hB8,hm8,hF8⟩,hb8⟩;replace hC:=hC.call hb8 ⟨t1,d1,t2,d2,ps8,rfl,hB8,hm8,hF8⟩;clear hB8 hm8 hF8 hb8);refine hK.out _ _ (λ_=>(Mk.out _ hC.B)) ?_;clear hK K)
   refine J9 (i:=9) (j:=11) (by kernel_rfl) rfl rfl (λK hK=>?_) (λK hK=>?_)
   ·(go_simp;go_wp2_with (go_at_call 140;refine (AeH h.ds a4 c4 _ hnd (λhp=>AjE hpd.out hC.B hp)).mono ?_;rintro e X3 ⟨⟨v9,rfl,ho9⟩,hb9⟩;replace hC:=hC.list hb9 ho9;obtain⟨a9,c9,rfl⟩:=E9 ho9;clear ho9 hb9);refine hK.out _ _ (λ_=>(Mk.out _ hC.B)) ?_;clear hK K)
    refine tkx 10 rfl (Mk.out _ hC.B) ?_;refine D7 (i:=11) (by kernel_rfl) rfl (λK hK=>?_)
    (go_simp;replace hC:=hC.new;refine hK.out _ _ (λ_=>(Mk.out _ hC.B)) ?_;clear hK K;generalize World.alloc _ (.cells #[.int .i64 0,.int .i64 0,.slice none 0 0,.slice none 0 0,.slice none 0 0,.slice none 0 0] 41)=X4 at hC ⊢)
    (have kY:=G8 (hC.s11 _ rfl);obtain⟨j0,j1,j2,j3,j4,j5⟩:=kY.c6;obtain⟨m0,m1,m2,m3,m4,m5⟩:=kY.f6;replace hC:=hC.fin;refine D7 (i:=12) (by kernel_rfl) rfl (λK hK=>?_);go_simp;refine hK.out _ _ (λ_=>Mk.out _ hC.B) ?_;clear hK K j0 j1 j2 j3 j4 j5 m0 m1 m2 m3 m4 m5 kY;refine F0 (by kernel_rfl) ?_ _;go_wp2_with fail;go_meet;exact⟨_,_,_,_,rfl,hC⟩)
   ·(go_simp;replace hC:=hC.new;refine hK.out _ _ (λ_=>(Mk.out _ hC.B)) ?_;clear hK K;generalize World.alloc _ (.cells #[.int .i64 0,.int .i64 0,.slice none 0 0,.slice none 0 0,.slice none 0 0,.slice none 0 0] 41)=X4 at hC ⊢)
    refine D7 (i:=9) (by kernel_rfl) rfl (λK hK=>?_)
    (go_simp;go_wp2_with (go_at_call 140;refine (AeH h.ds a4 c4 _ hnd (λhp=>AjE hpd.out hC.B hp)).mono ?_;rintro e X3 ⟨⟨v9,rfl,ho9⟩,hb9⟩;replace hC:=hC.list hb9 ho9;obtain⟨a9,c9,rfl⟩:=E9 ho9;clear ho9 hb9);refine hK.out _ _ (λ_=>(Mk.out _ hC.B)) ?_;clear hK K)
    refine tkx 10 rfl (Mk.out _ hC.B) ?_
    (have kY:=G8 (hC.s11 _ rfl);obtain⟨j0,j1,j2,j3,j4,j5⟩:=kY.c6;obtain⟨m0,m1,m2,m3,m4,m5⟩:=kY.f6;replace hC:=hC.fin;refine D7 (i:=12) (by kernel_rfl) rfl (λK hK=>?_);go_simp;refine hK.out _ _ (λ_=>Mk.out _ hC.B) ?_;clear hK K j0 j1 j2 j3 j4 j5 m0 m1 m2 m3 m4 m5 kY;refine F0 (by kernel_rfl) ?_ _;go_wp2_with fail;go_meet;exact⟨_,_,_,_,rfl,hC⟩)
  ·(go_simp;replace hC:=hC.new;refine hK.out _ _ (λ_=>(Mk.out _ hC.B)) ?_;clear hK K;generalize World.alloc _ (.cells #[.int .i64 0,.int .i64 0,.slice none 0 0,.slice none 0 0,.slice none 0 0,.slice none 0 0] 41)=X4 at hC ⊢)
   refine D7 (i:=6) (by kernel_rfl) rfl (λK hK=>?_)
   (go_simp;go_wp2_with (go_at_call 139;refine (Aa1 h.sh _ _ (HB.out.up hC.B) hz1 hz2 hz3).mono ?_;rintro e X2 ⟨⟨t1,d1,t2,d2,ps8,rfl,hB8,hm8,hF8⟩,hb8⟩;replace hC:=hC.call hb8 ⟨t1,d1,t2,d2,ps8,rfl,hB8,hm8,hF8⟩;clear hB8 hm8 hF8 hb8);refine hK.out _ _ (λ_=>(Mk.out _ hC.B)) ?_;clear hK K)
   refine D7 (i:=9) (by kernel_rfl) rfl (λK hK=>?_)
   (go_simp;go_wp2_with (go_at_call 140;refine (AeH h.ds a4 c4 _ hnd (λhp=>AjE hpd.out hC.B hp)).mono ?_;rintro e X3 ⟨⟨v9,rfl,ho9⟩,hb9⟩;replace hC:=hC.list hb9 ho9;obtain⟨a9,c9,rfl⟩:=E9 ho9;clear ho9 hb9);refine hK.out _ _ (λ_=>(Mk.out _ hC.B)) ?_;clear hK K)
   refine tkx 10 rfl (Mk.out _ hC.B) ?_
   (have kY:=G8 (hC.s11 _ rfl);obtain⟨j0,j1,j2,j3,j4,j5⟩:=kY.c6;obtain⟨m0,m1,m2,m3,m4,m5⟩:=kY.f6;replace hC:=hC.fin;refine D7 (i:=12) (by kernel_rfl) rfl (λK hK=>?_);go_simp;refine hK.out _ _ (λ_=>Mk.out _ hC.B) ?_;clear hK K j0 j1 j2 j3 j4 j5 m0 m1 m2 m3 m4 m5 kY;refine F0 (by kernel_rfl) ?_ _;go_wp2_with fail;go_meet;exact⟨_,_,_,_,rfl,hC⟩)
 case rest =>
  obtain⟨Y,tu,bu,du,rfl,hX⟩:=hcut;clear Mk HB hpd
  have hxp:Hid (0<h.bs.length->∃b o,a3=some ⟨b,o,none⟩/\RbsAt W1 b o h.bs/\b<W1.heap.size):=by
   obtain⟨a,c,e,-,h2⟩:=H1.x;simp only[Value.slice.injEq] at e;obtain⟨rfl,-,-⟩:=e;exact h2
  have Hz:Hid (Szb h.sh):=Hsz;have Hpos:Hid (∀x∈h.bs,0<x.ps.length/\0<x.sl.length):=hpos;have Hdz:Hid (∀d∈h.ds,d.nm.size<=maxLen):=H1.d.sized;clear H H1 Hsz hnd hz1 hz2 hz3 hpos;obtain⟨irb,hirb,r0,r1,r2⟩:=info_parts AcZ;obtain⟨e0,e1,e2,e3,e4,e5⟩:=(kA.up hX.B hA0).c6;go_upto_region 3 with fail
  clear e0 e1 e2 e3 e4 e5;go_loopw [20] (λi w'=>∃(k:Nat) (ps:List Rv) (xu:Value),k<=h.bs.length/\i=.int .i64 k/\ps.map (·.1)=h.bs.take k/\CY W1 h w' Y tu bu xu du/\RbsP w' W1.heap.size xu ps) (λi _=>h.bs.length-(intOf i).toNat)
  case atStart=>exact⟨0,[],.slice none 0 0,by omega,rfl,by simp,hX,⟨B7 _ _ _ _,λp hp=>by simp at hp⟩,by simp,by simp⟩
  case round =>
   clear hX;obtain⟨k,ps,xu,hk,rfl,hps,hX,hW⟩:=hrel;have Hps:Hid (ps.map (·.1)=h.bs.take k):=hps;have hpl:ps.length=k:=by have:=congrArg List.length hps;simp at this;omega
   clear hps;by_cases hp:k<h.bs.length
   ·obtain⟨bb,o,rfl,hS,hb⟩:=hxp.out (by omega)
    obtain⟨p,q,c,g,r,d,⟨q0,q1,q2,q3,q4,q5⟩,hv⟩:=((hS.at hp).up hX.B hb).open;have HX:Hid (h.bs.take (k+1)=h.bs.take k++[h.bs[k]]):=A7 hp;have hpx:=Hpos.out _ (List.getElem_mem hp);have hzx:=hX.B.size;generalize h.bs[k]=x0 at *;have HltN:Hid (∀g,xu.ownBlock=some g->g<wr.heap.size):=λg e=>(hW.1.1.lt g e).2;go_upto_region 5 with fail
    clear q0 q1 q2 q3 q4 q5;obtain⟨V,hV,kB,hbV⟩:∃V,wr.alloc (.cells #[.string x0.nm,.slice (some ⟨p,q,none⟩) x0.ps.length c,.slice (some ⟨g,r,none⟩) x0.sl.length d,.string x0.ad,.int .i64 x0.si,.int .i64 x0.st] 71)=V/\CB V wr.heap.size [.string x0.nm,.slice (some ⟨p,q,none⟩) x0.ps.length c,.slice (some ⟨g,r,none⟩) x0.sl.length d,.string x0.ad,.int .i64 x0.si,.int .i64 x0.st]/\Below wr.heap.size wr V:=⟨_,rfl,E8 wr _ _,(A4 _ _).alloc (A3 _) _⟩;try rw[hV]
    have hX1:=hX.up hbV;have hW1':=hW.up hbV;have hv1:=hv.up hbV;clear hV hX hW hv;generalize hN:wr.heap.size=N at *;have hNV:N<V.heap.size:=kB.2.2;have hX2:CY W1 h V.drew Y tu bu xu du:=hX1.up (A4 _ _).drew;have hW2:=hW1'.up (A4 _ _).drew;have hv2:=hv1.up (A4 _ _).drew;have kB2:=kB.up (A4 _ _).drew kB.2.2;have hS2:World.cell? V.drew ⟨N,0,none⟩=some (.string x0.nm)/\World.cell? V.drew ⟨N,1,none⟩=some (.slice (some ⟨p,q,none⟩) x0.ps.length c)/\World.cell? V.drew ⟨N,2,none⟩=some (.slice (some ⟨g,r,none⟩) x0.sl.length d)/\World.cell? V.drew ⟨N,3,none⟩=some (.string x0.ad)/\World.cell? V.drew ⟨N,4,none⟩=some (.int .i64 x0.si)/\World.cell? V.drew ⟨N,5,none⟩=some (.int .i64 x0.st)/\World.cell? V.drew ⟨Y,4,none⟩=some xu:=⟨kB2.c6.1,kB2.c6.2.1,kB2.c6.2.2.1,kB2.c6.2.2.2.1,kB2.c6.2.2.2.2.1,kB2.c6.2.2.2.2.2,(G8 hX2.y).c6.2.2.2.2.1⟩;refine F6 7 (λw'=>World.cell? w' ⟨N,0,none⟩=some (.string x0.nm)/\World.cell? w' ⟨N,1,none⟩=some (.slice (some ⟨p,q,none⟩) x0.ps.length c)/\World.cell? w' ⟨N,2,none⟩=some (.slice (some ⟨g,r,none⟩) x0.sl.length d)/\World.cell? w' ⟨N,3,none⟩=some (.string x0.ad)/\World.cell? w' ⟨N,4,none⟩=some (.int .i64 x0.si)/\World.cell? w' ⟨N,5,none⟩=some (.int .i64 x0.st)/\World.cell? w' ⟨Y,4,none⟩=some xu) (by kernel_rfl) ?_;clear hX1 hW1' hv1 kB;generalize V.drew=X1 at hX2 hW2 hv2 kB2 hS2 ⊢
    refine tkx 0 rfl hS2 ?_;refine tkx 1 rfl hS2 ?_;refine tkx 2 rfl hS2 ?_;refine D7 (i:=3) (by kernel_rfl) rfl (λK hK=>?_);go_simp
    go_wp2_with (go_at_call 86;refine (Afi x0 _ _ _ hv2 hpx.1 hpx.2).mono ?_;rintro e X3 ⟨⟨ru,su,rfl,hrc⟩,hb3⟩)
    have hX3:=hX2.up hb3;have hW3:=hW2.up hb3;have kB3:=kB2.up hb3 kB2.2.2;have hS3:World.cell? X3 ⟨N,0,none⟩=some (.string x0.nm)/\World.cell? X3 ⟨N,1,none⟩=some (.slice (some ⟨p,q,none⟩) x0.ps.length c)/\World.cell? X3 ⟨N,2,none⟩=some (.slice (some ⟨g,r,none⟩) x0.sl.length d)/\World.cell? X3 ⟨N,3,none⟩=some (.string x0.ad)/\World.cell? X3 ⟨N,4,none⟩=some (.int .i64 x0.si)/\World.cell? X3 ⟨N,5,none⟩=some (.int .i64 x0.st)/\World.cell? X3 ⟨Y,4,none⟩=some xu:=⟨kB3.c6.1,kB3.c6.2.1,kB3.c6.2.2.1,kB3.c6.2.2.2.1,kB3.c6.2.2.2.2.1,kB3.c6.2.2.2.2.2,(G8 hX3.y).c6.2.2.2.2.1⟩;have hrc3:=hrc.low hX2.B.size
    have Hap1:Hid (∀v∈ps.map (·.2.1),Ap v ru):=λv hv=>by
     obtain⟨y,hy,rfl⟩:=List.mem_map.1 hv;exact Aez (hW2.1.2 y hy).r hrc.r (A3 _)
    have Hap2:Hid (∀v∈ps.map (·.2.2),Ap v su):=λv hv=>by
     obtain⟨y,hy,rfl⟩:=List.mem_map.1 hv;exact Aez (hW2.1.2 y hy).s hrc.s (A3 _)
    obtain⟨g3,n3,m3,ee⟩:NN ru:=hrc.nr;obtain⟨g4,n4,m4,ef⟩:NN su:=hrc.ns;subst ee ef;clear hX2 hW2 hv2 kB2 hS2 hrc;refine hK.out _ _ (λ_=>hS3) ?_;clear hK K;have hnb9:Below X3.heap.size X3 (X3.alloc (.cells #[.string x0.nm,.slice (some ⟨g3,0,none⟩) n3 m3,.slice (some ⟨g4,0,none⟩) n4 m4,.string x0.ad,.int .i64 x0.si,.int .i64 x0.st] 71)):=(A4 _ _).alloc (A3 _) _;have hX4:=hX3.up hnb9;have hW4:=hW3.up hnb9;have hrc4:=hrc3.up hnb9;have kB4:=kB3.up hnb9 kB3.2.2;have hS4:World.cell? (X3.alloc (.cells #[.string x0.nm,.slice (some ⟨g3,0,none⟩) n3 m3,.slice (some ⟨g4,0,none⟩) n4 m4,.string x0.ad,.int .i64 x0.si,.int .i64 x0.st] 71)) ⟨N,0,none⟩=some (.string x0.nm)/\World.cell? (X3.alloc (.cells #[.string x0.nm,.slice (some ⟨g3,0,none⟩) n3 m3,.slice (some ⟨g4,0,none⟩) n4 m4,.string x0.ad,.int .i64 x0.si,.int .i64 x0.st] 71)) ⟨N,1,none⟩=some (.slice (some ⟨p,q,none⟩) x0.ps.length c)/\World.cell? (X3.alloc (.cells #[.string x0.nm,.slice (some ⟨g3,0,none⟩) n3 m3,.slice (some ⟨g4,0,none⟩) n4 m4,.string x0.ad,.int .i64 x0.si,.int .i64 x0.st] 71)) ⟨N,2,none⟩=some (.slice (some ⟨g,r,none⟩) x0.sl.length d)/\World.cell? (X3.alloc (.cells #[.string x0.nm,.slice (some ⟨g3,0,none⟩) n3 m3,.slice (some ⟨g4,0,none⟩) n4 m4,.string x0.ad,.int .i64 x0.si,.int .i64 x0.st] 71)) ⟨N,3,none⟩=some (.string x0.ad)/\World.cell? (X3.alloc (.cells #[.string x0.nm,.slice (some ⟨g3,0,none⟩) n3 m3,.slice (some ⟨g4,0,none⟩) n4 m4,.string x0.ad,.int .i64 x0.si,.int .i64 x0.st] 71)) ⟨N,4,none⟩=some (.int .i64 x0.si)/\World.cell? (X3.alloc (.cells #[.string x0.nm,.slice (some ⟨g3,0,none⟩) n3 m3,.slice (some ⟨g4,0,none⟩) n4 m4,.string x0.ad,.int .i64 x0.si,.int .i64 x0.st] 71)) ⟨N,5,none⟩=some (.int .i64 x0.st)/\World.cell? (X3.alloc (.cells #[.string x0.nm,.slice (some ⟨g3,0,none⟩) n3 m3,.slice (some ⟨g4,0,none⟩) n4 m4,.string x0.ad,.int .i64 x0.si,.int .i64 x0.st] 71)) ⟨Y,4,none⟩=some xu:=⟨kB4.c6.1,kB4.c6.2.1,kB4.c6.2.2.1,kB4.c6.2.2.2.1,kB4.c6.2.2.2.2.1,kB4.c6.2.2.2.2.2,(G8 hX4.y).c6.2.2.2.2.1⟩;have hnews:∀(j:Nat) (u:Value),(rowR (x0,.slice (some ⟨g3,0,none⟩) n3 m3,.slice (some ⟨g4,0,none⟩) n4 m4))[j]?=some u->(X3.alloc (.cells #[.string x0.nm,.slice (some ⟨g3,0,none⟩) n3 m3,.slice (some ⟨g4,0,none⟩) n4 m4,.string x0.ad,.int .i64 x0.si,.int .i64 x0.st] 71)).cell? ((⟨X3.heap.size,0,none⟩:Addr).add j)=some u:=λj u hj=>AfB _ _ _ _ _ _ _ _ hj;clear hX3 hW3 hrc3 hS3 kB3;refine D7 (i:=4) (by kernel_rfl) rfl (λK hK=>?_);go_simp
    refine hK.out _ _ (λ_=>hS4) ?_;clear hK K;clear hnb9;generalize X3.alloc (.cells #[.string x0.nm,.slice (some ⟨g3,0,none⟩) n3 m3,.slice (some ⟨g4,0,none⟩) n4 m4,.string x0.ad,.int .i64 x0.si,.int .i64 x0.st] 71)=X4 at hX4 hW4 hrc4 hS4 hnews kB4 ⊢
    refine D7 (i:=5) (by kernel_rfl) rfl (λK hK=>?_);refine F4 rfl _ _ 38 rfl W1.heap.size 71 irb _ 6 96 Tryz.underlying38 hirb r0 r1 r2 rfl (by decide) xu _ _ rfl hW4.1.1 ⟨X3.heap.size,0,none⟩ 1 1 (rowR (x0,.slice (some ⟨g3,0,none⟩) n3 m3,.slice (some ⟨g4,0,none⟩) n4 m4)) rfl rfl hnews (Acn hrc4) (by unfold maxLen;omega) (by omega) hX4.B.size ?_;intro v5 X5 hown5 hgr5;have hX5:=hX4.row hW4.1.1 hgr5;have hW5:RbsP X5 W1.heap.size v5 (ps++[(x0,.slice (some ⟨g3,0,none⟩) n3 m3,.slice (some ⟨g4,0,none⟩) n4 m4)]):=⟨hW4.1.app hrc4 hgr5 hown5,by rw[List.map_append];exact Adb hW4.2.1 Hap1.out,by rw[List.map_append];exact Adb hW4.2.2 Hap2.out⟩;have kB5:=kB4.kept hgr5 (λe=>by have:=HltN.out N e.symm;omega);have hS5:World.cell? X5 ⟨N,0,none⟩=some (.string x0.nm)/\World.cell? X5 ⟨N,1,none⟩=some (.slice (some ⟨p,q,none⟩) x0.ps.length c)/\World.cell? X5 ⟨N,2,none⟩=some (.slice (some ⟨g,r,none⟩) x0.sl.length d)/\World.cell? X5 ⟨N,3,none⟩=some (.string x0.ad)/\World.cell? X5 ⟨N,4,none⟩=some (.int .i64 x0.si)/\World.cell? X5 ⟨N,5,none⟩=some (.int .i64 x0.st)/\World.cell? X5 ⟨Y,4,none⟩=some xu:=⟨kB5.c6.1,kB5.c6.2.1,kB5.c6.2.2.1,kB5.c6.2.2.2.1,kB5.c6.2.2.2.2.1,kB5.c6.2.2.2.2.2,(G8 hX5.y).c6.2.2.2.2.1⟩;obtain⟨gg,cc,rfl⟩:=F2 hown5 (by omega);clear hown5 hgr5 hX4 hW4 hrc4 hS4 hnews kB4 kB5;refine hK.out _ _ (λ_=>hS5) ?_;clear hK K;refine tkx 6 rfl hS5 ?_;have hX6:=hX5.put (.slice (some ⟨gg,0,none⟩) (ps.length+1) cc);have hW6:=RbsP.off (j:=4) (u:=.slice (some ⟨gg,0,none⟩) (ps.length+1) cc) hX5 hW5;have kY:=G8 hX5.y;obtain⟨j0,j1,j2,j3,j4,j5⟩:=kY.c6;obtain⟨l0,l1,l2,l3,l4,l5⟩:=kY.f6;refine D7 (i:=7) (by kernel_rfl) rfl (λK hK=>?_);go_simp
    refine hK.out _ _ (λh=>absurd rfl h) ?_;clear hK K;refine F0 (by kernel_rfl) ?_ _
    have HM:Hid ((ps++[((x0,.slice (some ⟨g3,0,none⟩) n3 m3,.slice (some ⟨g4,0,none⟩) n4 m4):Rv)]).map (·.1)=h.bs.take (k+1)):=by
     show _=_
     rw[HX.out,List.map_append,Hps.out];rfl
    clear hX5 hW5 hS5 kY j0 j1 j2 j3 j4 j5 l0 l1 l2 l3 l4 l5 hS hb3;go_wp2_with fail
    go_roundw
    case rel =>
     rw[hpl] at hX6 hW6;exact⟨k+1,_,_,by omega,by go_num,HM.out,hX6,hW6⟩
    case measure=>simp[intOf];omega
   ·obtain rfl:k=h.bs.length:=by omega
    have kR9:=kR.up hX.B hR0;obtain⟨y0,y1,y2,y3,y4,y5⟩:=kR9.c6;obtain⟨f0,f1,f2,f3,f4,f5⟩:=kR9.f6;have kY:=G8 hX.y;obtain⟨j0,j1,j2,j3,j4,j5⟩:=kY.c6;have Hps2:Hid (ps.map (·.1)=h.bs):=by show _=_;rw[Hps.out,List.take_length]
    have hBB:=D5 hB1 (hX.B.mono (A3 _));obtain⟨t1,d1,t2,d2,e9⟩:=hX.k.shape;simp only[Value.agg.injEq,Array.mk.injEq,List.cons.injEq,and_true] at e9;obtain⟨rfl,rfl⟩:=e9;obtain⟨ax,cx,rfl⟩:=E9 hW.1.1;obtain⟨ad,cd,rfl⟩:=E9 hX.d;clear hpl;go_wp2_with fail
    refine Aaq Tryz.results115 Tryz.underlying41 rfl J7 kR9 rfl ?_;have hg9:=L0 wr (w.heap.size+1) (.int .i64 h.now) (.int .i64 h.last) (.slice t1 h.sh.things.length d1) (.slice t2 h.sh.bs.length d2) (.slice ax ps.length cx) (.slice ad h.ds.length cd);refine⟨⟨_,_,_,_,rfl,?_⟩,J2 hBB (by omega) _ _ _ _ _ _⟩;exact ((⟨hX.k,Hz.out,⟨ps,hW,Hps2.out⟩,hX.d,Hdz.out⟩:HP wr W1.heap.size h _ _ _ _).gr hg9 hR0).low hLW
end Go.Proofs.YtgecdacgmehmbaaGreatDoor
