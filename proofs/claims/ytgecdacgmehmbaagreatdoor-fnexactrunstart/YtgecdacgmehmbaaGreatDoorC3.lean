/- The specification's copy of a house (chapter 22): what it makes. -/
import Derived.Test.YtgecdacgmehmbaaGreatDoorJ36
import Derived.Test.YtgecdacgmehmbaaGreatDoorJ27
import Derived.Test.YtgecdacgmehmbaaGreatDoorJ14
namespace Go.Proofs.YtgecdacgmehmbaaGreatDoor
open Go.RowKit
theorem J7:(Tryz.prog.info? 41).map (·.size)=some 6:=by kernel_rfl
structure CS (W1:World) (h:House) (X:World) (k6 k7 k10:Option Value) (k12:Option Nat):Prop where
 B:Below W1.heap.size W1 X
 s6:∀v,k6=some v->BkW X W1.heap.size v h.sh
 s7:∀v,k7=some v->X.ownsRow W1.heap.size 124 3 v 0 []/\NN v
 s10:∀v,k10=some v->X.ownsRow W1.heap.size 124 3 v h.ds.length (rowsF Done.cells h.ds)/\NN v
 s12:∀y,k12=some y->X.ownsRow W1.heap.size 41 6 (.slice (some ⟨y,0,none⟩) 1 1) 1 [.int .i64 0,.int .i64 0,.slice none 0 0,.slice none 0 0,.slice none 0 0,.slice none 0 0]
theorem cs_nil (W1:World) (h:House):CS W1 h W1 none none none none:=⟨A4 _ _,λ_ h=>(by cases h),λ_ h=>(by cases h),λ_ h=>(by cases h),λ_ h=>(by cases h)⟩
theorem CS.up {W1 X X':World} {h:House} {k6 k7 k10:Option Value} {k12:Option Nat} (H:CS W1 h X k6 k7 k10 k12) (hb:Below X.heap.size X X'):CS W1 h X' k6 k7 k10 k12 :=
 ⟨D5 H.B hb,λv e=>(H.s6 v e).up hb,λv e=>⟨E0 (H.s7 v e).1 hb,(H.s7 v e).2⟩,λv e=>⟨E0 (H.s10 v e).1 hb,(H.s10 v e).2⟩,λy e=>E0 (H.s12 y e) hb⟩
theorem CS.call {W1 X X':World} {h:House} {k6 k7 k10:Option Value} {k12:Option Nat} {v:Value} (H:CS W1 h X k6 k7 k10 k12) (hb:Below X.heap.size X X') (hv:BkW X' X.heap.size v h.sh):CS W1 h X' (some v) k7 k10 k12 :=
 {H.up hb with s6:=λu e=>by cases e;exact hv.low H.B.size}
theorem CS.lit {W1 X:World} {h:House} {k6 k7 k10:Option Value} {k12:Option Nat} (H:CS W1 h X k6 k7 k10 k12):CS W1 h (X.alloc (.cells #[] 124)) k6 (some (.slice (some ⟨X.heap.size,0,none⟩) 0 0)) k10 k12 :=
 {H.up ((A4 _ _).alloc (A3 _) _) with s7:=λu e=>by cases e;exact⟨F9 (AdI X _ _) H.B.size,_,_,_,rfl⟩}
theorem CS.new {W1 X:World} {h:House} {k6 k7 k10:Option Value} {k12:Option Nat} (H:CS W1 h X k6 k7 k10 k12):CS W1 h (X.alloc (.cells #[.int .i64 0,.int .i64 0,.slice none 0 0,.slice none 0 0,.slice none 0 0,.slice none 0 0] 41)) k6 k7 k10 (some X.heap.size) :=
 {H.up ((A4 _ _).alloc (A3 _) _) with s12:=λu e=>by cases e;exact B8 X _ 1 H.B.size (by unfold maxLen;omega) rfl}
theorem CS.app {W1 X X':World} {h:House} {k6 k10:Option Value} {k12:Option Nat} {v v':Value} (H:CS W1 h X k6 (some v) k10 k12) (hg:X.grownBy X' v.ownBlock) (hv:X'.ownsRow W1.heap.size 124 3 v' (0+h.ds.length) ([]++rowsF Done.cells h.ds)) (hn:NN v'):CS W1 h X' k6 none (some v') k12:=by
 have h7:=(H.s7 v rfl).1;refine⟨F5 H.B H.B.size h7 hg (A3 _),λu e=>(H.s6 u e).step h7 (by decide) (by decide) hg,λ_ e=>(by cases e),λu e=>?_,λy e=>E4 (H.s12 y e) hg (E5 (H.s12 y e) h7 (by decide))⟩;cases e
 exact⟨by simpa using hv,hn⟩
theorem G8 {w:World} {base e y:Nat} {cs:List Value} (h:w.ownsRow base e 6 (.slice (some ⟨y,0,none⟩) 1 1) 1 cs):CB w y cs:=by
 have hl:cs.length=6:=h.1;refine⟨λj v hv=>?_,λj hj=>?_,(h.lt y rfl).2⟩
 ·have hj:j<cs.length:=(A2.1 hv).1
  rw[Nat.zero_add,h.cellAt j (by omega)];exact hv
 ·rw[Nat.zero_add]
  refine⟨?_,h.frozenAt j⟩;rw[h.cellAt j (by omega),A0 hj];rfl
structure CX (W1:World) (h:House) (X:World) (y:Nat) (tu bu xu du:Value):Prop where
 B:Below W1.heap.size W1 X
 k:BkW X W1.heap.size (.agg #[tu,bu]) h.sh
 d:X.ownsRow W1.heap.size 124 3 du h.ds.length (rowsF Done.cells h.ds)
 nd:NN du
 y:X.ownsRow W1.heap.size 41 6 (.slice (some ⟨y,0,none⟩) 1 1) 1 [.int .i64 h.now,.int .i64 h.last,tu,bu,xu,du]
theorem CX.up {W1 X X':World} {h:House} {y:Nat} {tu bu xu du:Value} (H:CX W1 h X y tu bu xu du) (hb:Below X.heap.size X X'):CX W1 h X' y tu bu xu du :=
 ⟨D5 H.B hb,H.k.up hb,E0 H.d hb,H.nd,E0 H.y hb⟩
theorem CX.row {W1 X X':World} {h:House} {y n:Nat} {tu bu xu du v:Value} {xs:List Value} (H:CX W1 h X y tu bu xu du) (hrow:X.ownsRow W1.heap.size 71 6 v n xs) (hg:X.grownBy X' v.ownBlock):CX W1 h X' y tu bu xu du :=
 ⟨F5 H.B H.B.size hrow hg (A3 _),H.k.step hrow (by decide) (by decide) hg,E4 H.d hg (E5 H.d hrow (by decide)),H.nd,E4 H.y hg (E5 H.y hrow (by decide))⟩
theorem CX.put {W1 X:World} {h:House} {y:Nat} {tu bu xu du:Value} (H:CX W1 h X y tu bu xu du) (u:Value):CX W1 h (X.setCell ⟨y,4,none⟩ u) y tu bu u du:=by
 obtain⟨h1,h2⟩:=B2 H.y 4 u;have hg:X.grownBy (X.setCell ⟨y,4,none⟩ u) (Value.slice (some ⟨y,0,none⟩) 1 1).ownBlock:=h2;exact⟨F5 H.B H.B.size H.y hg (A3 _),H.k.step H.y (by decide) (by decide) hg,E4 H.d hg (E5 H.d H.y (by decide)),H.nd,h1⟩
theorem RbsW.off {W1 X:World} {h:House} {y base j:Nat} {tu bu xu du v u:Value} {ps:List Rv} (H:CX W1 h X y tu bu xu du) (hr:RbsW X base v ps):RbsW (X.setCell ⟨y,j,none⟩ u) base v ps:=by
 have hg:X.grownBy (X.setCell ⟨y,j,none⟩ u) (Value.slice (some ⟨y,0,none⟩) 1 1).ownBlock:=(B2 H.y j u).2;exact⟨E4 hr.1 hg (E5 hr.1 H.y (by decide)),λp hp=>(hr.2 p hp).step H.y (by decide) (by decide) hg⟩
theorem CS.fin {W1 X:World} {h:House} {y:Nat} {tu bu du:Value} (H:CS W1 h X (some (.agg #[tu,bu])) none (some du) (some y)):CX W1 h ((((((X.setCell ⟨y,0,none⟩ (.int .i64 h.now)).setCell ⟨y,1,none⟩ (.int .i64 h.last)).setCell ⟨y,2,none⟩ tu).setCell ⟨y,3,none⟩ bu).setCell ⟨y,4,none⟩ (.slice none 0 0)).setCell ⟨y,5,none⟩ du) y tu bu (.slice none 0 0) du:=by
 have h12:=H.s12 y rfl;have h1:=B2 h12 0 (.int .i64 h.now);have h2:=B2 h1.1 1 (.int .i64 h.last);have h3:=B2 h2.1 2 tu;have h4:=B2 h3.1 3 bu;have h5:=B2 h4.1 4 (.slice none 0 0);have h6:=B2 h5.1 5 du;have hg:X.grownBy ((((((X.setCell ⟨y,0,none⟩ (.int .i64 h.now)).setCell ⟨y,1,none⟩ (.int .i64 h.last)).setCell ⟨y,2,none⟩ tu).setCell ⟨y,3,none⟩ bu).setCell ⟨y,4,none⟩ (.slice none 0 0)).setCell ⟨y,5,none⟩ du) (Value.slice (some ⟨y,0,none⟩) 1 1).ownBlock:=E3 (E3 (E3 (E3 (E3 h1.2 h2.2) h3.2) h4.2) h5.2) h6.2;exact⟨F5 H.B H.B.size h12 hg (A3 _),(H.s6 _ rfl).step h12 (by decide) (by decide) hg,E4 (H.s10 _ rfl).1 hg (E5 (H.s10 _ rfl).1 h12 (by decide)),(H.s10 _ rfl).2,h6.1⟩
theorem Abo {w w':World} {a4:Option Addr} {ds:List Done} (h:0<ds.length->∃b o,a4=some ⟨b,o,none⟩/\DnsAt w b o ds/\b<w.heap.size) (hb:Below w.heap.size w w'):0<ds.length->∃d,a4=some d/\∀j u,(rowsF Done.cells ds)[j]?=some u->w'.cell? (d.add j)=some u:=λhp=>by
 obtain⟨b,o,rfl,hD,hlt⟩:=h hp;refine⟨_,rfl,Y8 (by decide) I8 λi d hd j u hu=>?_⟩;have h1:=(hD i d hd).1 j u hu;rw[hb.cell (p:=⟨b,o+i*3+j,none⟩) hlt];exact h1
set_option maxRecDepth 20000 in
set_option maxHeartbeats 8000000 in
theorem Aew (h:House) (tv bv xv dv:Value) (w:World) (H:HV w h tv bv xv dv) (hz1:h.sh.things.length<=100) (hz2:h.sh.bs.length<=100) (hz3:∀y∈h.sh.bs,y.has.length<=100/\y.needs.length<=100) (hnb:h.bs.length<=1048576) (hnd:h.ds.length<=1048576) :
  Calls Tryz.prog 25 #[.agg #[.int .i64 h.now,.int .i64 h.last,tv,bv,xv,dv]] w λe w'=>(∃tu bu xu du,e=.returned (.agg #[.int .i64 h.now,.int .i64 h.last,tu,bu,xu,du])/\HW w' w.heap.size h tu bu xu du)/\Below w.heap.size w w':=by
 have Hsz:=H.book.szb;obtain⟨a1,c1,a2,c2,a3,c3,a4,c4,rfl,rfl,rfl,rfl⟩:=H.shapes;obtain⟨idn,hidn,n0,n1,n2⟩:=info_parts Aix;obtain⟨W1,hW1,kA,kR,hB1,hs1⟩:=L8 w [.int .i64 h.now,.int .i64 h.last,.slice a1 h.sh.things.length c1,.slice a2 h.sh.bs.length c2,.slice a3 h.bs.length c3,.slice a4 h.ds.length c4] 41 [.int .i64 0,.int .i64 0,.slice none 0 0,.slice none 0 0,.slice none 0 0,.slice none 0 0] 41;go_enter Tryz.func25,Tryz.ntmps25
 go_upto_region 1 with fail
 try rw[hW1]
 clear hW1;have hA0:w.heap.size<W1.heap.size:=by omega
 have hR0:w.heap.size+1<W1.heap.size:=by omega
 have hLW:w.heap.size<=W1.heap.size:=by omega
 clear hs1;have H1:=H.up hB1;have HB:Hid (BkV W1 (.agg #[.slice a1 h.sh.things.length c1,.slice a2 h.sh.bs.length c2]) h.sh):=H1.book
 have hpd:Hid (0<h.ds.length->∃b o,a4=some ⟨b,o,none⟩/\DnsAt W1 b o h.ds/\b<W1.heap.size):=by
  obtain⟨a,c,e,-,h2⟩:=H1.d;simp only[Value.slice.injEq] at e;obtain⟨rfl,-,-⟩:=e;exact h2
 have mk:∀w',Below W1.heap.size W1 w'->Below W1.heap.size W1 w'/\World.cell? w' ⟨w.heap.size,0,none⟩=some (.int .i64 h.now)/\World.cell? w' ⟨w.heap.size,1,none⟩=some (.int .i64 h.last)/\World.cell? w' ⟨w.heap.size,2,none⟩=some (.slice a1 h.sh.things.length c1)/\World.cell? w' ⟨w.heap.size,3,none⟩=some (.slice a2 h.sh.bs.length c2)/\World.cell? w' ⟨w.heap.size,4,none⟩=some (.slice a3 h.bs.length c3)/\World.cell? w' ⟨w.heap.size,5,none⟩=some (.slice a4 h.ds.length c4):=λw' hb'=>by
  obtain⟨e0,e1,e2,e3,e4,e5⟩:=(kA.up hb' hA0).c6;exact⟨hb',e0,e1,e2,e3,e4,e5⟩
 have Mk:Hid (∀w',Below W1.heap.size W1 w'->Below W1.heap.size W1 w'/\World.cell? w' ⟨w.heap.size,0,none⟩=some (.int .i64 h.now)/\World.cell? w' ⟨w.heap.size,1,none⟩=some (.int .i64 h.last)/\World.cell? w' ⟨w.heap.size,2,none⟩=some (.slice a1 h.sh.things.length c1)/\World.cell? w' ⟨w.heap.size,3,none⟩=some (.slice a2 h.sh.bs.length c2)/\World.cell? w' ⟨w.heap.size,4,none⟩=some (.slice a3 h.bs.length c3)/\World.cell? w' ⟨w.heap.size,5,none⟩=some (.slice a4 h.ds.length c4)):=mk;clear mk;go_cut [3] (λv3 wc=>∃(Y:Nat) (tu bu du:Value),v3=.pointer (some ⟨Y,0,none⟩)/\CX W1 h wc Y tu bu (.slice none 0 0) du)
 case first =>
  have hC:CS W1 h W1.drew none none none none:=(cs_nil W1 h).up (A4 _ _).drew;refine F6 99 (λw'=>Below W1.heap.size W1 w'/\World.cell? w' ⟨w.heap.size,0,none⟩=some (.int .i64 h.now)/\World.cell? w' ⟨w.heap.size,1,none⟩=some (.int .i64 h.last)/\World.cell? w' ⟨w.heap.size,2,none⟩=some (.slice a1 h.sh.things.length c1)/\World.cell? w' ⟨w.heap.size,3,none⟩=some (.slice a2 h.sh.bs.length c2)/\World.cell? w' ⟨w.heap.size,4,none⟩=some (.slice a3 h.bs.length c3)/\World.cell? w' ⟨w.heap.size,5,none⟩=some (.slice a4 h.ds.length c4)) (by kernel_rfl) ?_;generalize W1.drew=X1 at hC ⊢
  have hS1:=Mk.out _ hC.B;refine tkx 0 rfl hS1 ?_;refine tkx 1 rfl hS1 ?_;refine tkx 2 rfl hS1 ?_;refine tkx 3 rfl hS1 ?_;refine tkx 4 rfl hS1 ?_;refine tkx 5 rfl hS1 ?_;refine tkx 8 rfl hS1 ?_;refine tkx 9 rfl hS1 ?_;refine AiQ (i:=6) (j:=7) (l:=12) (by kernel_rfl) rfl rfl rfl (λK hK=>?_) (λK hK=>?_) (λK hK=>?_)
  ·(go_simp;go_wp2_with (go_at_call 63;refine (R4 h.sh _ _ (HB.out.up hC.B) hz1 hz2 hz3).mono ?_;rintro e X2 ⟨⟨v8,rfl,hk8⟩,hb8⟩;replace hC:=hC.call hb8 hk8;obtain⟨t1,d1,t2,d2,ps8,rfl,-⟩:=hk8.parts;clear hk8 hb8);refine hK.out _ _ (λ_=>(Mk.out _ hC.B)) ?_;clear hK K)
   refine J9 (i:=7) (j:=12) (by kernel_rfl) rfl rfl (λK hK=>?_) (λK hK=>?_)
   ·(go_simp;replace hC:=hC.lit;refine hK.out _ _ (λ_=>(Mk.out _ hC.B)) ?_;clear hK K;generalize World.alloc _ (.cells #[] 124)=X3 at hC ⊢)
    refine J9 (i:=10) (j:=12) (by kernel_rfl) rfl rfl (λK hK=>?_) (λK hK=>?_)
    ·(have h7:=hC.s7 _ rfl;refine K0 rfl _ _ 39 rfl W1.heap.size 124 idn _ 3 32 Tryz.underlying39 hidn n0 n1 n2 rfl (by decide) _ 0 [] rfl h7.1 a4 h.ds.length c4 (rowsF Done.cells h.ds) rfl (I6 I8 _) (Abo hpd.out hC.B) (AaB _) (by unfold maxLen;omega) (by omega) hC.B.size ?_;intro v9 X5 hown9 hgr9 hnn9;replace hC:=hC.app hgr9 hown9 (hnn9 h7.2);obtain⟨g9,n9,m9,rfl⟩:=hnn9 h7.2;clear hown9 hgr9 h7 hnn9;refine hK.out _ _ (λ_=>(Mk.out _ hC.B)) ?_;clear hK K)
     refine tkx 11 rfl (Mk.out _ hC.B) ?_;refine D7 (i:=12) (by kernel_rfl) rfl (λK hK=>?_)
     (go_simp;replace hC:=hC.new;refine hK.out _ _ (λ_=>(Mk.out _ hC.B)) ?_;clear hK K;generalize World.alloc _ (.cells #[.int .i64 0,.int .i64 0,.slice none 0 0,.slice none 0 0,.slice none 0 0,.slice none 0 0] 41)=X4 at hC ⊢)
     (have kY:=G8 (hC.s12 _ rfl);obtain⟨j0,j1,j2,j3,j4,j5⟩:=kY.c6;obtain⟨m0,m1,m2,m3,m4,m5⟩:=kY.f6;replace hC:=hC.fin;refine D7 (i:=13) (by kernel_rfl) rfl (λK hK=>?_);go_simp;refine hK.out _ _ (λ_=>Mk.out _ hC.B) ?_;clear hK K j0 j1 j2 j3 j4 j5 m0 m1 m2 m3 m4 m5 kY;refine F0 (by kernel_rfl) ?_ _;go_wp2_with fail;go_meet;exact⟨_,_,_,_,rfl,hC⟩)
    ·(go_simp;replace hC:=hC.new;refine hK.out _ _ (λ_=>(Mk.out _ hC.B)) ?_;clear hK K;generalize World.alloc _ (.cells #[.int .i64 0,.int .i64 0,.slice none 0 0,.slice none 0 0,.slice none 0 0,.slice none 0 0] 41)=X4 at hC ⊢)
     refine D7 (i:=10) (by kernel_rfl) rfl (λK hK=>?_)
     (have h7:=hC.s7 _ rfl;refine K0 rfl _ _ 39 rfl W1.heap.size 124 idn _ 3 32 Tryz.underlying39 hidn n0 n1 n2 rfl (by decide) _ 0 [] rfl h7.1 a4 h.ds.length c4 (rowsF Done.cells h.ds) rfl (I6 I8 _) (Abo hpd.out hC.B) (AaB _) (by unfold maxLen;omega) (by omega) hC.B.size ?_;intro v9 X5 hown9 hgr9 hnn9;replace hC:=hC.app hgr9 hown9 (hnn9 h7.2);obtain⟨g9,n9,m9,rfl⟩:=hnn9 h7.2;clear hown9 hgr9 h7 hnn9;refine hK.out _ _ (λ_=>(Mk.out _ hC.B)) ?_;clear hK K)
     refine tkx 11 rfl (Mk.out _ hC.B) ?_
     (have kY:=G8 (hC.s12 _ rfl);obtain⟨j0,j1,j2,j3,j4,j5⟩:=kY.c6;obtain⟨m0,m1,m2,m3,m4,m5⟩:=kY.f6;replace hC:=hC.fin;refine D7 (i:=13) (by kernel_rfl) rfl (λK hK=>?_);go_simp;refine hK.out _ _ (λ_=>Mk.out _ hC.B) ?_;clear hK K j0 j1 j2 j3 j4 j5 m0 m1 m2 m3 m4 m5 kY;refine F0 (by kernel_rfl) ?_ _;go_wp2_with fail;go_meet;exact⟨_,_,_,_,rfl,hC⟩)
   ·(go_simp;replace hC:=hC.new;refine hK.out _ _ (λ_=>(Mk.out _ hC.B)) ?_;clear hK K;generalize World.alloc _ (.cells #[.int .i64 0,.int .i64 0,.slice none 0 0,.slice none 0 0,.slice none 0 0,.slice none 0 0] 41)=X4 at hC ⊢)
    refine D7 (i:=7) (by kernel_rfl) rfl (λK hK=>?_)
    (go_simp;replace hC:=hC.lit;refine hK.out _ _ (λ_=>(Mk.out _ hC.B)) ?_;clear hK K;generalize World.alloc _ (.cells #[] 124)=X3 at hC ⊢)
    refine D7 (i:=10) (by kernel_rfl) rfl (λK hK=>?_)
    (have h7:=hC.s7 _ rfl;refine K0 rfl _ _ 39 rfl W1.heap.size 124 idn _ 3 32 Tryz.underlying39 hidn n0 n1 n2 rfl (by decide) _ 0 [] rfl h7.1 a4 h.ds.length c4 (rowsF Done.cells h.ds) rfl (I6 I8 _) (Abo hpd.out hC.B) (AaB _) (by unfold maxLen;omega) (by omega) hC.B.size ?_;intro v9 X5 hown9 hgr9 hnn9;replace hC:=hC.app hgr9 hown9 (hnn9 h7.2);obtain⟨g9,n9,m9,rfl⟩:=hnn9 h7.2;clear hown9 hgr9 h7 hnn9;refine hK.out _ _ (λ_=>(Mk.out _ hC.B)) ?_;clear hK K)
    refine tkx 11 rfl (Mk.out _ hC.B) ?_
    (have kY:=G8 (hC.s12 _ rfl);obtain⟨j0,j1,j2,j3,j4,j5⟩:=kY.c6;obtain⟨m0,m1,m2,m3,m4,m5⟩:=kY.f6;replace hC:=hC.fin;refine D7 (i:=13) (by kernel_rfl) rfl (λK hK=>?_);go_simp;refine hK.out _ _ (λ_=>Mk.out _ hC.B) ?_;clear hK K j0 j1 j2 j3 j4 j5 m0 m1 m2 m3 m4 m5 kY;refine F0 (by kernel_rfl) ?_ _;go_wp2_with fail;go_meet;exact⟨_,_,_,_,rfl,hC⟩)
  ·(go_simp;replace hC:=hC.lit;refine hK.out _ _ (λ_=>(Mk.out _ hC.B)) ?_;clear hK K;generalize World.alloc _ (.cells #[] 124)=X3 at hC ⊢)
   refine J9 (i:=6) (j:=12) (by kernel_rfl) rfl rfl (λK hK=>?_) (λK hK=>?_)
   ·(go_simp;go_wp2_with (go_at_call 63;refine (R4 h.sh _ _ (HB.out.up hC.B) hz1 hz2 hz3).mono ?_;rintro e X2 ⟨⟨v8,rfl,hk8⟩,hb8⟩;replace hC:=hC.call hb8 hk8;obtain⟨t1,d1,t2,d2,ps8,rfl,-⟩:=hk8.parts;clear hk8 hb8);refine hK.out _ _ (λ_=>(Mk.out _ hC.B)) ?_;clear hK K)
    refine J9 (i:=10) (j:=12) (by kernel_rfl) rfl rfl (λK hK=>?_) (λK hK=>?_)
    ·(have h7:=hC.s7 _ rfl;refine K0 rfl _ _ 39 rfl W1.heap.size 124 idn _ 3 32 Tryz.underlying39 hidn n0 n1 n2 rfl (by decide) _ 0 [] rfl h7.1 a4 h.ds.length c4 (rowsF Done.cells h.ds) rfl (I6 I8 _) (Abo hpd.out hC.B) (AaB _) (by unfold maxLen;omega) (by omega) hC.B.size ?_;intro v9 X5 hown9 hgr9 hnn9;replace hC:=hC.app hgr9 hown9 (hnn9 h7.2);obtain⟨g9,n9,m9,rfl⟩:=hnn9 h7.2;clear hown9 hgr9 h7 hnn9;refine hK.out _ _ (λ_=>(Mk.out _ hC.B)) ?_;clear hK K)
     refine tkx 11 rfl (Mk.out _ hC.B) ?_;refine D7 (i:=12) (by kernel_rfl) rfl (λK hK=>?_)
     (go_simp;replace hC:=hC.new;refine hK.out _ _ (λ_=>(Mk.out _ hC.B)) ?_;clear hK K;generalize World.alloc _ (.cells #[.int .i64 0,.int .i64 0,.slice none 0 0,.slice none 0 0,.slice none 0 0,.slice none 0 0] 41)=X4 at hC ⊢)
     (have kY:=G8 (hC.s12 _ rfl);obtain⟨j0,j1,j2,j3,j4,j5⟩:=kY.c6;obtain⟨m0,m1,m2,m3,m4,m5⟩:=kY.f6;replace hC:=hC.fin;refine D7 (i:=13) (by kernel_rfl) rfl (λK hK=>?_);go_simp;refine hK.out _ _ (λ_=>Mk.out _ hC.B) ?_;clear hK K j0 j1 j2 j3 j4 j5 m0 m1 m2 m3 m4 m5 kY;refine F0 (by kernel_rfl) ?_ _;go_wp2_with fail;go_meet;exact⟨_,_,_,_,rfl,hC⟩)
    ·(go_simp;replace hC:=hC.new;refine hK.out _ _ (λ_=>(Mk.out _ hC.B)) ?_;clear hK K;generalize World.alloc _ (.cells #[.int .i64 0,.int .i64 0,.slice none 0 0,.slice none 0 0,.slice none 0 0,.slice none 0 0] 41)=X4 at hC ⊢)
     refine D7 (i:=10) (by kernel_rfl) rfl (λK hK=>?_)
     (have h7:=hC.s7 _ rfl;refine K0 rfl _ _ 39 rfl W1.heap.size 124 idn _ 3 32 Tryz.underlying39 hidn n0 n1 n2 rfl (by decide) _ 0 [] rfl h7.1 a4 h.ds.length c4 (rowsF Done.cells h.ds) rfl (I6 I8 _) (Abo hpd.out hC.B) (AaB _) (by unfold maxLen;omega) (by omega) hC.B.size ?_;intro v9 X5 hown9 hgr9 hnn9;replace hC:=hC.app hgr9 hown9 (hnn9 h7.2);obtain⟨g9,n9,m9,rfl⟩:=hnn9 h7.2;clear hown9 hgr9 h7 hnn9;refine hK.out _ _ (λ_=>(Mk.out _ hC.B)) ?_;clear hK K)
     refine tkx 11 rfl (Mk.out _ hC.B) ?_
     (have kY:=G8 (hC.s12 _ rfl);obtain⟨j0,j1,j2,j3,j4,j5⟩:=kY.c6;obtain⟨m0,m1,m2,m3,m4,m5⟩:=kY.f6;replace hC:=hC.fin;refine D7 (i:=13) (by kernel_rfl) rfl (λK hK=>?_);go_simp;refine hK.out _ _ (λ_=>Mk.out _ hC.B) ?_;clear hK K j0 j1 j2 j3 j4 j5 m0 m1 m2 m3 m4 m5 kY;refine F0 (by kernel_rfl) ?_ _;go_wp2_with fail;go_meet;exact⟨_,_,_,_,rfl,hC⟩)
   ·(go_simp;replace hC:=hC.new;refine hK.out _ _ (λ_=>(Mk.out _ hC.B)) ?_;clear hK K;generalize World.alloc _ (.cells #[.int .i64 0,.int .i64 0,.slice none 0 0,.slice none 0 0,.slice none 0 0,.slice none 0 0] 41)=X4 at hC ⊢)
    refine D7 (i:=6) (by kernel_rfl) rfl (λK hK=>?_)
    (go_simp;go_wp2_with (go_at_call 63;refine (R4 h.sh _ _ (HB.out.up hC.B) hz1 hz2 hz3).mono ?_;rintro e X2 ⟨⟨v8,rfl,hk8⟩,hb8⟩;replace hC:=hC.call hb8 hk8;obtain⟨t1,d1,t2,d2,ps8,rfl,-⟩:=hk8.parts;clear hk8 hb8);refine hK.out _ _ (λ_=>(Mk.out _ hC.B)) ?_;clear hK K)
    refine D7 (i:=10) (by kernel_rfl) rfl (λK hK=>?_)
    (have h7:=hC.s7 _ rfl;refine K0 rfl _ _ 39 rfl W1.heap.size 124 idn _ 3 32 Tryz.underlying39 hidn n0 n1 n2 rfl (by decide) _ 0 [] rfl h7.1 a4 h.ds.length c4 (rowsF Done.cells h.ds) rfl (I6 I8 _) (Abo hpd.out hC.B) (AaB _) (by unfold maxLen;omega) (by omega) hC.B.size ?_;intro v9 X5 hown9 hgr9 hnn9;replace hC:=hC.app hgr9 hown9 (hnn9 h7.2);obtain⟨g9,n9,m9,rfl⟩:=hnn9 h7.2;clear hown9 hgr9 h7 hnn9;refine hK.out _ _ (λ_=>(Mk.out _ hC.B)) ?_;clear hK K)
    refine tkx 11 rfl (Mk.out _ hC.B) ?_
    (have kY:=G8 (hC.s12 _ rfl);obtain⟨j0,j1,j2,j3,j4,j5⟩:=kY.c6;obtain⟨m0,m1,m2,m3,m4,m5⟩:=kY.f6;replace hC:=hC.fin;refine D7 (i:=13) (by kernel_rfl) rfl (λK hK=>?_);go_simp;refine hK.out _ _ (λ_=>Mk.out _ hC.B) ?_;clear hK K j0 j1 j2 j3 j4 j5 m0 m1 m2 m3 m4 m5 kY;refine F0 (by kernel_rfl) ?_ _;go_wp2_with fail;go_meet;exact⟨_,_,_,_,rfl,hC⟩)
  ·(go_simp;replace hC:=hC.new;refine hK.out _ _ (λ_=>(Mk.out _ hC.B)) ?_;clear hK K;generalize World.alloc _ (.cells #[.int .i64 0,.int .i64 0,.slice none 0 0,.slice none 0 0,.slice none 0 0,.slice none 0 0] 41)=X4 at hC ⊢)
   refine J9 (i:=6) (j:=7) (by kernel_rfl) rfl rfl (λK hK=>?_) (λK hK=>?_)
   ·(go_simp;go_wp2_with (go_at_call 63;refine (R4 h.sh _ _ (HB.out.up hC.B) hz1 hz2 hz3).mono ?_;rintro e X2 ⟨⟨v8,rfl,hk8⟩,hb8⟩;replace hC:=hC.call hb8 hk8;obtain⟨t1,d1,t2,d2,ps8,rfl,-⟩:=hk8.parts;clear hk8 hb8);refine hK.out _ _ (λ_=>(Mk.out _ hC.B)) ?_;clear hK K)
    refine D7 (i:=7) (by kernel_rfl) rfl (λK hK=>?_)
    (go_simp;replace hC:=hC.lit;refine hK.out _ _ (λ_=>(Mk.out _ hC.B)) ?_;clear hK K;generalize World.alloc _ (.cells #[] 124)=X3 at hC ⊢)
    refine D7 (i:=10) (by kernel_rfl) rfl (λK hK=>?_)
    (have h7:=hC.s7 _ rfl;refine K0 rfl _ _ 39 rfl W1.heap.size 124 idn _ 3 32 Tryz.underlying39 hidn n0 n1 n2 rfl (by decide) _ 0 [] rfl h7.1 a4 h.ds.length c4 (rowsF Done.cells h.ds) rfl (I6 I8 _) (Abo hpd.out hC.B) (AaB _) (by unfold maxLen;omega) (by omega) hC.B.size ?_;intro v9 X5 hown9 hgr9 hnn9;replace hC:=hC.app hgr9 hown9 (hnn9 h7.2);obtain⟨g9,n9,m9,rfl⟩:=hnn9 h7.2;clear hown9 hgr9 h7 hnn9;refine hK.out _ _ (λ_=>(Mk.out _ hC.B)) ?_;clear hK K)
    refine tkx 11 rfl (Mk.out _ hC.B) ?_
    (have kY:=G8 (hC.s12 _ rfl);obtain⟨j0,j1,j2,j3,j4,j5⟩:=kY.c6;obtain⟨m0,m1,m2,m3,m4,m5⟩:=kY.f6;replace hC:=hC.fin;refine D7 (i:=13) (by kernel_rfl) rfl (λK hK=>?_);go_simp;refine hK.out _ _ (λ_=>Mk.out _ hC.B) ?_;clear hK K j0 j1 j2 j3 j4 j5 m0 m1 m2 m3 m4 m5 kY;refine F0 (by kernel_rfl) ?_ _;go_wp2_with fail;go_meet;exact⟨_,_,_,_,rfl,hC⟩)
   ·(go_simp;replace hC:=hC.lit;refine hK.out _ _ (λ_=>(Mk.out _ hC.B)) ?_;clear hK K;generalize World.alloc _ (.cells #[] 124)=X3 at hC ⊢)
    refine D7 (i:=6) (by kernel_rfl) rfl (λK hK=>?_)
    (go_simp;go_wp2_with (go_at_call 63;refine (R4 h.sh _ _ (HB.out.up hC.B) hz1 hz2 hz3).mono ?_;rintro e X2 ⟨⟨v8,rfl,hk8⟩,hb8⟩;replace hC:=hC.call hb8 hk8;obtain⟨t1,d1,t2,d2,ps8,rfl,-⟩:=hk8.parts;clear hk8 hb8);refine hK.out _ _ (λ_=>(Mk.out _ hC.B)) ?_;clear hK K)
    refine D7 (i:=10) (by kernel_rfl) rfl (λK hK=>?_)
    (have h7:=hC.s7 _ rfl;refine K0 rfl _ _ 39 rfl W1.heap.size 124 idn _ 3 32 Tryz.underlying39 hidn n0 n1 n2 rfl (by decide) _ 0 [] rfl h7.1 a4 h.ds.length c4 (rowsF Done.cells h.ds) rfl (I6 I8 _) (Abo hpd.out hC.B) (AaB _) (by unfold maxLen;omega) (by omega) hC.B.size ?_;intro v9 X5 hown9 hgr9 hnn9;replace hC:=hC.app hgr9 hown9 (hnn9 h7.2);obtain⟨g9,n9,m9,rfl⟩:=hnn9 h7.2;clear hown9 hgr9 h7 hnn9;refine hK.out _ _ (λ_=>(Mk.out _ hC.B)) ?_;clear hK K)
    refine tkx 11 rfl (Mk.out _ hC.B) ?_
    (have kY:=G8 (hC.s12 _ rfl);obtain⟨j0,j1,j2,j3,j4,j5⟩:=kY.c6;obtain⟨m0,m1,m2,m3,m4,m5⟩:=kY.f6;replace hC:=hC.fin;refine D7 (i:=13) (by kernel_rfl) rfl (λK hK=>?_);go_simp;refine hK.out _ _ (λ_=>Mk.out _ hC.B) ?_;clear hK K j0 j1 j2 j3 j4 j5 m0 m1 m2 m3 m4 m5 kY;refine F0 (by kernel_rfl) ?_ _;go_wp2_with fail;go_meet;exact⟨_,_,_,_,rfl,hC⟩)
 case rest =>
  obtain⟨Y,tu,bu,du,rfl,hX⟩:=hcut;clear Mk HB hpd
  have hxp:Hid (0<h.bs.length->∃b o,a3=some ⟨b,o,none⟩/\RbsAt W1 b o h.bs/\b<W1.heap.size):=by
   obtain⟨a,c,e,-,h2⟩:=H1.x;simp only[Value.slice.injEq] at e;obtain⟨rfl,-,-⟩:=e;exact h2
  have Hz:Hid (Szb h.sh):=Hsz;have Hdz:Hid (∀d∈h.ds,d.nm.size<=maxLen):=H1.d.sized;clear H H1 Hsz hnd hz1 hz2 hz3;obtain⟨irb,hirb,r0,r1,r2⟩:=info_parts AcZ;go_upto_region 3 with fail
  go_loopw [4] (λi w'=>∃(k:Nat) (ps:List Rv) (xu:Value),k<=h.bs.length/\i=.int .i64 k/\ps.map (·.1)=h.bs.take k/\CX W1 h w' Y tu bu xu du/\RbsW w' W1.heap.size xu ps) (λi _=>h.bs.length-(intOf i).toNat)
  case atStart=>exact⟨0,[],.slice none 0 0,by omega,rfl,by simp,hX,B7 _ _ _ _,λp hp=>by simp at hp⟩
  case round =>
   clear hX;obtain⟨k,ps,xu,hk,rfl,hps,hX,hW⟩:=hrel;have Hps:Hid (ps.map (·.1)=h.bs.take k):=hps;have hpl:ps.length=k:=by have:=congrArg List.length hps;simp at this;omega
   clear hps;obtain⟨e0,e1,e2,e3,e4,e5⟩:=(kA.up hX.B hA0).c6;by_cases hp:k<h.bs.length
   ·obtain⟨bb,o,rfl,hS,hb⟩:=hxp.out (by omega)
    obtain⟨p,q,c,g,r,d,⟨q0,q1,q2,q3,q4,q5⟩,hv⟩:=((hS.at hp).up hX.B hb).open;have HX:Hid (h.bs.take (k+1)=h.bs.take k++[h.bs[k]]):=A7 hp;have hzx:=hX.B.size;generalize h.bs[k]=x0 at *;have hbb:bb<wr.heap.size:=by omega
    have hA1:w.heap.size<wr.heap.size:=by omega
    have j4:World.cell? wr ⟨Y,4,none⟩=some xu:=(G8 hX.y).c6.2.2.2.2.1;have hS0:Below W1.heap.size wr wr/\World.cell? wr ⟨w.heap.size,4,none⟩=some (.slice (some ⟨bb,o,none⟩) h.bs.length c3)/\World.cell? wr ⟨bb,o+k*6,none⟩=some (.string x0.nm)/\World.cell? wr ⟨bb,o+k*6+1,none⟩=some (.slice (some ⟨p,q,none⟩) x0.ps.length c)/\World.cell? wr ⟨bb,o+k*6+2,none⟩=some (.slice (some ⟨g,r,none⟩) x0.sl.length d)/\World.cell? wr ⟨bb,o+k*6+3,none⟩=some (.string x0.ad)/\World.cell? wr ⟨bb,o+k*6+4,none⟩=some (.int .i64 x0.si)/\World.cell? wr ⟨bb,o+k*6+5,none⟩=some (.int .i64 x0.st)/\World.cell? wr ⟨Y,4,none⟩=some xu:=⟨A4 _ _,e4,q0,q1,q2,q3,q4,q5,j4⟩;have mk:∀w',Below W1.heap.size wr w'->World.cell? w' ⟨Y,4,none⟩=some xu->Below W1.heap.size wr w'/\World.cell? w' ⟨w.heap.size,4,none⟩=some (.slice (some ⟨bb,o,none⟩) h.bs.length c3)/\World.cell? w' ⟨bb,o+k*6,none⟩=some (.string x0.nm)/\World.cell? w' ⟨bb,o+k*6+1,none⟩=some (.slice (some ⟨p,q,none⟩) x0.ps.length c)/\World.cell? w' ⟨bb,o+k*6+2,none⟩=some (.slice (some ⟨g,r,none⟩) x0.sl.length d)/\World.cell? w' ⟨bb,o+k*6+3,none⟩=some (.string x0.ad)/\World.cell? w' ⟨bb,o+k*6+4,none⟩=some (.int .i64 x0.si)/\World.cell? w' ⟨bb,o+k*6+5,none⟩=some (.int .i64 x0.st)/\World.cell? w' ⟨Y,4,none⟩=some xu:=λw' hb' hy'=>⟨hb',(hb'.cell (p:=⟨w.heap.size,4,none⟩) hA0).trans e4,(hb'.cell (p:=⟨bb,o+k*6,none⟩) hb).trans q0,(hb'.cell (p:=⟨bb,o+k*6+1,none⟩) hb).trans q1,(hb'.cell (p:=⟨bb,o+k*6+2,none⟩) hb).trans q2,(hb'.cell (p:=⟨bb,o+k*6+3,none⟩) hb).trans q3,(hb'.cell (p:=⟨bb,o+k*6+4,none⟩) hb).trans q4,(hb'.cell (p:=⟨bb,o+k*6+5,none⟩) hb).trans q5,hy'⟩;have Mk:Hid (∀w',Below W1.heap.size wr w'->World.cell? w' ⟨Y,4,none⟩=some xu->Below W1.heap.size wr w'/\World.cell? w' ⟨w.heap.size,4,none⟩=some (.slice (some ⟨bb,o,none⟩) h.bs.length c3)/\World.cell? w' ⟨bb,o+k*6,none⟩=some (.string x0.nm)/\World.cell? w' ⟨bb,o+k*6+1,none⟩=some (.slice (some ⟨p,q,none⟩) x0.ps.length c)/\World.cell? w' ⟨bb,o+k*6+2,none⟩=some (.slice (some ⟨g,r,none⟩) x0.sl.length d)/\World.cell? w' ⟨bb,o+k*6+3,none⟩=some (.string x0.ad)/\World.cell? w' ⟨bb,o+k*6+4,none⟩=some (.int .i64 x0.si)/\World.cell? w' ⟨bb,o+k*6+5,none⟩=some (.int .i64 x0.st)/\World.cell? w' ⟨Y,4,none⟩=some xu):=mk;have hS1:Below W1.heap.size wr wr.drew/\World.cell? wr.drew ⟨w.heap.size,4,none⟩=some (.slice (some ⟨bb,o,none⟩) h.bs.length c3)/\World.cell? wr.drew ⟨bb,o+k*6,none⟩=some (.string x0.nm)/\World.cell? wr.drew ⟨bb,o+k*6+1,none⟩=some (.slice (some ⟨p,q,none⟩) x0.ps.length c)/\World.cell? wr.drew ⟨bb,o+k*6+2,none⟩=some (.slice (some ⟨g,r,none⟩) x0.sl.length d)/\World.cell? wr.drew ⟨bb,o+k*6+3,none⟩=some (.string x0.ad)/\World.cell? wr.drew ⟨bb,o+k*6+4,none⟩=some (.int .i64 x0.si)/\World.cell? wr.drew ⟨bb,o+k*6+5,none⟩=some (.int .i64 x0.st)/\World.cell? wr.drew ⟨Y,4,none⟩=some xu:=mk _ (A4 _ _).drew j4;clear mk hS0 e0 e1 e2 e3 q0 q1 q2 q3 q4 q5 e5;go_upto_region 5 with fail
    clear e4 j4;have hX1:CX W1 h wr.drew Y tu bu xu du:=hX.up (A4 _ _).drew;have hW1':RbsW wr.drew W1.heap.size xu ps:=hW.up (A4 _ _).drew;have hv1:=hv.up (A4 wr.heap.size wr).drew;have hbw:Below W1.heap.size wr wr.drew:=(A4 _ _).drew;refine F6 11 (λw'=>Below W1.heap.size wr w'/\World.cell? w' ⟨w.heap.size,4,none⟩=some (.slice (some ⟨bb,o,none⟩) h.bs.length c3)/\World.cell? w' ⟨bb,o+k*6,none⟩=some (.string x0.nm)/\World.cell? w' ⟨bb,o+k*6+1,none⟩=some (.slice (some ⟨p,q,none⟩) x0.ps.length c)/\World.cell? w' ⟨bb,o+k*6+2,none⟩=some (.slice (some ⟨g,r,none⟩) x0.sl.length d)/\World.cell? w' ⟨bb,o+k*6+3,none⟩=some (.string x0.ad)/\World.cell? w' ⟨bb,o+k*6+4,none⟩=some (.int .i64 x0.si)/\World.cell? w' ⟨bb,o+k*6+5,none⟩=some (.int .i64 x0.st)/\World.cell? w' ⟨Y,4,none⟩=some xu) (by kernel_rfl) ?_;generalize wr.drew=X1 at hX1 hW1' hv1 hbw hS1 ⊢
    refine tkx 0 rfl hS1 ?_;refine tkx 1 rfl hS1 ?_;refine tkx 2 rfl hS1 ?_;refine tkx 3 rfl hS1 ?_;refine tkx 4 rfl hS1 ?_;refine tkx 5 rfl hS1 ?_;refine tkx 6 rfl hS1 ?_;refine D7 (i:=7) (by kernel_rfl) rfl (λK hK=>?_);go_simp
    go_wp2_with (go_at_call 29;refine (Aeu x0 _ _ _ hv1).mono ?_;rintro e X2 ⟨⟨ru,su,rfl,hrc⟩,hb2⟩)
    have hX2:=hX1.up hb2;have hW2:=hW1'.up hb2;have hbw2:Below W1.heap.size wr X2:=hbw.trans (hb2.mono hX1.B.size);have hS2:=Mk.out _ hbw2 (G8 hX2.y).c6.2.2.2.2.1;have hrc2:=hrc.low (B1 hX1.B.size (A3 _));obtain⟨g3,n3,m3,rfl⟩:=hrc.nr;obtain⟨g4,n4,m4,rfl⟩:=hrc.ns;clear hX1 hW1' hS1 hrc;refine hK.out _ _ (λ_=>hS2) ?_;clear hK K;have hnb9:Below X2.heap.size X2 (X2.alloc (.cells #[.string x0.nm,.slice (some ⟨g3,0,none⟩) n3 m3,.slice (some ⟨g4,0,none⟩) n4 m4,.string x0.ad,.int .i64 x0.si,.int .i64 x0.st] 71)):=(A4 _ _).alloc (A3 _) _;have hX3:=hX2.up hnb9;have hW3:=hW2.up hnb9;have hrc3:=hrc2.up hnb9;have hbw3:Below W1.heap.size wr (X2.alloc (.cells #[.string x0.nm,.slice (some ⟨g3,0,none⟩) n3 m3,.slice (some ⟨g4,0,none⟩) n4 m4,.string x0.ad,.int .i64 x0.si,.int .i64 x0.st] 71)):=hbw2.trans (hnb9.mono hX2.B.size);have hS3:=Mk.out _ hbw3 (G8 hX3.y).c6.2.2.2.2.1;have hnews:∀(j:Nat) (u:Value),(rowR (x0,.slice (some ⟨g3,0,none⟩) n3 m3,.slice (some ⟨g4,0,none⟩) n4 m4))[j]?=some u->(X2.alloc (.cells #[.string x0.nm,.slice (some ⟨g3,0,none⟩) n3 m3,.slice (some ⟨g4,0,none⟩) n4 m4,.string x0.ad,.int .i64 x0.si,.int .i64 x0.st] 71)).cell? ((⟨X2.heap.size,0,none⟩:Addr).add j)=some u:=λj u hj=>AfB _ _ _ _ _ _ _ _ hj;clear hX2 hW2 hrc2 hS2;refine D7 (i:=8) (by kernel_rfl) rfl (λK hK=>?_);go_simp
    refine hK.out _ _ (λ_=>hS3) ?_;clear hK K;clear hnb9;generalize X2.alloc (.cells #[.string x0.nm,.slice (some ⟨g3,0,none⟩) n3 m3,.slice (some ⟨g4,0,none⟩) n4 m4,.string x0.ad,.int .i64 x0.si,.int .i64 x0.st] 71)=X3 at hX3 hW3 hrc3 hbw3 hS3 hnews ⊢
    refine D7 (i:=9) (by kernel_rfl) rfl (λK hK=>?_);refine F4 rfl _ _ 38 rfl W1.heap.size 71 irb _ 6 96 Tryz.underlying38 hirb r0 r1 r2 rfl (by decide) xu _ _ rfl hW3.1 ⟨X2.heap.size,0,none⟩ 1 1 (rowR (x0,.slice (some ⟨g3,0,none⟩) n3 m3,.slice (some ⟨g4,0,none⟩) n4 m4)) rfl rfl hnews (Acn hrc3) (by unfold maxLen;omega) (by omega) hX3.B.size ?_;intro v4 X4 hown4 hgr4;have hX4:=hX3.row hW3.1 hgr4;have hW4:=hW3.app hrc3 hgr4 hown4;have hbw4:Below W1.heap.size wr X4:=F5 hbw3 hX3.B.size hW3.1 hgr4 (A3 _);have hS4:=Mk.out _ hbw4 (G8 hX4.y).c6.2.2.2.2.1;obtain⟨gg,cc,rfl⟩:=F2 hown4 (by omega);clear hown4 hgr4 hX3 hW3 hrc3 hbw3 hS3 hnews;refine hK.out _ _ (λ_=>hS4) ?_;clear hK K;refine tkx 10 rfl hS4 ?_;have hX5:=hX4.put (.slice (some ⟨gg,0,none⟩) (ps.length+1) cc);have hW5:=RbsW.off (j:=4) (u:=.slice (some ⟨gg,0,none⟩) (ps.length+1) cc) hX4 hW4;have kY:=G8 hX4.y;obtain⟨j0,j1,j2,j3,j4,j5⟩:=kY.c6;obtain⟨m0,m1,m2,m3',m4',m5⟩:=kY.f6;refine D7 (i:=11) (by kernel_rfl) rfl (λK hK=>?_);go_simp
    refine hK.out _ _ (λh=>absurd rfl h) ?_;clear hK K;refine F0 (by kernel_rfl) ?_ _
    have HM:Hid ((ps++[((x0,.slice (some ⟨g3,0,none⟩) n3 m3,.slice (some ⟨g4,0,none⟩) n4 m4):Rv)]).map (·.1)=h.bs.take (k+1)):=by
     show _=_
     rw[HX.out,List.map_append,Hps.out];rfl
    clear hX4 hW4 hbw4 hS4 kY j0 j1 j2 j3 j4 j5 m0 m1 m2 m3' m4' m5 Mk hbw hbw2 hv hv1 hS hX hW hb2;go_wp2_with fail
    go_roundw
    case rel =>
     rw[hpl] at hX5 hW5;exact⟨k+1,_,_,by omega,by go_num,HM.out,hX5,hW5⟩
    case measure=>simp[intOf];omega
   ·obtain rfl:k=h.bs.length:=by omega
    have kR9:=kR.up hX.B hR0;obtain⟨y0,y1,y2,y3,y4,y5⟩:=kR9.c6;obtain⟨f0,f1,f2,f3,f4,f5⟩:=kR9.f6;have kY:=G8 hX.y;obtain⟨j0,j1,j2,j3,j4,j5⟩:=kY.c6;have Hps2:Hid (ps.map (·.1)=h.bs):=by show _=_;rw[Hps.out,List.take_length]
    have hBB:=D5 hB1 (hX.B.mono (A3 _));obtain⟨t1,d1,t2,d2,qs,e9,-⟩:=hX.k.parts;simp only[Value.agg.injEq,Array.mk.injEq,List.cons.injEq,and_true] at e9;obtain⟨rfl,rfl⟩:=e9;obtain⟨ax,cx,rfl⟩:=E9 hW.1;obtain⟨gd,nd,md,rfl⟩:=hX.nd;clear hpl;go_wp2_with fail
    refine Aaq Tryz.results25 Tryz.underlying41 rfl J7 kR9 rfl ?_;have hg9:=L0 wr (w.heap.size+1) (.int .i64 h.now) (.int .i64 h.last) (.slice t1 h.sh.things.length d1) (.slice t2 h.sh.bs.length d2) (.slice ax ps.length cx) (.slice (some ⟨gd,0,none⟩) nd md);refine⟨⟨_,_,_,_,rfl,?_⟩,J2 hBB (by omega) _ _ _ _ _ _⟩;exact⟨(hX.k.gr hg9 hR0).low hLW,Hz.out,⟨ps,(hW.gr hg9 hR0).low hLW,Hps2.out⟩,(Ang (E6 hX.d hg9 hR0) hX.nd Hdz.out).low hLW⟩
end Go.Proofs.YtgecdacgmehmbaaGreatDoor
