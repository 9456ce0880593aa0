/- Copies, as the specification's chapter 13 makes them. -/
import Derived.Test.YtebfdccbmmpceaaGreatDoorJ4
import Derived.Test.YtebfdccbmmpceaaGreatDoorJ27
import Derived.Test.YtebfdccbmmpceaaGreatDoorXr
import Derived.Test.YtebfdccbmmpceaaGreatDoorJ7
set_option maxRecDepth 20000
set_option maxHeartbeats 8000000
namespace Go.Proofs.YtebfdccbmmpceaaGreatDoor
open Go.RowKit
theorem Adj (b:Bk) (v:Value) (w:World) (h:BkV w v b) (hok:BookOk b) :
  Calls Tryz.prog 42 #[v] w λe w'=>(∃v',e=.returned v'/\BkW w' w.heap.size v' b)/\Below w.heap.size w w':=by
 obtain⟨s1,s2,s3⟩:=O0 hok;refine (Ac8 b v w h (by omega) (by omega) (λy hy=>by have:=s3 y hy;omega)).mono ?_;rintro e w' ⟨⟨tu,bu,ps,rfl,h1,h2,h3,-⟩,hb⟩;exact⟨⟨_,rfl,tu,bu,ps,rfl,h1,h2,h3⟩,hb⟩
theorem U7 (b:Bk) (v:Value) (w:World) (h:BkV w v b) (h1:b.things.length<=100) (h2:b.bs.length<=100) (h3:∀y∈b.bs,y.has.length<=100/\y.needs.length<=100) :
  Calls Tryz.prog 42 #[v] w λe w'=>(∃v',e=.returned v'/\BkW w' w.heap.size v' b)/\Below w.heap.size w w':=by
 refine (Ac8 b v w h (by omega) (by omega) (λy hy=>by have:=h3 y hy;omega)).mono ?_;rintro e w' ⟨⟨tu,bu,ps,rfl,h1,h2,h3,-⟩,hb⟩;exact⟨⟨_,rfl,tu,bu,ps,rfl,h1,h2,h3⟩,hb⟩
end Go.Proofs.YtebfdccbmmpceaaGreatDoor
namespace Go.Proofs.YtebfdccbmmpceaaGreatDoor
open Go
theorem AjQ {P:Program} {ops:Array Oper} {Q:Exit->Act->World->Prop} {md:Region.Mode} {S:World->Prop} {L i j l:Nat} {o o' o'':Oper} {fuel:Nat} {listed:Array Bool} {a:Act} {w:World} (hr:Region.ready md ops listed=[i,j,l]) (ho:ops[i]?=some o) (ho':ops[j]?=some o') (ho'':ops[l]?=some o'')
  (h:∀K':Act->World->Prop,Shut (∀a w,(i≠L->S w)->AnyX P md ops Q S L fuel (listed.setIfInBounds i true) a w->K' a w)->if Region.wanted o (yielded ops a.tmps)=true then Oper.wp P o a w K' Q else K' (a.put o.dst undef) w)
  (h':∀K':Act->World->Prop,Shut (∀a w,(j≠L->S w)->AnyX P md ops Q S L fuel (listed.setIfInBounds j true) a w->K' a w)->if Region.wanted o' (yielded ops a.tmps)=true then Oper.wp P o' a w K' Q else K' (a.put o'.dst undef) w)
  (h'':∀K':Act->World->Prop,Shut (∀a w,(l≠L->S w)->AnyX P md ops Q S L fuel (listed.setIfInBounds l true) a w->K' a w)->if Region.wanted o'' (yielded ops a.tmps)=true then Oper.wp P o'' a w K' Q else K' (a.put o''.dst undef) w) :
  AnyX P md ops Q S L (fuel+1) listed a w:=by
 refine⟨λh0=>(by rw[hr] at h0;cases h0),λk hk=>?_⟩;rw[hr] at hk;rcases (by simpa using hk:k=i∨k=j∨k=l) with rfl|rfl|rfl
 ·exact wpOp_step ho λK' hK=>h K' λa w hS hA=>hK a w ⟨hS,hA⟩
 ·exact wpOp_step ho' λK' hK=>h' K' λa w hS hA=>hK a w ⟨hS,hA⟩
 ·exact wpOp_step ho'' λK' hK=>h'' K' λa w hS hA=>hK a w ⟨hS,hA⟩
end Go.Proofs.YtebfdccbmmpceaaGreatDoor
namespace Go.Proofs.YtebfdccbmmpceaaGreatDoor
open Go.RowKit
theorem J7:(Tryz.prog.info? 37).map (·.size)=some 6:=by kernel_rfl
structure CS (W1:World) (h:House) (X:World) (k6 k7 k10:Option Value) (k12:Option Nat):Prop where
 B:Below W1.heap.size W1 X
 s6:∀v,k6=some v->BkW X W1.heap.size v h.sh
 s7:∀v,k7=some v->X.ownsRow W1.heap.size 90 3 v 0 []/\NN v
 s10:∀v,k10=some v->X.ownsRow W1.heap.size 90 3 v h.ds.length (rowsF Done.cells h.ds)/\NN v
 s12:∀y,k12=some y->X.ownsRow W1.heap.size 37 6 (.slice (some ⟨y,0,none⟩) 1 1) 1 [.int .i64 0,.int .i64 0,.slice none 0 0,.slice none 0 0,.slice none 0 0,.slice none 0 0]
theorem cs_nil (W1:World) (h:House):CS W1 h W1 none none none none:=⟨A4 _ _,λ_ h=>(by cases h),λ_ h=>(by cases h),λ_ h=>(by cases h),λ_ h=>(by cases h)⟩
theorem CS.up {W1 X X':World} {h:House} {k6 k7 k10:Option Value} {k12:Option Nat} (H:CS W1 h X k6 k7 k10 k12) (hb:Below X.heap.size X X'):CS W1 h X' k6 k7 k10 k12 :=
 ⟨D6 H.B hb,λv e=>(H.s6 v e).up hb,λv e=>⟨E1 (H.s7 v e).1 hb,(H.s7 v e).2⟩,λv e=>⟨E1 (H.s10 v e).1 hb,(H.s10 v e).2⟩,λy e=>E1 (H.s12 y e) hb⟩
theorem CS.call {W1 X X':World} {h:House} {k6 k7 k10:Option Value} {k12:Option Nat} {v:Value} (H:CS W1 h X k6 k7 k10 k12) (hb:Below X.heap.size X X') (hv:BkW X' X.heap.size v h.sh):CS W1 h X' (some v) k7 k10 k12 :=
 {H.up hb with s6:=λu e=>by cases e;exact hv.low H.B.size}
theorem CS.lit {W1 X:World} {h:House} {k6 k7 k10:Option Value} {k12:Option Nat} (H:CS W1 h X k6 k7 k10 k12):CS W1 h (X.alloc (.cells #[] 90)) k6 (some (.slice (some ⟨X.heap.size,0,none⟩) 0 0)) k10 k12 :=
 {H.up ((A4 _ _).alloc (A3 _) _) with s7:=λu e=>by cases e;exact⟨G4 (Ac7 X _ _) H.B.size,_,_,_,rfl⟩}
theorem CS.new {W1 X:World} {h:House} {k6 k7 k10:Option Value} {k12:Option Nat} (H:CS W1 h X k6 k7 k10 k12):CS W1 h (X.alloc (.cells #[.int .i64 0,.int .i64 0,.slice none 0 0,.slice none 0 0,.slice none 0 0,.slice none 0 0] 37)) k6 k7 k10 (some X.heap.size) :=
 {H.up ((A4 _ _).alloc (A3 _) _) with s12:=λu e=>by cases e;exact B9 X _ 1 H.B.size (by unfold maxLen;omega) rfl}
theorem CS.app {W1 X X':World} {h:House} {k6 k10:Option Value} {k12:Option Nat} {v v':Value} (H:CS W1 h X k6 (some v) k10 k12) (hg:X.grownBy X' v.ownBlock) (hv:X'.ownsRow W1.heap.size 90 3 v' (0+h.ds.length) ([]++rowsF Done.cells h.ds)) (hn:NN v'):CS W1 h X' k6 none (some v') k12:=by
 have h7:=(H.s7 v rfl).1;refine⟨F1 H.B H.B.size h7 hg (A3 _),λu e=>(H.s6 u e).step h7 (by decide) (by decide) hg,λ_ e=>(by cases e),λu e=>?_,λy e=>E2 (H.s12 y e) hg (E5 (H.s12 y e) h7 (by decide))⟩;cases e
 exact⟨by simpa using hv,hn⟩
theorem I5 {w:World} {base e y:Nat} {cs:List Value} (h:w.ownsRow base e 6 (.slice (some ⟨y,0,none⟩) 1 1) 1 cs):CB w y cs:=by
 have hl:cs.length=6:=h.1;refine⟨λj v hv=>?_,λj hj=>?_,(h.lt y rfl).2⟩
 ·have hj:j<cs.length:=(A2.1 hv).1
  rw[Nat.zero_add,h.cellAt j (by omega)];exact hv
 ·rw[Nat.zero_add]
  refine⟨?_,h.frozenAt j⟩;rw[h.cellAt j (by omega),A0 hj];rfl
structure CX (W1:World) (h:House) (X:World) (y:Nat) (tu bu xu du:Value):Prop where
 B:Below W1.heap.size W1 X
 k:BkW X W1.heap.size (.agg #[tu,bu]) h.sh
 d:X.ownsRow W1.heap.size 90 3 du h.ds.length (rowsF Done.cells h.ds)
 nd:NN du
 y:X.ownsRow W1.heap.size 37 6 (.slice (some ⟨y,0,none⟩) 1 1) 1 [.int .i64 h.now,.int .i64 h.last,tu,bu,xu,du]
theorem CX.up {W1 X X':World} {h:House} {y:Nat} {tu bu xu du:Value} (H:CX W1 h X y tu bu xu du) (hb:Below X.heap.size X X'):CX W1 h X' y tu bu xu du :=
 ⟨D6 H.B hb,H.k.up hb,E1 H.d hb,H.nd,E1 H.y hb⟩
theorem CX.row {W1 X X':World} {h:House} {y n:Nat} {tu bu xu du v:Value} {xs:List Value} (H:CX W1 h X y tu bu xu du) (hrow:X.ownsRow W1.heap.size 52 6 v n xs) (hg:X.grownBy X' v.ownBlock):CX W1 h X' y tu bu xu du :=
 ⟨F1 H.B H.B.size hrow hg (A3 _),H.k.step hrow (by decide) (by decide) hg,E2 H.d hg (E5 H.d hrow (by decide)),H.nd,E2 H.y hg (E5 H.y hrow (by decide))⟩
theorem CX.put {W1 X:World} {h:House} {y:Nat} {tu bu xu du:Value} (H:CX W1 h X y tu bu xu du) (u:Value):CX W1 h (X.setCell ⟨y,4,none⟩ u) y tu bu u du:=by
 obtain⟨h1,h2⟩:=B3 H.y 4 u;have hg:X.grownBy (X.setCell ⟨y,4,none⟩ u) (Value.slice (some ⟨y,0,none⟩) 1 1).ownBlock:=h2;exact⟨F1 H.B H.B.size H.y hg (A3 _),H.k.step H.y (by decide) (by decide) hg,E2 H.d hg (E5 H.d H.y (by decide)),H.nd,h1⟩
theorem RbsW.off {W1 X:World} {h:House} {y base j:Nat} {tu bu xu du v u:Value} {ps:List Rv} (H:CX W1 h X y tu bu xu du) (hr:RbsW X base v ps):RbsW (X.setCell ⟨y,j,none⟩ u) base v ps:=by
 have hg:X.grownBy (X.setCell ⟨y,j,none⟩ u) (Value.slice (some ⟨y,0,none⟩) 1 1).ownBlock:=(B3 H.y j u).2;exact⟨E2 hr.1 hg (E5 hr.1 H.y (by decide)),λp hp=>(hr.2 p hp).step H.y (by decide) (by decide) hg⟩
theorem CS.fin {W1 X:World} {h:House} {y:Nat} {tu bu du:Value} (H:CS W1 h X (some (.agg #[tu,bu])) none (some du) (some y)):CX W1 h ((((((X.setCell ⟨y,0,none⟩ (.int .i64 h.now)).setCell ⟨y,1,none⟩ (.int .i64 h.last)).setCell ⟨y,2,none⟩ tu).setCell ⟨y,3,none⟩ bu).setCell ⟨y,4,none⟩ (.slice none 0 0)).setCell ⟨y,5,none⟩ du) y tu bu (.slice none 0 0) du:=by
 have h12:=H.s12 y rfl;have h1:=B3 h12 0 (.int .i64 h.now);have h2:=B3 h1.1 1 (.int .i64 h.last);have h3:=B3 h2.1 2 tu;have h4:=B3 h3.1 3 bu;have h5:=B3 h4.1 4 (.slice none 0 0);have h6:=B3 h5.1 5 du;have hg:X.grownBy ((((((X.setCell ⟨y,0,none⟩ (.int .i64 h.now)).setCell ⟨y,1,none⟩ (.int .i64 h.last)).setCell ⟨y,2,none⟩ tu).setCell ⟨y,3,none⟩ bu).setCell ⟨y,4,none⟩ (.slice none 0 0)).setCell ⟨y,5,none⟩ du) (Value.slice (some ⟨y,0,none⟩) 1 1).ownBlock:=E3 (E3 (E3 (E3 (E3 h1.2 h2.2) h3.2) h4.2) h5.2) h6.2;exact⟨F1 H.B H.B.size h12 hg (A3 _),(H.s6 _ rfl).step h12 (by decide) (by decide) hg,E2 (H.s10 _ rfl).1 hg (E5 (H.s10 _ rfl).1 h12 (by decide)),(H.s10 _ rfl).2,h6.1⟩
theorem Ab8 {w w':World} {a4:Option Addr} {ds:List Done} (h:0<ds.length->∃b o,a4=some ⟨b,o,none⟩/\DnsAt w b o ds/\b<w.heap.size) (hb:Below w.heap.size w w'):0<ds.length->∃d,a4=some d/\∀j u,(rowsF Done.cells ds)[j]?=some u->w'.cell? (d.add j)=some u:=λhp=>by
 obtain⟨b,o,rfl,hD,hlt⟩:=h hp;refine⟨_,rfl,O8 (by decide) G7 λi d hd j u hu=>?_⟩;have h1:=(hD i d hd).1 j u hu;rw[hb.cell (p:=⟨b,o+i*3+j,none⟩) hlt];exact h1
theorem AeC (h:House) (tv bv xv dv:Value) (w:World) (H:HV w h tv bv xv dv) (hz1:h.sh.things.length<=100) (hz2:h.sh.bs.length<=100) (hz3:∀y∈h.sh.bs,y.has.length<=100/\y.needs.length<=100) (hnb:h.bs.length<=1048576) (hnd:h.ds.length<=1048576) :
  Calls Tryz.prog 15 #[.agg #[.int .i64 h.now,.int .i64 h.last,tv,bv,xv,dv]] w λe w'=>(∃tu bu xu du,e=.returned (.agg #[.int .i64 h.now,.int .i64 h.last,tu,bu,xu,du])/\HW w' w.heap.size h tu bu xu du)/\Below w.heap.size w w':=by
 have Hsz:=H.book.szb;obtain⟨a1,c1,a2,c2,a3,c3,a4,c4,rfl,rfl,rfl,rfl⟩:=H.shapes;obtain⟨idn,hidn,n0,n1,n2⟩:=info_parts AbS;obtain⟨W1,hW1,kA,kR,hB1,hs1⟩:=L1 w [.int .i64 h.now,.int .i64 h.last,.slice a1 h.sh.things.length c1,.slice a2 h.sh.bs.length c2,.slice a3 h.bs.length c3,.slice a4 h.ds.length c4] 37 [.int .i64 0,.int .i64 0,.slice none 0 0,.slice none 0 0,.slice none 0 0,.slice none 0 0] 37;go_enter Tryz.func15,Tryz.ntmps15
 go_upto_region 1 with fail
 try rw[hW1]
 clear hW1;have hA0:w.heap.size<W1.heap.size:=by omega
 have hR0:w.heap.size+1<W1.heap.size:=by omega
 have hLW:w.heap.size<=W1.heap.size:=by omega
 clear hs1;have H1:=H.up hB1;have HB:Hid (BkV W1 (.agg #[.slice a1 h.sh.things.length c1,.slice a2 h.sh.bs.length c2]) h.sh):=H1.book
 have hpd:Hid (0<h.ds.length->∃b o,a4=some ⟨b,o,none⟩/\DnsAt W1 b o h.ds/\b<W1.heap.size):=by
  obtain⟨a,c,e,-,h2⟩:=H1.d;simp only[Value.slice.injEq] at e;obtain⟨rfl,-,-⟩:=e;exact h2
 have mk:∀w',Below W1.heap.size W1 w'->Below W1.heap.size W1 w'/\World.cell? w' ⟨w.heap.size,0,none⟩=some (.int .i64 h.now)/\World.cell? w' ⟨w.heap.size,1,none⟩=some (.int .i64 h.last)/\World.cell? w' ⟨w.heap.size,2,none⟩=some (.slice a1 h.sh.things.length c1)/\World.cell? w' ⟨w.heap.size,3,none⟩=some (.slice a2 h.sh.bs.length c2)/\World.cell? w' ⟨w.heap.size,4,none⟩=some (.slice a3 h.bs.length c3)/\World.cell? w' ⟨w.heap.size,5,none⟩=some (.slice a4 h.ds.length c4):=λw' hb'=>by
  obtain⟨e0,e1,e2,e3,e4,e5⟩:=(kA.up hb' hA0).c6;exact⟨hb',e0,e1,e2,e3,e4,e5⟩
 have Mk:Hid (∀w',Below W1.heap.size W1 w'->Below W1.heap.size W1 w'/\World.cell? w' ⟨w.heap.size,0,none⟩=some (.int .i64 h.now)/\World.cell? w' ⟨w.heap.size,1,none⟩=some (.int .i64 h.last)/\World.cell? w' ⟨w.heap.size,2,none⟩=some (.slice a1 h.sh.things.length c1)/\World.cell? w' ⟨w.heap.size,3,none⟩=some (.slice a2 h.sh.bs.length c2)/\World.cell? w' ⟨w.heap.size,4,none⟩=some (.slice a3 h.bs.length c3)/\World.cell? w' ⟨w.heap.size,5,none⟩=some (.slice a4 h.ds.length c4)):=mk;clear mk;go_cut [3] (λv3 wc=>∃(Y:Nat) (tu bu du:Value),v3=.pointer (some ⟨Y,0,none⟩)/\CX W1 h wc Y tu bu (.slice none 0 0) du)
 case first =>
  have hC:CS W1 h W1.drew none none none none:=(cs_nil W1 h).up (A4 _ _).drew;refine F5 99 (λw'=>Below W1.heap.size W1 w'/\World.cell? w' ⟨w.heap.size,0,none⟩=some (.int .i64 h.now)/\World.cell? w' ⟨w.heap.size,1,none⟩=some (.int .i64 h.last)/\World.cell? w' ⟨w.heap.size,2,none⟩=some (.slice a1 h.sh.things.length c1)/\World.cell? w' ⟨w.heap.size,3,none⟩=some (.slice a2 h.sh.bs.length c2)/\World.cell? w' ⟨w.heap.size,4,none⟩=some (.slice a3 h.bs.length c3)/\World.cell? w' ⟨w.heap.size,5,none⟩=some (.slice a4 h.ds.length c4)) (by kernel_rfl) ?_;generalize W1.drew=X1 at hC ⊢
  have hS1:=Mk.out _ hC.B;refine tkx 0 rfl hS1 ?_;refine tkx 1 rfl hS1 ?_;refine tkx 2 rfl hS1 ?_;refine tkx 3 rfl hS1 ?_;refine tkx 4 rfl hS1 ?_;refine tkx 5 rfl hS1 ?_;refine tkx 8 rfl hS1 ?_;refine tkx 9 rfl hS1 ?_;refine AjQ (i:=6) (j:=7) (l:=12) (by kernel_rfl) rfl rfl rfl (λK hK=>?_) (λK hK=>?_) (λK hK=>?_)
  ·(go_simp;go_wp2_with (go_at_call 42;refine (U7 h.sh _ _ (HB.out.up hC.B) hz1 hz2 hz3).mono ?_;rintro e X2 ⟨⟨v8,rfl,hk8⟩,hb8⟩;replace hC:=hC.call hb8 hk8;obtain⟨t1,d1,t2,d2,ps8,rfl,-⟩:=hk8.parts;clear hk8 hb8);refine hK.out _ _ (λ_=>(Mk.out _ hC.B)) ?_;clear hK K)
   refine L2 (i:=7) (j:=12) (by kernel_rfl) rfl rfl (λK hK=>?_) (λK hK=>?_)
   ·(go_simp;replace hC:=hC.lit;refine hK.out _ _ (λ_=>(Mk.out _ hC.B)) ?_;clear hK K;generalize World.alloc _ (.cells #[] 90)=X3 at hC ⊢)
    refine L2 (i:=10) (j:=12) (by kernel_rfl) rfl rfl (λK hK=>?_) (λK hK=>?_)
    ·(have h7:=hC.s7 _ rfl;refine J5 rfl _ _ 35 rfl W1.heap.size 90 idn _ 3 32 Tryz.underlying35 hidn n0 n1 n2 rfl (by decide) _ 0 [] rfl h7.1 a4 h.ds.length c4 (rowsF Done.cells h.ds) rfl (G5 G7 _) (Ab8 hpd.out hC.B) (Aa2 _) (by unfold maxLen;omega) (by omega) hC.B.size ?_;intro v9 X5 hown9 hgr9 hnn9;replace hC:=hC.app hgr9 hown9 (hnn9 h7.2);obtain⟨g9,n9,m9,rfl⟩:=hnn9 h7.2;clear hown9 hgr9 h7 hnn9;refine hK.out _ _ (λ_=>(Mk.out _ hC.B)) ?_;clear hK K)
     refine tkx 11 rfl (Mk.out _ hC.B) ?_;refine D8 (i:=12) (by kernel_rfl) rfl (λK hK=>?_)
     (go_simp;replace hC:=hC.new;refine hK.out _ _ (λ_=>(Mk.out _ hC.B)) ?_;clear hK K;generalize World.alloc _ (.cells #[.int .i64 0,.int .i64 0,.slice none 0 0,.slice none 0 0,.slice none 0 0,.slice none 0 0] 37)=X4 at hC ⊢)
     (have kY:=I5 (hC.s12 _ rfl);obtain⟨j0,j1,j2,j3,j4,j5⟩:=kY.c6;obtain⟨m0,m1,m2,m3,m4,m5⟩:=kY.f6;replace hC:=hC.fin;refine D8 (i:=13) (by kernel_rfl) rfl (λK hK=>?_);go_simp;refine hK.out _ _ (λ_=>Mk.out _ hC.B) ?_;clear hK K j0 j1 j2 j3 j4 j5 m0 m1 m2 m3 m4 m5 kY;refine F0 (by kernel_rfl) ?_ _;go_wp2_with fail;go_meet;exact⟨_,_,_,_,rfl,hC⟩)
    ·(go_simp;replace hC:=hC.new;refine hK.out _ _ (λ_=>(Mk.out _ hC.B)) ?_;clear hK K;generalize World.alloc _ (.cells #[.int .i64 0,.int .i64 0,.slice none 0 0,.slice none 0 0,.slice none 0 0,.slice none 0 0] 37)=X4 at hC ⊢)
     refine D8 (i:=10) (by kernel_rfl) rfl (λK hK=>?_)
     (have h7:=hC.s7 _ rfl;refine J5 rfl _ _ 35 rfl W1.heap.size 90 idn _ 3 32 Tryz.underlying35 hidn n0 n1 n2 rfl (by decide) _ 0 [] rfl h7.1 a4 h.ds.length c4 (rowsF Done.cells h.ds) rfl (G5 G7 _) (Ab8 hpd.out hC.B) (Aa2 _) (by unfold maxLen;omega) (by omega) hC.B.size ?_;intro v9 X5 hown9 hgr9 hnn9;replace hC:=hC.app hgr9 hown9 (hnn9 h7.2);obtain⟨g9,n9,m9,rfl⟩:=hnn9 h7.2;clear hown9 hgr9 h7 hnn9;refine hK.out _ _ (λ_=>(Mk.out _ hC.B)) ?_;clear hK K)
     refine tkx 11 rfl (Mk.out _ hC.B) ?_
     (have kY:=I5 (hC.s12 _ rfl);obtain⟨j0,j1,j2,j3,j4,j5⟩:=kY.c6;obtain⟨m0,m1,m2,m3,m4,m5⟩:=kY.f6;replace hC:=hC.fin;refine D8 (i:=13) (by kernel_rfl) rfl (λK hK=>?_);go_simp;refine hK.out _ _ (λ_=>Mk.out _ hC.B) ?_;clear hK K j0 j1 j2 j3 j4 j5 m0 m1 m2 m3 m4 m5 kY;refine F0 (by kernel_rfl) ?_ _;go_wp2_with fail;go_meet;exact⟨_,_,_,_,rfl,hC⟩)
   ·(go_simp;replace hC:=hC.new;refine hK.out _ _ (λ_=>(Mk.out _ hC.B)) ?_;clear hK K;generalize World.alloc _ (.cells #[.int .i64 0,.int .i64 0,.slice none 0 0,.slice none 0 0,.slice none 0 0,.slice none 0 0] 37)=X4 at hC ⊢)
    refine D8 (i:=7) (by kernel_rfl) rfl (λK hK=>?_)
    (go_simp;replace hC:=hC.lit;refine hK.out _ _ (λ_=>(Mk.out _ hC.B)) ?_;clear hK K;generalize World.alloc _ (.cells #[] 90)=X3 at hC ⊢)
    refine D8 (i:=10) (by kernel_rfl) rfl (λK hK=>?_)
    (have h7:=hC.s7 _ rfl;refine J5 rfl _ _ 35 rfl W1.heap.size 90 idn _ 3 32 Tryz.underlying35 hidn n0 n1 n2 rfl (by decide) _ 0 [] rfl h7.1 a4 h.ds.length c4 (rowsF Done.cells h.ds) rfl (G5 G7 _) (Ab8 hpd.out hC.B) (Aa2 _) (by unfold maxLen;omega) (by omega) hC.B.size ?_;intro v9 X5 hown9 hgr9 hnn9;replace hC:=hC.app hgr9 hown9 (hnn9 h7.2);obtain⟨g9,n9,m9,rfl⟩:=hnn9 h7.2;clear hown9 hgr9 h7 hnn9;refine hK.out _ _ (λ_=>(Mk.out _ hC.B)) ?_;clear hK K)
    refine tkx 11 rfl (Mk.out _ hC.B) ?_
    (have kY:=I5 (hC.s12 _ rfl);obtain⟨j0,j1,j2,j3,j4,j5⟩:=kY.c6;obtain⟨m0,m1,m2,m3,m4,m5⟩:=kY.f6;replace hC:=hC.fin;refine D8 (i:=13) (by kernel_rfl) rfl (λK hK=>?_);go_simp;refine hK.out _ _ (λ_=>Mk.out _ hC.B) ?_;clear hK K j0 j1 j2 j3 j4 j5 m0 m1 m2 m3 m4 m5 kY;refine F0 (by kernel_rfl) ?_ _;go_wp2_with fail;go_meet;exact⟨_,_,_,_,rfl,hC⟩)
  ·(go_simp;replace hC:=hC.lit;refine hK.out _ _ (λ_=>(Mk.out _ hC.B)) ?_;clear hK K;generalize World.alloc _ (.cells #[] 90)=X3 at hC ⊢)
   refine L2 (i:=6) (j:=12) (by kernel_rfl) rfl rfl (λK hK=>?_) (λK hK=>?_)
   ·(go_simp;go_wp2_with (go_at_call 42;refine (U7 h.sh _ _ (HB.out.up hC.B) hz1 hz2 hz3).mono ?_;rintro e X2 ⟨⟨v8,rfl,hk8⟩,hb8⟩;replace hC:=hC.call hb8 hk8;obtain⟨t1,d1,t2,d2,ps8,rfl,-⟩:=hk8.parts;clear hk8 hb8);refine hK.out _ _ (λ_=>(Mk.out _ hC.B)) ?_;clear hK K)
    refine L2 (i:=10) (j:=12) (by kernel_rfl) rfl rfl (λK hK=>?_) (λK hK=>?_)
    ·(have h7:=hC.s7 _ rfl;refine J5 rfl _ _ 35 rfl W1.heap.size 90 idn _ 3 32 Tryz.underlying35 hidn n0 n1 n2 rfl (by decide) _ 0 [] rfl h7.1 a4 h.ds.length c4 (rowsF Done.cells h.ds) rfl (G5 G7 _) (Ab8 hpd.out hC.B) (Aa2 _) (by unfold maxLen;omega) (by omega) hC.B.size ?_;intro v9 X5 hown9 hgr9 hnn9;replace hC:=hC.app hgr9 hown9 (hnn9 h7.2);obtain⟨g9,n9,m9,rfl⟩:=hnn9 h7.2;clear hown9 hgr9 h7 hnn9;refine hK.out _ _ (λ_=>(Mk.out _ hC.B)) ?_;clear hK K)
     refine tkx 11 rfl (Mk.out _ hC.B) ?_;refine D8 (i:=12) (by kernel_rfl) rfl (λK hK=>?_)
     (go_simp;replace hC:=hC.new;refine hK.out _ _ (λ_=>(Mk.out _ hC.B)) ?_;clear hK K;generalize World.alloc _ (.cells #[.int .i64 0,.int .i64 0,.slice none 0 0,.slice none 0 0,.slice none 0 0,.slice none 0 0] 37)=X4 at hC ⊢)
     (have kY:=I5 (hC.s12 _ rfl);obtain⟨j0,j1,j2,j3,j4,j5⟩:=kY.c6;obtain⟨m0,m1,m2,m3,m4,m5⟩:=kY.f6;replace hC:=hC.fin;refine D8 (i:=13) (by kernel_rfl) rfl (λK hK=>?_);go_simp;refine hK.out _ _ (λ_=>Mk.out _ hC.B) ?_;clear hK K j0 j1 j2 j3 j4 j5 m0 m1 m2 m3 m4 m5 kY;refine F0 (by kernel_rfl) ?_ _;go_wp2_with fail;go_meet;exact⟨_,_,_,_,rfl,hC⟩)
    ·(go_simp;replace hC:=hC.new;refine hK.out _ _ (λ_=>(Mk.out _ hC.B)) ?_;clear hK K;generalize World.alloc _ (.cells #[.int .i64 0,.int .i64 0,.slice none 0 0,.slice none 0 0,.slice none 0 0,.slice none 0 0] 37)=X4 at hC ⊢)
     refine D8 (i:=10) (by kernel_rfl) rfl (λK hK=>?_)
     (have h7:=hC.s7 _ rfl;refine J5 rfl _ _ 35 rfl W1.heap.size 90 idn _ 3 32 Tryz.underlying35 hidn n0 n1 n2 rfl (by decide) _ 0 [] rfl h7.1 a4 h.ds.length c4 (rowsF Done.cells h.ds) rfl (G5 G7 _) (Ab8 hpd.out hC.B) (Aa2 _) (by unfold maxLen;omega) (by omega) hC.B.size ?_;intro v9 X5 hown9 hgr9 hnn9;replace hC:=hC.app hgr9 hown9 (hnn9 h7.2);obtain⟨g9,n9,m9,rfl⟩:=hnn9 h7.2;clear hown9 hgr9 h7 hnn9;refine hK.out _ _ (λ_=>(Mk.out _ hC.B)) ?_;clear hK K)
     refine tkx 11 rfl (Mk.out _ hC.B) ?_
     (have kY:=I5 (hC.s12 _ rfl);obtain⟨j0,j1,j2,j3,j4,j5⟩:=kY.c6;obtain⟨m0,m1,m2,m3,m4,m5⟩:=kY.f6;replace hC:=hC.fin;refine D8 (i:=13) (by kernel_rfl) rfl (λK hK=>?_);go_simp;refine hK.out _ _ (λ_=>Mk.out _ hC.B) ?_;clear hK K j0 j1 j2 j3 j4 j5 m0 m1 m2 m3 m4 m5 kY;refine F0 (by kernel_rfl) ?_ _;go_wp2_with fail;go_meet;exact⟨_,_,_,_,rfl,hC⟩)
   ·(go_simp;replace hC:=hC.new;refine hK.out _ _ (λ_=>(Mk.out _ hC.B)) ?_;clear hK K;generalize World.alloc _ (.cells #[.int .i64 0,.int .i64 0,.slice none 0 0,.slice none 0 0,.slice none 0 0,.slice none 0 0] 37)=X4 at hC ⊢)
    refine D8 (i:=6) (by kernel_rfl) rfl (λK hK=>?_)
    (go_simp;go_wp2_with (go_at_call 42;refine (U7 h.sh _ _ (HB.out.up hC.B) hz1 hz2 hz3).mono ?_;rintro e X2 ⟨⟨v8,rfl,hk8⟩,hb8⟩;replace hC:=hC.call hb8 hk8;obtain⟨t1,d1,t2,d2,ps8,rfl,-⟩:=hk8.parts;clear hk8 hb8);refine hK.out _ _ (λ_=>(Mk.out _ hC.B)) ?_;clear hK K)
    refine D8 (i:=10) (by kernel_rfl) rfl (λK hK=>?_)
    (have h7:=hC.s7 _ rfl;refine J5 rfl _ _ 35 rfl W1.heap.size 90 idn _ 3 32 Tryz.underlying35 hidn n0 n1 n2 rfl (by decide) _ 0 [] rfl h7.1 a4 h.ds.length c4 (rowsF Done.cells h.ds) rfl (G5 G7 _) (Ab8 hpd.out hC.B) (Aa2 _) (by unfold maxLen;omega) (by omega) hC.B.size ?_;intro v9 X5 hown9 hgr9 hnn9;replace hC:=hC.app hgr9 hown9 (hnn9 h7.2);obtain⟨g9,n9,m9,rfl⟩:=hnn9 h7.2;clear hown9 hgr9 h7 hnn9;refine hK.out _ _ (λ_=>(Mk.out _ hC.B)) ?_;clear hK K)
    refine tkx 11 rfl (Mk.out _ hC.B) ?_
    (have kY:=I5 (hC.s12 _ rfl);obtain⟨j0,j1,j2,j3,j4,j5⟩:=kY.c6;obtain⟨m0,m1,m2,m3,m4,m5⟩:=kY.f6;replace hC:=hC.fin;refine D8 (i:=13) (by kernel_rfl) rfl (λK hK=>?_);go_simp;refine hK.out _ _ (λ_=>Mk.out _ hC.B) ?_;clear hK K j0 j1 j2 j3 j4 j5 m0 m1 m2 m3 m4 m5 kY;refine F0 (by kernel_rfl) ?_ _;go_wp2_with fail;go_meet;exact⟨_,_,_,_,rfl,hC⟩)
  ·(go_simp;replace hC:=hC.new;refine hK.out _ _ (λ_=>(Mk.out _ hC.B)) ?_;clear hK K;generalize World.alloc _ (.cells #[.int .i64 0,.int .i64 0,.slice none 0 0,.slice none 0 0,.slice none 0 0,.slice none 0 0] 37)=X4 at hC ⊢)
   refine L2 (i:=6) (j:=7) (by kernel_rfl) rfl rfl (λK hK=>?_) (λK hK=>?_)
   ·(go_simp;go_wp2_with (go_at_call 42;refine (U7 h.sh _ _ (HB.out.up hC.B) hz1 hz2 hz3).mono ?_;rintro e X2 ⟨⟨v8,rfl,hk8⟩,hb8⟩;replace hC:=hC.call hb8 hk8;obtain⟨t1,d1,t2,d2,ps8,rfl,-⟩:=hk8.parts;clear hk8 hb8);refine hK.out _ _ (λ_=>(Mk.out _ hC.B)) ?_;clear hK K)
    refine D8 (i:=7) (by kernel_rfl) rfl (λK hK=>?_)
    (go_simp;replace hC:=hC.lit;refine hK.out _ _ (λ_=>(Mk.out _ hC.B)) ?_;clear hK K;generalize World.alloc _ (.cells #[] 90)=X3 at hC ⊢)
    refine D8 (i:=10) (by kernel_rfl) rfl (λK hK=>?_)
    (have h7:=hC.s7 _ rfl;refine J5 rfl _ _ 35 rfl W1.heap.size 90 idn _ 3 32 Tryz.underlying35 hidn n0 n1 n2 rfl (by decide) _ 0 [] rfl h7.1 a4 h.ds.length c4 (rowsF Done.cells h.ds) rfl (G5 G7 _) (Ab8 hpd.out hC.B) (Aa2 _) (by unfold maxLen;omega) (by omega) hC.B.size ?_;intro v9 X5 hown9 hgr9 hnn9;replace hC:=hC.app hgr9 hown9 (hnn9 h7.2);obtain⟨g9,n9,m9,rfl⟩:=hnn9 h7.2;clear hown9 hgr9 h7 hnn9;refine hK.out _ _ (λ_=>(Mk.out _ hC.B)) ?_;clear hK K)
    refine tkx 11 rfl (Mk.out _ hC.B) ?_
    (have kY:=I5 (hC.s12 _ rfl);obtain⟨j0,j1,j2,j3,j4,j5⟩:=kY.c6;obtain⟨m0,m1,m2,m3,m4,m5⟩:=kY.f6;replace hC:=hC.fin;refine D8 (i:=13) (by kernel_rfl) rfl (λK hK=>?_);go_simp;refine hK.out _ _ (λ_=>Mk.out _ hC.B) ?_;clear hK K j0 j1 j2 j3 j4 j5 m0 m1 m2 m3 m4 m5 kY;refine F0 (by kernel_rfl) ?_ _;go_wp2_with fail;go_meet;exact⟨_,_,_,_,rfl,hC⟩)
   ·(go_simp;replace hC:=hC.lit;refine hK.out _ _ (λ_=>(Mk.out _ hC.B)) ?_;clear hK K;generalize World.alloc _ (.cells #[] 90)=X3 at hC ⊢)
    refine D8 (i:=6) (by kernel_rfl) rfl (λK hK=>?_)
    (go_simp;go_wp2_with (go_at_call 42;refine (U7 h.sh _ _ (HB.out.up hC.B) hz1 hz2 hz3).mono ?_;rintro e X2 ⟨⟨v8,rfl,hk8⟩,hb8⟩;replace hC:=hC.call hb8 hk8;obtain⟨t1,d1,t2,d2,ps8,rfl,-⟩:=hk8.parts;clear hk8 hb8);refine hK.out _ _ (λ_=>(Mk.out _ hC.B)) ?_;clear hK K)
    refine D8 (i:=10) (by kernel_rfl) rfl (λK hK=>?_)
    (have h7:=hC.s7 _ rfl;refine J5 rfl _ _ 35 rfl W1.heap.size 90 idn _ 3 32 Tryz.underlying35 hidn n0 n1 n2 rfl (by decide) _ 0 [] rfl h7.1 a4 h.ds.length c4 (rowsF Done.cells h.ds) rfl (G5 G7 _) (Ab8 hpd.out hC.B) (Aa2 _) (by unfold maxLen;omega) (by omega) hC.B.size ?_;intro v9 X5 hown9 hgr9 hnn9;replace hC:=hC.app hgr9 hown9 (hnn9 h7.2);obtain⟨g9,n9,m9,rfl⟩:=hnn9 h7.2;clear hown9 hgr9 h7 hnn9;refine hK.out _ _ (λ_=>(Mk.out _ hC.B)) ?_;clear hK K)
    refine tkx 11 rfl (Mk.out _ hC.B) ?_
    (have kY:=I5 (hC.s12 _ rfl);obtain⟨j0,j1,j2,j3,j4,j5⟩:=kY.c6;obtain⟨m0,m1,m2,m3,m4,m5⟩:=kY.f6;replace hC:=hC.fin;refine D8 (i:=13) (by kernel_rfl) rfl (λK hK=>?_);go_simp;refine hK.out _ _ (λ_=>Mk.out _ hC.B) ?_;clear hK K j0 j1 j2 j3 j4 j5 m0 m1 m2 m3 m4 m5 kY;refine F0 (by kernel_rfl) ?_ _;go_wp2_with fail;go_meet;exact⟨_,_,_,_,rfl,hC⟩)
 case rest =>
  obtain⟨Y,tu,bu,du,rfl,hX⟩:=hcut;clear Mk HB hpd
  have hxp:Hid (0<h.bs.length->∃b o,a3=some ⟨b,o,none⟩/\RbsAt W1 b o h.bs/\b<W1.heap.size):=by
   obtain⟨a,c,e,-,h2⟩:=H1.x;simp only[Value.slice.injEq] at e;obtain⟨rfl,-,-⟩:=e;exact h2
  have Hz:Hid (Szb h.sh):=Hsz;have Hdz:Hid (∀d∈h.ds,d.nm.size<=maxLen):=H1.d.sized;clear H H1 Hsz hnd hz1 hz2 hz3;obtain⟨irb,hirb,r0,r1,r2⟩:=info_parts Ad0;go_upto_region 3 with fail
  go_loopw [4] (λi w'=>∃(k:Nat) (ps:List Rv) (xu:Value),k<=h.bs.length/\i=.int .i64 k/\ps.map (·.1)=h.bs.take k/\CX W1 h w' Y tu bu xu du/\RbsW w' W1.heap.size xu ps) (λi _=>h.bs.length-(intOf i).toNat)
  case atStart=>exact⟨0,[],.slice none 0 0,by omega,rfl,by simp,hX,B8 _ _ _ _,λp hp=>by simp at hp⟩
  case round =>
   clear hX;obtain⟨k,ps,xu,hk,rfl,hps,hX,hW⟩:=hrel;have Hps:Hid (ps.map (·.1)=h.bs.take k):=hps;have hpl:ps.length=k:=by have:=congrArg List.length hps;simp at this;omega
   clear hps;obtain⟨e0,e1,e2,e3,e4,e5⟩:=(kA.up hX.B hA0).c6;by_cases hp:k<h.bs.length
   ·obtain⟨bb,o,rfl,hS,hb⟩:=hxp.out (by omega)
    obtain⟨p,q,c,g,r,d,⟨q0,q1,q2,q3,q4,q5⟩,hv⟩:=((hS.at hp).up hX.B hb).open;have HX:Hid (h.bs.take (k+1)=h.bs.take k++[h.bs[k]]):=A7 hp;have hzx:=hX.B.size;generalize h.bs[k]=x0 at *;have hbb:bb<wr.heap.size:=by omega
    have hA1:w.heap.size<wr.heap.size:=by omega
    have j4:World.cell? wr ⟨Y,4,none⟩=some xu:=(I5 hX.y).c6.2.2.2.2.1;have hS0:Below W1.heap.size wr wr/\World.cell? wr ⟨w.heap.size,4,none⟩=some (.slice (some ⟨bb,o,none⟩) h.bs.length c3)/\World.cell? wr ⟨bb,o+k*6,none⟩=some (.string x0.nm)/\World.cell? wr ⟨bb,o+k*6+1,none⟩=some (.slice (some ⟨p,q,none⟩) x0.ps.length c)/\World.cell? wr ⟨bb,o+k*6+2,none⟩=some (.slice (some ⟨g,r,none⟩) x0.sl.length d)/\World.cell? wr ⟨bb,o+k*6+3,none⟩=some (.string x0.ad)/\World.cell? wr ⟨bb,o+k*6+4,none⟩=some (.int .i64 x0.si)/\World.cell? wr ⟨bb,o+k*6+5,none⟩=some (.int .i64 x0.st)/\World.cell? wr ⟨Y,4,none⟩=some xu:=⟨A4 _ _,e4,q0,q1,q2,q3,q4,q5,j4⟩;have mk:∀w',Below W1.heap.size wr w'->World.cell? w' ⟨Y,4,none⟩=some xu->Below W1.heap.size wr w'/\World.cell? w' ⟨w.heap.size,4,none⟩=some (.slice (some ⟨bb,o,none⟩) h.bs.length c3)/\World.cell? w' ⟨bb,o+k*6,none⟩=some (.string x0.nm)/\World.cell? w' ⟨bb,o+k*6+1,none⟩=some (.slice (some ⟨p,q,none⟩) x0.ps.length c)/\World.cell? w' ⟨bb,o+k*6+2,none⟩=some (.slice (some ⟨g,r,none⟩) x0.sl.length d)/\World.cell? w' ⟨bb,o+k*6+3,none⟩=some (.string x0.ad)/\World.cell? w' ⟨bb,o+k*6+4,none⟩=some (.int .i64 x0.si)/\World.cell? w' ⟨bb,o+k*6+5,none⟩=some (.int .i64 x0.st)/\World.cell? w' ⟨Y,4,none⟩=some xu:=λw' hb' hy'=>⟨hb',(hb'.cell (p:=⟨w.heap.size,4,none⟩) hA0).trans e4,(hb'.cell (p:=⟨bb,o+k*6,none⟩) hb).trans q0,(hb'.cell (p:=⟨bb,o+k*6+1,none⟩) hb).trans q1,(hb'.cell (p:=⟨bb,o+k*6+2,none⟩) hb).trans q2,(hb'.cell (p:=⟨bb,o+k*6+3,none⟩) hb).trans q3,(hb'.cell (p:=⟨bb,o+k*6+4,none⟩) hb).trans q4,(hb'.cell (p:=⟨bb,o+k*6+5,none⟩) hb).trans q5,hy'⟩;have Mk:Hid (∀w',Below W1.heap.size wr w'->World.cell? w' ⟨Y,4,none⟩=some xu->Below W1.heap.size wr w'/\World.cell? w' ⟨w.heap.size,4,none⟩=some (.slice (some ⟨bb,o,none⟩) h.bs.length c3)/\World.cell? w' ⟨bb,o+k*6,none⟩=some (.string x0.nm)/\World.cell? w' ⟨bb,o+k*6+1,none⟩=some (.slice (some ⟨p,q,none⟩) x0.ps.length c)/\World.cell? w' ⟨bb,o+k*6+2,none⟩=some (.slice (some ⟨g,r,none⟩) x0.sl.length d)/\World.cell? w' ⟨bb,o+k*6+3,none⟩=some (.string x0.ad)/\World.cell? w' ⟨bb,o+k*6+4,none⟩=some (.int .i64 x0.si)/\World.cell? w' ⟨bb,o+k*6+5,none⟩=some (.int .i64 x0.st)/\World.cell? w' ⟨Y,4,none⟩=some xu):=mk;have hS1:Below W1.heap.size wr wr.drew/\World.cell? wr.drew ⟨w.heap.size,4,none⟩=some (.slice (some ⟨bb,o,none⟩) h.bs.length c3)/\World.cell? wr.drew ⟨bb,o+k*6,none⟩=some (.string x0.nm)/\World.cell? wr.drew ⟨bb,o+k*6+1,none⟩=some (.slice (some ⟨p,q,none⟩) x0.ps.length c)/\World.cell? wr.drew ⟨bb,o+k*6+2,none⟩=some (.slice (some ⟨g,r,none⟩) x0.sl.length d)/\World.cell? wr.drew ⟨bb,o+k*6+3,none⟩=some (.string x0.ad)/\World.cell? wr.drew ⟨bb,o+k*6+4,none⟩=some (.int .i64 x0.si)/\World.cell? wr.drew ⟨bb,o+k*6+5,none⟩=some (.int .i64 x0.st)/\World.cell? wr.drew ⟨Y,4,none⟩=some xu:=mk _ (A4 _ _).drew j4;clear mk hS0 e0 e1 e2 e3 q0 q1 q2 q3 q4 q5 e5;go_upto_region 5 with fail
    clear e4 j4;have hX1:CX W1 h wr.drew Y tu bu xu du:=hX.up (A4 _ _).drew;have hW1':RbsW wr.drew W1.heap.size xu ps:=hW.up (A4 _ _).drew;have hv1:=hv.up (A4 wr.heap.size wr).drew;have hbw:Below W1.heap.size wr wr.drew:=(A4 _ _).drew;refine F5 11 (λw'=>Below W1.heap.size wr w'/\World.cell? w' ⟨w.heap.size,4,none⟩=some (.slice (some ⟨bb,o,none⟩) h.bs.length c3)/\World.cell? w' ⟨bb,o+k*6,none⟩=some (.string x0.nm)/\World.cell? w' ⟨bb,o+k*6+1,none⟩=some (.slice (some ⟨p,q,none⟩) x0.ps.length c)/\World.cell? w' ⟨bb,o+k*6+2,none⟩=some (.slice (some ⟨g,r,none⟩) x0.sl.length d)/\World.cell? w' ⟨bb,o+k*6+3,none⟩=some (.string x0.ad)/\World.cell? w' ⟨bb,o+k*6+4,none⟩=some (.int .i64 x0.si)/\World.cell? w' ⟨bb,o+k*6+5,none⟩=some (.int .i64 x0.st)/\World.cell? w' ⟨Y,4,none⟩=some xu) (by kernel_rfl) ?_;generalize wr.drew=X1 at hX1 hW1' hv1 hbw hS1 ⊢
    refine tkx 0 rfl hS1 ?_;refine tkx 1 rfl hS1 ?_;refine tkx 2 rfl hS1 ?_;refine tkx 3 rfl hS1 ?_;refine tkx 4 rfl hS1 ?_;refine tkx 5 rfl hS1 ?_;refine tkx 6 rfl hS1 ?_;refine D8 (i:=7) (by kernel_rfl) rfl (λK hK=>?_);go_simp
    go_wp2_with (go_at_call 43;refine (AjP x0 _ _ _ hv1).mono ?_;rintro e X2 ⟨⟨ru,su,rfl,hrc⟩,hb2⟩)
    have hX2:=hX1.up hb2;have hW2:=hW1'.up hb2;have hbw2:Below W1.heap.size wr X2:=hbw.trans (hb2.mono hX1.B.size);have hS2:=Mk.out _ hbw2 (I5 hX2.y).c6.2.2.2.2.1;have hrc2:=hrc.low (B1 hX1.B.size (A3 _));obtain⟨g3,n3,m3,rfl⟩:=hrc.nr;obtain⟨g4,n4,m4,rfl⟩:=hrc.ns;clear hX1 hW1' hS1 hrc;refine hK.out _ _ (λ_=>hS2) ?_;clear hK K;have hnb9:Below X2.heap.size X2 (X2.alloc (.cells #[.string x0.nm,.slice (some ⟨g3,0,none⟩) n3 m3,.slice (some ⟨g4,0,none⟩) n4 m4,.string x0.ad,.int .i64 x0.si,.int .i64 x0.st] 52)):=(A4 _ _).alloc (A3 _) _;have hX3:=hX2.up hnb9;have hW3:=hW2.up hnb9;have hrc3:=hrc2.up hnb9;have hbw3:Below W1.heap.size wr (X2.alloc (.cells #[.string x0.nm,.slice (some ⟨g3,0,none⟩) n3 m3,.slice (some ⟨g4,0,none⟩) n4 m4,.string x0.ad,.int .i64 x0.si,.int .i64 x0.st] 52)):=hbw2.trans (hnb9.mono hX2.B.size);have hS3:=Mk.out _ hbw3 (I5 hX3.y).c6.2.2.2.2.1;have hnews:∀(j:Nat) (u:Value),(rowR (x0,.slice (some ⟨g3,0,none⟩) n3 m3,.slice (some ⟨g4,0,none⟩) n4 m4))[j]?=some u->(X2.alloc (.cells #[.string x0.nm,.slice (some ⟨g3,0,none⟩) n3 m3,.slice (some ⟨g4,0,none⟩) n4 m4,.string x0.ad,.int .i64 x0.si,.int .i64 x0.st] 52)).cell? ((⟨X2.heap.size,0,none⟩:Addr).add j)=some u:=λj u hj=>hnew6 _ _ _ _ _ _ _ _ hj;clear hX2 hW2 hrc2 hS2;refine D8 (i:=8) (by kernel_rfl) rfl (λK hK=>?_);go_simp
    refine hK.out _ _ (λ_=>hS3) ?_;clear hK K;clear hnb9;generalize X2.alloc (.cells #[.string x0.nm,.slice (some ⟨g3,0,none⟩) n3 m3,.slice (some ⟨g4,0,none⟩) n4 m4,.string x0.ad,.int .i64 x0.si,.int .i64 x0.st] 52)=X3 at hX3 hW3 hrc3 hbw3 hS3 hnews ⊢
    refine D8 (i:=9) (by kernel_rfl) rfl (λK hK=>?_);refine F6 rfl _ _ 34 rfl W1.heap.size 52 irb _ 6 96 Tryz.underlying34 hirb r0 r1 r2 rfl (by decide) xu _ _ rfl hW3.1 ⟨X2.heap.size,0,none⟩ 1 1 (rowR (x0,.slice (some ⟨g3,0,none⟩) n3 m3,.slice (some ⟨g4,0,none⟩) n4 m4)) rfl rfl hnews (Ac6 hrc3) (by unfold maxLen;omega) (by omega) hX3.B.size ?_;intro v4 X4 hown4 hgr4;have hX4:=hX3.row hW3.1 hgr4;have hW4:=hW3.app hrc3 hgr4 hown4;have hbw4:Below W1.heap.size wr X4:=F1 hbw3 hX3.B.size hW3.1 hgr4 (A3 _);have hS4:=Mk.out _ hbw4 (I5 hX4.y).c6.2.2.2.2.1;obtain⟨gg,cc,rfl⟩:=F4 hown4 (by omega);clear hown4 hgr4 hX3 hW3 hrc3 hbw3 hS3 hnews;refine hK.out _ _ (λ_=>hS4) ?_;clear hK K;refine tkx 10 rfl hS4 ?_;have hX5:=hX4.put (.slice (some ⟨gg,0,none⟩) (ps.length+1) cc);have hW5:=RbsW.off (j:=4) (u:=.slice (some ⟨gg,0,none⟩) (ps.length+1) cc) hX4 hW4;have kY:=I5 hX4.y;obtain⟨j0,j1,j2,j3,j4,j5⟩:=kY.c6;obtain⟨m0,m1,m2,m3',m4',m5⟩:=kY.f6;refine D8 (i:=11) (by kernel_rfl) rfl (λK hK=>?_);go_simp
    refine hK.out _ _ (λh=>absurd rfl h) ?_;clear hK K;refine F0 (by kernel_rfl) ?_ _
    have HM:Hid ((ps++[((x0,.slice (some ⟨g3,0,none⟩) n3 m3,.slice (some ⟨g4,0,none⟩) n4 m4):Rv)]).map (·.1)=h.bs.take (k+1)):=by
     show _=_
     rw[HX.out,List.map_append,Hps.out];rfl
    clear hX4 hW4 hbw4 hS4 kY j0 j1 j2 j3 j4 j5 m0 m1 m2 m3' m4' m5 Mk hbw hbw2 hv hv1 hS hX hW hb2;go_wp2_with fail
    go_roundw
    case rel =>
     rw[hpl] at hX5 hW5;exact⟨k+1,_,_,by omega,by go_num,HM.out,hX5,hW5⟩
    case measure=>simp[intOf];omega
   ·obtain rfl:k=h.bs.length:=by omega
    have kR9:=kR.up hX.B hR0;obtain⟨y0,y1,y2,y3,y4,y5⟩:=kR9.c6;obtain⟨f0,f1,f2,f3,f4,f5⟩:=kR9.f6;have kY:=I5 hX.y;obtain⟨j0,j1,j2,j3,j4,j5⟩:=kY.c6;have Hps2:Hid (ps.map (·.1)=h.bs):=by show _=_;rw[Hps.out,List.take_length]
    have hBB:=D6 hB1 (hX.B.mono (A3 _));obtain⟨t1,d1,t2,d2,qs,e9,-⟩:=hX.k.parts;simp only[Value.agg.injEq,Array.mk.injEq,List.cons.injEq,and_true] at e9;obtain⟨rfl,rfl⟩:=e9;obtain⟨ax,cx,rfl⟩:=F2 hW.1;obtain⟨gd,nd,md,rfl⟩:=hX.nd;clear hpl;go_wp2_with fail
    refine R4 Tryz.results15 Tryz.underlying37 rfl J7 kR9 rfl ?_;have hg9:=J2 wr (w.heap.size+1) (.int .i64 h.now) (.int .i64 h.last) (.slice t1 h.sh.things.length d1) (.slice t2 h.sh.bs.length d2) (.slice ax ps.length cx) (.slice (some ⟨gd,0,none⟩) nd md);refine⟨⟨_,_,_,_,rfl,?_⟩,L0 hBB (by omega) _ _ _ _ _ _⟩;exact⟨(hX.k.gr hg9 hR0).low hLW,Hz.out,⟨ps,(hW.gr hg9 hR0).low hLW,Hps2.out⟩,(Aoc (E9 hX.d hg9 hR0) hX.nd Hdz.out).low hLW⟩
theorem Ac9:∀(ps:List Bv) (k:Nat) (p:Bv) (u:Value) (x:Ba),ps[k]?=some p->x.nm=p.1.nm->(rowsB ps).set (k*3+1) u=rowsB (ps.set k (x,u,p.2.2))
 | q::r,0,p,u,x,hp,hx=>by
  simp at hp;subst hp
  simp[rowsB,rowB,hx]
 | q::r,k+1,p,u,x,hp,hx=>by
  have ih:=Ac9 r k p u x (by simpa using hp) hx;have hl:(rowB q).length=3:=rfl;rw[List.set_cons_succ,rowsB,rowsB,← ih,List.set_append_right _ _ (by rw[hl];omega),hl,show (k+1)*3+1-3=k*3+1 by omega]
theorem AeD:∀(ps:List Bv) (k:Nat) (p:Bv) (u:Value) (x:Ba),ps[k]?=some p->x.nm=p.1.nm->(rowsB ps).set (k*3+2) u=rowsB (ps.set k (x,p.2.1,u))
 | q::r,0,p,u,x,hp,hx=>by
  simp at hp;subst hp
  simp[rowsB,rowB,hx]
 | q::r,k+1,p,u,x,hp,hx=>by
  have ih:=AeD r k p u x (by simpa using hp) hx;have hl:(rowB q).length=3:=rfl;rw[List.set_cons_succ,rowsB,rowsB,← ih,List.set_append_right _ _ (by rw[hl];omega),hl,show (k+1)*3+2-3=k*3+2 by omega]
theorem AgW (ss:List ByteArray) (v:Value) (nm:ByteArray) (w:World) (h:Txt w v ss) (hn:ss.length<=1000) :
  Calls Tryz.prog 87 #[v,.string nm] w λe w'=>(∃u,e=.returned u/\Txt w' u (insL ss nm)/\(u=v/\insL ss nm=ss∨OwnT w' w.heap.size u (insL ss nm)))/\Below w.heap.size w w':=by
 have hT:=h;obtain⟨g,c,rfl,hS,hg,hc,hc9⟩:=h;unfold maxLen at hc9;obtain⟨ii,hi,iz0,iz1,iz2⟩:=info_parts M1;have HT:Hid (Txt w (.slice (some ⟨g,0,none⟩) ss.length c) ss):=hT;clear hT;go_enter Tryz.func87,Tryz.ntmps87
 go_wp2_with fail
 go_loop [5] (λi=>∃k:Nat,k<=ss.length/\i=.int .i64 k/\lowL ss nm k) (λi=>ss.length-(intOf i).toNat)
 case atStart=>exact⟨0,by omega,rfl,λj s hj=>by omega⟩
 case round =>
  obtain⟨k,hk,rfl,hlow⟩:=hrel;have Hlow:Hid (lowL ss nm k):=hlow;clear hlow;by_cases hp:k<ss.length
  ·have c0:=hS k ss[k] (by simp[hp])
   simp only[Nat.zero_add] at c0;cases hl:Op.bytesLess (ss[k]).toList nm.toList
   case true =>
    have Hl:Hid (lessB ss[k] nm=true):=hl;go_wp2_with fail
    go_round
    case rel=>exact⟨k+1,by omega,by go_num,Afj Hlow.out hp Hl.out⟩
    case measure=>simp[intOf];omega
   have Hl:Hid (lessB ss[k] nm=false):=hl;cases hq:((ss[k]).toList==nm.toList)
   case true =>
    have Hq:Hid (insL ss nm=ss):=AdO ss nm k Hlow.out ⟨ss[k],by simp[hp],Hl.out,hq⟩;go_wp2_with fail
    go_ret
    exact⟨⟨_,rfl,by rw[Hq.out];exact HT.out,.inl ⟨rfl,Hq.out⟩⟩,A4 _ _⟩
   have Hq:Hid (insL ss nm=ss.take k++nm::ss.drop k):=Aba ss nm k Hlow.out hk (λs hs=>by
    obtain⟨_,rfl⟩:=A2.1 hs;exact⟨Hl.out,hq⟩)
   go_wp2_with fail
   obtain⟨o2,ho2⟩:∃o2:Nat,(if c=k then some (⟨g,0,none⟩:Addr) else some ⟨g,k,none⟩)=some ⟨g,o2,none⟩/\StrsAt w g o2 (ss.drop k):=by
    by_cases h7:c=k
    ·exact⟨0,by rw[if_pos h7],λi s hs=>by
      have:=(A2.1 hs).1;simp at this;omega⟩
    ·exact⟨k,by rw[if_neg h7],by have:=hS.drop k;simpa using this⟩
   obtain⟨ho2,-⟩:=ho2;have Nb:((w.alloc (.cells #[] 9)).alloc (.cells #[.string nm] 9)).drew.cell? ⟨w.heap.size+1,0,none⟩=some (.string nm):=by simp[go_sem]
   have nb1:some (w.heap.size+1)≠(Value.slice (some ⟨w.heap.size,0,none⟩) 0 0).ownBlock:=by simp[Value.ownBlock]
   have Nc:((w.alloc (.cells #[.string nm] 9)).alloc (.cells #[] 9)).drew.cell? ⟨w.heap.size,0,none⟩=some (.string nm):=by simp[go_sem]
   have nc1:some w.heap.size≠(Value.slice (some ⟨w.heap.size+1,0,none⟩) 0 0).ownBlock:=by simp[Value.ownBlock]
   have hkc:k<=c:=by omega
   have Fa:=(S1 hS (A4 w.heap.size w)).drew;have Fb:=((S1 hS (A4 w.heap.size w)).alloc (.cells #[.string nm] 9)).drew;have Fc:=(S1 (hS.alloc (.cells #[.string nm] 9)) ((A4 w.heap.size w).alloc (A3 _) (.cells #[.string nm] 9))).drew;rw[show (w.alloc (.cells #[.string nm] 9)).heap.size=w.heap.size+1 by simp] at Fc
   go_region_law (first
    | (revert h2;intro h2;refine F6 rfl _ _ 22 rfl w.heap.size 9 ii _ 1 16 Tryz.underlying22 hi iz0 iz1 iz2 rfl (by decide) _ _ _ rfl h2.1 ⟨g,o2,none⟩ (ss.length-k) _ ((ss.drop k).map Value.string) rfl (by simp) (K0 (Ab0 h2.2.1 ho2 hc)) (Aaa _) (by unfold maxLen;omega) (by omega) h2.2.2.size ?_;intro v3 w3 hown3 hgrow3;have h3:=h2.grow hg hgrow3 hown3;clear h2 hown3 hgrow3)
    | (revert h1;intro h1;refine F6 rfl _ _ 22 rfl w.heap.size 9 ii _ 1 16 Tryz.underlying22 hi iz0 iz1 iz2 rfl (by decide) _ _ _ rfl (by first|exact h1.1|exact (h1.alloc _).1) _ 1 1 [.string nm] rfl rfl (by first|exact Q8 _ _ _|exact Adt hN1) (AaY nm) (by unfold maxLen;omega) (by omega) (by first|exact h1.2.2.size|exact (h1.alloc _).2.2.size) ?_;intro v2 w2 hown2 hgrow2;first|have h2:=h1.grow hg hgrow2 hown2|have h2:=(h1.alloc _).grow hg hgrow2 hown2;clear h1 hown2 hgrow2)
    | (refine F6 rfl _ _ 22 rfl w.heap.size 9 ii _ 1 16 Tryz.underlying22 hi iz0 iz1 iz2 rfl (by decide) _ 0 [] rfl (by first|exact Fa.1|exact Fb.1|exact Fc.1) ⟨g,0,none⟩ k _ ((ss.take k).map Value.string) rfl (by simp;omega) (by first|exact K0 (Fa.2.1.take k)|exact K0 (Fb.2.1.take k)|exact K0 (Fc.2.1.take k)) (Aaa _) (by unfold maxLen;omega) (by omega) (by first|exact Fa.2.2.size|exact Fb.2.2.size|exact Fc.2.2.size) ?_;intro v1 w1 hown1 hgrow1;first|(have h1:=Fa.grow hg hgrow1 hown1)|(have h1:=Fb.grow hg hgrow1 hown1;have hN1:=hgrow1.cell Nb nb1)|(have h1:=Fc.grow hg hgrow1 hown1;have hN1:=hgrow1.cell Nc nc1);clear hown1 hgrow1))
   all_goals
    have HT3:Txt w3 v3 (insL ss nm):=by
     rw[Hq.out];exact Txt.own (n:=0+k+1+(ss.length-k)) (by simpa using h3.1) (by simp;omega) (F4 h3.1 (by omega))
    have hO3:OwnT w3 w.heap.size v3 (insL ss nm):=by
     unfold OwnT;rw[Hq.out];have:=h3.1;have e1:(ss.take k++nm::ss.drop k).length=0+k+1+(ss.length-k):=by simp;omega
     rw[e1];simpa using this
    have hB3:=h3.2.2;clear h3;go_wp2_with fail
    go_ret
    exact⟨⟨_,rfl,HT3,.inr hO3⟩,hB3⟩
  ·have Hq:Hid (insL ss nm=ss.take k++nm::ss.drop k):=Aba ss nm k Hlow.out hk (λs hs=>by
    have:=(A2.1 hs).1;omega)
   go_wp2_with fail
   obtain⟨o2,ho2⟩:∃o2:Nat,(if c=k then some (⟨g,0,none⟩:Addr) else some ⟨g,k,none⟩)=some ⟨g,o2,none⟩/\StrsAt w g o2 (ss.drop k):=by
    by_cases h7:c=k
    ·exact⟨0,by rw[if_pos h7],λi s hs=>by
      have:=(A2.1 hs).1;simp at this;omega⟩
    ·exact⟨k,by rw[if_neg h7],by have:=hS.drop k;simpa using this⟩
   obtain⟨ho2,-⟩:=ho2;have Nb:((w.alloc (.cells #[] 9)).alloc (.cells #[.string nm] 9)).drew.cell? ⟨w.heap.size+1,0,none⟩=some (.string nm):=by simp[go_sem]
   have nb1:some (w.heap.size+1)≠(Value.slice (some ⟨w.heap.size,0,none⟩) 0 0).ownBlock:=by simp[Value.ownBlock]
   have Nc:((w.alloc (.cells #[.string nm] 9)).alloc (.cells #[] 9)).drew.cell? ⟨w.heap.size,0,none⟩=some (.string nm):=by simp[go_sem]
   have nc1:some w.heap.size≠(Value.slice (some ⟨w.heap.size+1,0,none⟩) 0 0).ownBlock:=by simp[Value.ownBlock]
   have hkc:k<=c:=by omega
   have Fa:=(S1 hS (A4 w.heap.size w)).drew;have Fb:=((S1 hS (A4 w.heap.size w)).alloc (.cells #[.string nm] 9)).drew;have Fc:=(S1 (hS.alloc (.cells #[.string nm] 9)) ((A4 w.heap.size w).alloc (A3 _) (.cells #[.string nm] 9))).drew;rw[show (w.alloc (.cells #[.string nm] 9)).heap.size=w.heap.size+1 by simp] at Fc
   go_region_law (first
    | (revert h2;intro h2;refine F6 rfl _ _ 22 rfl w.heap.size 9 ii _ 1 16 Tryz.underlying22 hi iz0 iz1 iz2 rfl (by decide) _ _ _ rfl h2.1 ⟨g,o2,none⟩ (ss.length-k) _ ((ss.drop k).map Value.string) rfl (by simp) (K0 (Ab0 h2.2.1 ho2 hc)) (Aaa _) (by unfold maxLen;omega) (by omega) h2.2.2.size ?_;intro v3 w3 hown3 hgrow3;have h3:=h2.grow hg hgrow3 hown3;clear h2 hown3 hgrow3)
    | (revert h1;intro h1;refine F6 rfl _ _ 22 rfl w.heap.size 9 ii _ 1 16 Tryz.underlying22 hi iz0 iz1 iz2 rfl (by decide) _ _ _ rfl (by first|exact h1.1|exact (h1.alloc _).1) _ 1 1 [.string nm] rfl rfl (by first|exact Q8 _ _ _|exact Adt hN1) (AaY nm) (by unfold maxLen;omega) (by omega) (by first|exact h1.2.2.size|exact (h1.alloc _).2.2.size) ?_;intro v2 w2 hown2 hgrow2;first|have h2:=h1.grow hg hgrow2 hown2|have h2:=(h1.alloc _).grow hg hgrow2 hown2;clear h1 hown2 hgrow2)
    | (refine F6 rfl _ _ 22 rfl w.heap.size 9 ii _ 1 16 Tryz.underlying22 hi iz0 iz1 iz2 rfl (by decide) _ 0 [] rfl (by first|exact Fa.1|exact Fb.1|exact Fc.1) ⟨g,0,none⟩ k _ ((ss.take k).map Value.string) rfl (by simp;omega) (by first|exact K0 (Fa.2.1.take k)|exact K0 (Fb.2.1.take k)|exact K0 (Fc.2.1.take k)) (Aaa _) (by unfold maxLen;omega) (by omega) (by first|exact Fa.2.2.size|exact Fb.2.2.size|exact Fc.2.2.size) ?_;intro v1 w1 hown1 hgrow1;first|(have h1:=Fa.grow hg hgrow1 hown1)|(have h1:=Fb.grow hg hgrow1 hown1;have hN1:=hgrow1.cell Nb nb1)|(have h1:=Fc.grow hg hgrow1 hown1;have hN1:=hgrow1.cell Nc nc1);clear hown1 hgrow1))
   all_goals
    have HT3:Txt w3 v3 (insL ss nm):=by
     rw[Hq.out];exact Txt.own (n:=0+k+1+(ss.length-k)) (by simpa using h3.1) (by simp;omega) (F4 h3.1 (by omega))
    have hO3:OwnT w3 w.heap.size v3 (insL ss nm):=by
     unfold OwnT;rw[Hq.out];have:=h3.1;have e1:(ss.take k++nm::ss.drop k).length=0+k+1+(ss.length-k):=by simp;omega
     rw[e1];simpa using this
    have hB3:=h3.2.2;clear h3;go_wp2_with fail
    go_ret
    exact⟨⟨_,rfl,HT3,.inr hO3⟩,hB3⟩
theorem Al1 (b:Bk) (v gv:Value) (at':Nat) (gone:List ByteArray) (w:World) (h:BkV w v b) (hg:Ls w gv gone) (hat:at'<b.bs.length) :
  Calls Tryz.prog 151 #[v,.int .i64 at',gv] w λe w'=>e=.returned (.bool (pB (Can b.bs at' gone)))/\Below w.heap.size w w':=by
 obtain⟨a1,c1,a2,c2,rfl,h1,h2⟩:=h.parts;have hC:CB (w.alloc (.cells #[.slice a1 (b).things.length c1,.slice a2 (b).bs.length c2] 33)) w.heap.size [.slice a1 b.things.length c1,.slice a2 b.bs.length c2]:=E7 w _ _;have hB0:=(A4 w.heap.size w).alloc (A3 _) (.cells #[.slice a1 (b).things.length c1,.slice a2 (b).bs.length c2] 33);have g2:=h2.at.1;unfold maxLen at g2;go_enter Tryz.func151,Tryz.ntmps151
 go_upto_region 1 with fail
 generalize w.alloc (.cells #[.slice a1 (b).things.length c1,.slice a2 (b).bs.length c2] 33)=W1 at *;have l2:=h2.up hB0;have lg:=hg.up hB0;clear h h1 h2 hg;obtain⟨e0,e1⟩:=hC.c2';obtain⟨-,hpos⟩:=l2.at;obtain⟨bb,o,rfl,hS,hb⟩:=hpos (by omega);obtain⟨a5,d5,a6,d6,-,-,c8,-,l6,-⟩:=(hS.at hat).cells;go_wp2_with fail
 go_loopw [7] (λi w'=>∃k m:Nat,k<=b.bs.length/\i=.int .i64 k/\CanTo b.bs at' gone k/\w'=W1.drewN m) (λi _=>b.bs.length-(intOf i).toNat)
 case atStart=>exact⟨0,0,by omega,rfl,CanTo.zero _ _ _,rfl⟩
 case round =>
  obtain⟨k,m,hk,rfl,hal,hw⟩:=hrel;have Hw:Hid (wr=W1.drewN m):=hw;have Hal:Hid (CanTo b.bs at' gone k):=hal;have hBw:Below W1.heap.size W1 wr:=by rw[hw];exact E8 (A4 _ _) _
  clear hw hal;have f1:wr.cell? ⟨w.heap.size,1,none⟩=some (.slice (some ⟨bb,o,none⟩) b.bs.length c2):=by rw[Hw.out];exact e1
  by_cases hp:k<b.bs.length
  ·by_cases hka:k=at'
   ·subst hka
    have Hs:Hid (CanTo b.bs k gone (k+1)):=Hal.out.step hp hat (.inl rfl);go_wp2_with fail
    go_quiet (fail)
    go_wp2_with fail
    go_roundw
    case rel =>
     obtain⟨m',hm'⟩:=M2 (n:=nq) Hw.out;exact⟨k+1,m',by omega,by go_num,Hs.out,hm'⟩
    case measure=>simp[intOf];omega
   have hkb:((k:Int) != (at':Int))=true:=by rw[bne_iff_ne];omega
   obtain⟨a3,d3,a4,d4,c3,c4,-,l3,-,-⟩:=(hS.at hp).cells;have c3':wr.cell? ⟨bb,o+k*3,none⟩=some (.string (b.bs[k]).nm):=by rw[Hw.out];exact c3
   have c4':wr.cell? ⟨bb,o+k*3+1,none⟩=some (.slice a3 (b.bs[k]).has.length d3):=by rw[Hw.out];exact c4
   have c8':wr.cell? ⟨bb,o+at'*3+2,none⟩=some (.slice a6 (b.bs[at']).needs.length d6):=by rw[Hw.out];exact c8
   have HY:Hid (memS gone (b.bs[k]).nm=true∨shareB (b.bs[k]).has (b.bs[at']).needs=false->CanTo b.bs at' gone (k+1)):=λh=>Hal.out.step hp hat (.inr h);have HN:Hid (memS gone (b.bs[k]).nm=false->shareB (b.bs[k]).has (b.bs[at']).needs=true->¬Can b.bs at' gone):=λh1 h2=>can_no hp hat hka h1 h2;have R1:Hid (∀n,Calls Tryz.prog 118 #[gv,.string (b.bs[k]).nm] (wr.drewN n) λe w''=>e=.returned (.bool (memS gone (b.bs[k]).nm))/\∃m,w''=wr.drewN m):=λn=>Calls.quiet_of_same (N6 gone gv _ _ (by have e:=Hw.out;subst e;exact lg));have R2:Hid (∀n,Calls Tryz.prog 121 #[.slice a3 (b.bs[k]).has.length d3,.slice a6 (b.bs[at']).needs.length d6] (wr.drewN n) λe w''=>e=.returned (.bool (shareB (b.bs[k]).has (b.bs[at']).needs))/\∃m,w''=wr.drewN m):=λn=>Calls.quiet_of_same (Aa3 _ _ _ _ _ (by have e:=Hw.out;subst e;exact l3) (by have e:=Hw.out;subst e;exact l6));clear c3 c4 l3;generalize b.bs[k]=x0 at *;generalize b.bs[at']=y0 at *;obtain⟨hv,hhv⟩:∃hv,Value.slice a3 x0.has.length d3=hv:=⟨_,rfl⟩;obtain⟨nv,hnv⟩:∃nv,Value.slice a6 y0.needs.length d6=nv:=⟨_,rfl⟩;rw[hhv] at c4' R2;rw[hnv] at c8' R2;clear hhv hnv;cases hm:memS gone x0.nm
   case true =>
    have Hs:Hid (CanTo b.bs at' gone (k+1)):=HY.out (.inl hm);have Q1:Hid (∀n,Calls Tryz.prog 118 #[gv,.string x0.nm] (wr.drewN n) λe w''=>e=.returned (.bool true)/\∃m,w''=wr.drewN m):=by have:=R1.out;rw[hm] at this;exact this
    have q1:=Q1.out;clear Q1 R1 R2 HY HN;go_wp2_with fail
    go_quiet ((go_at_call 118;exact q1 _))
    go_wp2_with fail
    go_roundw
    case rel =>
     obtain⟨m',hm'⟩:=M2 (n:=nq) Hw.out;exact⟨k+1,m',by omega,by go_num,Hs.out,hm'⟩
    case measure=>simp[intOf];omega
   have Q1:Hid (∀n,Calls Tryz.prog 118 #[gv,.string x0.nm] (wr.drewN n) λe w''=>e=.returned (.bool false)/\∃m,w''=wr.drewN m):=by have:=R1.out;rw[hm] at this;exact this
   cases hs:shareB x0.has y0.needs
   ·have Hs:Hid (CanTo b.bs at' gone (k+1)):=HY.out (.inr hs)
    have Q2:Hid (∀n,Calls Tryz.prog 121 #[hv,nv] (wr.drewN n) λe w''=>e=.returned (.bool false)/\∃m,w''=wr.drewN m):=by have:=R2.out;rw[hs] at this;exact this
    have q1:=Q1.out;have q2:=Q2.out;clear Q1 Q2 R1 R2 HY HN;go_wp2_with fail
    go_quiet ((first|(go_at_call 118;exact q1 _)|(go_at_call 121;exact q2 _)))
    go_wp2_with fail
    go_roundw
    case rel =>
     obtain⟨m',hm'⟩:=M2 (n:=nq) Hw.out;exact⟨k+1,m',by omega,by go_num,Hs.out,hm'⟩
    case measure=>simp[intOf];omega
   ·have Hs:Hid (¬Can b.bs at' gone):=HN.out hm hs
    have Q2:Hid (∀n,Calls Tryz.prog 121 #[hv,nv] (wr.drewN n) λe w''=>e=.returned (.bool true)/\∃m,w''=wr.drewN m):=by have:=R2.out;rw[hs] at this;exact this
    have q1:=Q1.out;have q2:=Q2.out;clear Q1 Q2 R1 R2 HY HN;go_wp2_with fail
    go_quiet ((first|(go_at_call 118;exact q1 _)|(go_at_call 121;exact q2 _)))
    go_wp2_with fail
    go_ret
    exact⟨D7 (F3 Hs.out).symm,D6 hB0 (E8 hBw _)⟩
  ·have Hs:Hid (Can b.bs at' gone):=An7 Hal.out hp
   go_wp2_with fail
   go_ret
   exact⟨D7 (I7 Hs.out).symm,D6 hB0 hBw⟩
end Go.Proofs.YtebfdccbmmpceaaGreatDoor
