/- The program's chapter 23: runAllAsk. -/
import Derived.Test.YtebfdccbmmpceaaGreatDoorJ33
import Derived.Test.YtebfdccbmmpceaaGreatDoorJ29
import Derived.Test.YtebfdccbmmpceaaGreatDoorJ7
import Derived.Test.YtebfdccbmmpceaaGreatDoorJ27
import Derived.Test.YtebfdccbmmpceaaGreatDoorJ8
import Derived.Test.YtebfdccbmmpceaaGreatDoorJ31
set_option maxRecDepth 20000
set_option maxHeartbeats 8000000
namespace Go.Proofs.YtebfdccbmmpceaaGreatDoor
open Go.RowKit
theorem Aka (h:House) (y:Nat) (u:FrameMode) (w0 w:World) (hB0:Below w0.heap.size w0 w) (hE:Ends w0) (hT:ErrT w0) (H:PH w w0.heap.size y h) (hsi:∀x∈h.bs,-1<=x.si) :
  CallsD Tryz.prog 54 #[.pointer (some ⟨y,0,none⟩)] u w λe u' w'=>u'=u/\(e=.returned (.tuple #[])/\PH w' w0.heap.size y (asksH h h.bs.length)/\Below w0.heap.size w0 w'):=by
 obtain⟨tv,bv,xv,dv,kA,HH⟩:=H;obtain⟨-,-,-,-,a3,c3,-,-,-,-,rfl,-⟩:=HH.v.shapes
 have hmx:h.bs.length<=9223372036854775807:=by
  obtain⟨ps,hw,he⟩:=HH.x;have:=Aav hw.1.1;rw[← he,B4];unfold maxLen at this;omega
 have Hsi:Hid (∀x∈h.bs,-1<=x.si):=hsi;clear hsi;go_enter_d Tryz.func54,Tryz.ntmps54
 obtain⟨-,-,-,-,e4,-⟩:=(D9 kA).c6;go_upto_region 1 with fail
 clear e4;go_loopw [13] (λi w'=>∃(k:Nat) (tu bu:Value),k<=h.bs.length/\i=.int .i64 k/\w'.ownsRow w0.heap.size 37 6 (.slice (some ⟨y,0,none⟩) 1 1) 1 [.int .i64 h.now,.int .i64 h.last,tu,bu,.slice a3 h.bs.length c3,dv]/\HP w' w0.heap.size (asksH h k) tu bu (.slice a3 h.bs.length c3) dv/\Below w0.heap.size w0 w') (λi _=>h.bs.length-(intOf i).toNat)
 case atStart=>exact⟨0,tv,bv,by omega,rfl,kA,HH,hB0⟩
 case round =>
  clear kA HH hB0;obtain⟨k,tu,bu,hle,rfl,kA,HH,hB⟩:=hrel;have Hz4:Hid ((asksH h k).bs.length=h.bs.length):=(Aao h k).2.2.2;have Hsk:Hid (∀x∈(asksH h k).bs,-1<=x.si):=Ahd Hsi.out k;have HN:Hid (asksH h (k+1)=askH (asksH h k) k):=rfl;have Hnow:Hid ((asksH h k).now=h.now/\(asksH h k).last=h.last):=⟨(Aao h k).1,(Aao h k).2.1⟩;have HE:Hid (k=h.bs.length->asksH h h.bs.length=asksH h k):=λe=>by rw[e]
  generalize asksH h k=hk at *;obtain⟨-,-,e2,e3,e4,-⟩:=(D9 kA).c6;by_cases hp:k<h.bs.length
  ·obtain⟨ps,hW,hm⟩:=HH.x
   have hpl:ps.length=h.bs.length:=by have:=congrArg List.length hm;rw[B4,Hz4.out] at this;exact this
   obtain⟨g,cap,eg⟩:=F4 hW.1.1 (by omega);simp only[Value.slice.injEq] at eg;obtain⟨rfl,-,rfl⟩:=eg;have hrow:=hW.1.1;rw[hpl] at hrow;obtain⟨⟨x0,ru,su⟩,hpk⟩:∃p,ps[k]?=some p:=⟨ps[k]'(by omega),A0 _⟩;have Hpk:Hid (ps[k]?=some (x0,ru,su)):=hpk;have Hx0:Hid (hk.bs[k]?=some x0):=by show _=_;rw[← hm,B0,hpk];rfl
   have hrc:=hW.1.2 _ (A6 hpk);have hnr:NN ru:=hrc.nr;have hns:NN su:=hrc.ns;obtain⟨g3,n3,m3,rfl⟩:=hnr;obtain⟨g4,n4,m4,rfl⟩:=hns;have hcl:=G8 G6 hrow hpk;have q0:World.cell? wr ⟨g,k*6,none⟩=some (.string x0.nm):=hcl 0 _ rfl;have q1:World.cell? wr ⟨g,k*6+1,none⟩=some (.slice (some ⟨g3,0,none⟩) n3 m3):=hcl 1 _ rfl;have q2:World.cell? wr ⟨g,k*6+2,none⟩=some (.slice (some ⟨g4,0,none⟩) n4 m4):=hcl 2 _ rfl;have q3:World.cell? wr ⟨g,k*6+3,none⟩=some (.string x0.ad):=hcl 3 _ rfl;have q4:World.cell? wr ⟨g,k*6+4,none⟩=some (.int .i64 x0.si):=hcl 4 _ rfl;have q5:World.cell? wr ⟨g,k*6+5,none⟩=some (.int .i64 x0.st):=hcl 5 _ rfl;have hv:RbV wr x0 (.slice (some ⟨g3,0,none⟩) n3 m3) (.slice (some ⟨g4,0,none⟩) n4 m4):=hrc.v;have hglt:g<wr.heap.size:=(hrow.lt g rfl).2;have hylt:y<wr.heap.size:=(kA.lt y rfl).2;have hs1:-1<=x0.si:=Hsk.out x0 (A6 Hx0.out);clear hcl hrc hm hpk hpl;by_cases hsi:0<=x0.si
   ·have HA:Hid (askH hk k=hk):=by show _=_;rw[Ad3 Hx0.out,if_pos hsi]
    have hne:¬x0.si=-1:=by omega
    clear hv hrow hW;go_wp2_with (go_at_call 55;refine (Ael _ _ _ _ _ _ _ _ _ _ _ hne).mono ?_;rintro e w3 ⟨rfl,hb3⟩)
    go_roundw
    case rel=>exact⟨k+1,tu,bu,by omega,by go_num,E1 kA hb3,by rw[HN.out,HA.out];exact HH.up hb3,D6 hB hb3⟩
    case measure=>simp[intOf];omega
   ·have hm1:x0.si=-1:=by omega
    have HA:Hid (askH hk k=if askC hk.sh x0.nm (rbOwn x0)=0 then {hk with sh:=askB hk.sh x0.nm (rbOwn x0),bs:=hk.bs.set k {x0 with si:=0}} else hk):=by show _=_;rw[Ad3 Hx0.out,if_neg hsi]
    rw[hm1] at q4;go_upto_region 6 with (go_at_call 55;refine (AcD _ _ _ _ _ _ _ _ _ _).mono ?_;rintro e w3 ⟨rfl,hb3⟩)
    rw[← hm1] at q4
    have mk:∀w',Below w3.heap.size w3 w'->World.cell? w' ⟨y,2,none⟩=some tu/\World.cell? w' ⟨y,3,none⟩=some bu/\World.cell? w' ⟨g,k*6,none⟩=some (.string x0.nm)/\World.cell? w' ⟨g,k*6+1,none⟩=some (.slice (some ⟨g3,0,none⟩) n3 m3)/\World.cell? w' ⟨g,k*6+2,none⟩=some (.slice (some ⟨g4,0,none⟩) n4 m4)/\World.cell? w' ⟨g,k*6+3,none⟩=some (.string x0.ad)/\World.cell? w' ⟨g,k*6+4,none⟩=some (.int .i64 x0.si)/\World.cell? w' ⟨g,k*6+5,none⟩=some (.int .i64 x0.st):=λw' hb'=>by
     have hb:=D6 hb3 hb';exact⟨(hb.cell (p:=⟨y,2,none⟩) hylt).trans e2,(hb.cell (p:=⟨y,3,none⟩) hylt).trans e3,(hb.cell (p:=⟨g,k*6,none⟩) hglt).trans q0,(hb.cell (p:=⟨g,k*6+1,none⟩) hglt).trans q1,(hb.cell (p:=⟨g,k*6+2,none⟩) hglt).trans q2,(hb.cell (p:=⟨g,k*6+3,none⟩) hglt).trans q3,(hb.cell (p:=⟨g,k*6+4,none⟩) hglt).trans q4,(hb.cell (p:=⟨g,k*6+5,none⟩) hglt).trans q5⟩
    have Mk:Hid (∀w',Below w3.heap.size w3 w'->World.cell? w' ⟨y,2,none⟩=some tu/\World.cell? w' ⟨y,3,none⟩=some bu/\World.cell? w' ⟨g,k*6,none⟩=some (.string x0.nm)/\World.cell? w' ⟨g,k*6+1,none⟩=some (.slice (some ⟨g3,0,none⟩) n3 m3)/\World.cell? w' ⟨g,k*6+2,none⟩=some (.slice (some ⟨g4,0,none⟩) n4 m4)/\World.cell? w' ⟨g,k*6+3,none⟩=some (.string x0.ad)/\World.cell? w' ⟨g,k*6+4,none⟩=some (.int .i64 x0.si)/\World.cell? w' ⟨g,k*6+5,none⟩=some (.int .i64 x0.st)):=mk;have HB3:=HH.up hb3;have kA3:=E1 kA hb3;have hrow3:=E1 hrow hb3;have hB3:=D6 hB hb3;have HB:Hid (BkV w3 (.agg #[tu,bu]) hk.sh):=HB3.k.bk HB3.z;have hEr:=hE.up hB3;have hTr:=hT.up hB3;replace hv:=hv.up hb3;have hb0:=hB3.size;clear mk q0 q1 q2 q3 q4 q5 e2 e3 e4 kA HH hB hrow hb3 hylt hglt hm1 hs1 hsi hW;go_cut [6,7] (λv6 v7 wc=>∃(Y:Nat) (tw bw:Value),v6=.pointer (some ⟨Y,0,none⟩)/\v7=.int .i64 (askC hk.sh x0.nm (rbOwn x0))/\Below w3.heap.size w3 wc/\BkF wc w3.heap.size (.agg #[tw,bw]) (askB hk.sh x0.nm (rbOwn x0))/\CB wc Y [tw,bw])
    case first =>
     have hC:AQ w3 hk x0 w3.drew none none none:=(aq_nil w3 hk x0).up (A4 _ _).drew;refine F5 99 (λw'=>World.cell? w' ⟨y,2,none⟩=some tu/\World.cell? w' ⟨y,3,none⟩=some bu/\World.cell? w' ⟨g,k*6,none⟩=some (.string x0.nm)/\World.cell? w' ⟨g,k*6+1,none⟩=some (.slice (some ⟨g3,0,none⟩) n3 m3)/\World.cell? w' ⟨g,k*6+2,none⟩=some (.slice (some ⟨g4,0,none⟩) n4 m4)/\World.cell? w' ⟨g,k*6+3,none⟩=some (.string x0.ad)/\World.cell? w' ⟨g,k*6+4,none⟩=some (.int .i64 x0.si)/\World.cell? w' ⟨g,k*6+5,none⟩=some (.int .i64 x0.st)) (by kernel_rfl) ?_;generalize w3.drew=X1 at hC ⊢
     have hS1:=Mk.out _ hC.B;refine tkx 0 rfl hS1 ?_;refine tkx 1 rfl hS1 ?_;refine tkx 2 rfl hS1 ?_;refine tkx 3 rfl hS1 ?_;refine tkx 4 rfl hS1 ?_;refine tkx 5 rfl hS1 ?_;refine tkx 6 rfl hS1 ?_;refine tkx 7 rfl hS1 ?_;refine tkx 8 rfl hS1 ?_;refine tkx 9 rfl hS1 ?_;refine tkx 10 rfl hS1 ?_;clear hS1;refine L2 (i:=11) (j:=16) (by kernel_rfl) rfl rfl (λK hK=>?_) (λK hK=>?_)
     ·(go_simp;go_wp2_with (go_at_call 104;refine (Aea x0 _ _ _ (hEr.up hC.B) (hv.up hC.B)).mono ?_;rintro e X2 ⟨⟨u1,rfl,hu⟩,hb2⟩;replace hC:=hC.own hb2 hu.lst;obtain⟨a9,c9,rfl⟩:=hu.lst.shape;clear hb2 hu);refine hK.out _ _ (λ_=>(Mk.out _ hC.B)) ?_;clear hK K)
      refine L2 (i:=12) (j:=16) (by kernel_rfl) rfl rfl (λK hK=>?_) (λK hK=>?_)
      ·(go_simp;go_wp2_with (go_at_call 103;refine (Aek hk.sh _ x0.nm _ (rbOwn x0) _ (HB.out.up hC.B) ((hC.s11 _ rfl).ls (L8 hv)) (hTr.up hC.B)).mono ?_;rintro e X3 ⟨⟨v8,rfl,hk8⟩,hb8⟩;replace hC:=hC.ask hb8 hk8;obtain⟨t1,d1,t2,d2,rfl⟩:=hk8.shape;clear hk8 hb8);refine hK.out _ _ (λ_=>(Mk.out _ hC.B)) ?_;clear hK K;(refine tkx 13 rfl (Mk.out _ hC.B) ?_);(refine tkx 14 rfl (Mk.out _ hC.B) ?_);(refine tkx 15 rfl (Mk.out _ hC.B) ?_))
       refine D8 (i:=16) (by kernel_rfl) rfl (λK hK=>?_)
       (go_simp;replace hC:=hC.new;refine hK.out _ _ (λ_=>(Mk.out _ hC.B)) ?_;clear hK K;generalize World.alloc _ (.cells #[.slice none 0 0,.slice none 0 0] 33)=X4 at hC ⊢)
       (have kY:=D9 (hC.s16 _ rfl);obtain⟨⟨j0,j1⟩,m0,m1⟩:=kY.c2;have hF:=hC.fin;refine D8 (i:=17) (by kernel_rfl) rfl (λK hK=>?_);go_simp;refine hK.out _ _ (λ_=>Mk.out _ hF.1) ?_;clear hK K j0 j1 m0 m1 kY;refine D8 (i:=18) (by kernel_rfl) rfl (λK hK=>?_);go_simp;refine hK.out _ _ (λ_=>Mk.out _ hF.1) ?_;clear hK K;refine F0 (by kernel_rfl) ?_ _;go_wp2_with fail;go_meet;exact⟨_,_,_,rfl,rfl,hF⟩)
      ·(go_simp;replace hC:=hC.new;refine hK.out _ _ (λ_=>(Mk.out _ hC.B)) ?_;clear hK K;generalize World.alloc _ (.cells #[.slice none 0 0,.slice none 0 0] 33)=X4 at hC ⊢)
       refine D8 (i:=12) (by kernel_rfl) rfl (λK hK=>?_)
       (go_simp;go_wp2_with (go_at_call 103;refine (Aek hk.sh _ x0.nm _ (rbOwn x0) _ (HB.out.up hC.B) ((hC.s11 _ rfl).ls (L8 hv)) (hTr.up hC.B)).mono ?_;rintro e X3 ⟨⟨v8,rfl,hk8⟩,hb8⟩;replace hC:=hC.ask hb8 hk8;obtain⟨t1,d1,t2,d2,rfl⟩:=hk8.shape;clear hk8 hb8);refine hK.out _ _ (λ_=>(Mk.out _ hC.B)) ?_;clear hK K;(refine tkx 13 rfl (Mk.out _ hC.B) ?_);(refine tkx 14 rfl (Mk.out _ hC.B) ?_);(refine tkx 15 rfl (Mk.out _ hC.B) ?_))
       (have kY:=D9 (hC.s16 _ rfl);obtain⟨⟨j0,j1⟩,m0,m1⟩:=kY.c2;have hF:=hC.fin;refine D8 (i:=17) (by kernel_rfl) rfl (λK hK=>?_);go_simp;refine hK.out _ _ (λ_=>Mk.out _ hF.1) ?_;clear hK K j0 j1 m0 m1 kY;refine D8 (i:=18) (by kernel_rfl) rfl (λK hK=>?_);go_simp;refine hK.out _ _ (λ_=>Mk.out _ hF.1) ?_;clear hK K;refine F0 (by kernel_rfl) ?_ _;go_wp2_with fail;go_meet;exact⟨_,_,_,rfl,rfl,hF⟩)
     ·(go_simp;replace hC:=hC.new;refine hK.out _ _ (λ_=>(Mk.out _ hC.B)) ?_;clear hK K;generalize World.alloc _ (.cells #[.slice none 0 0,.slice none 0 0] 33)=X4 at hC ⊢)
      refine D8 (i:=11) (by kernel_rfl) rfl (λK hK=>?_)
      (go_simp;go_wp2_with (go_at_call 104;refine (Aea x0 _ _ _ (hEr.up hC.B) (hv.up hC.B)).mono ?_;rintro e X2 ⟨⟨u1,rfl,hu⟩,hb2⟩;replace hC:=hC.own hb2 hu.lst;obtain⟨a9,c9,rfl⟩:=hu.lst.shape;clear hb2 hu);refine hK.out _ _ (λ_=>(Mk.out _ hC.B)) ?_;clear hK K)
      refine D8 (i:=12) (by kernel_rfl) rfl (λK hK=>?_)
      (go_simp;go_wp2_with (go_at_call 103;refine (Aek hk.sh _ x0.nm _ (rbOwn x0) _ (HB.out.up hC.B) ((hC.s11 _ rfl).ls (L8 hv)) (hTr.up hC.B)).mono ?_;rintro e X3 ⟨⟨v8,rfl,hk8⟩,hb8⟩;replace hC:=hC.ask hb8 hk8;obtain⟨t1,d1,t2,d2,rfl⟩:=hk8.shape;clear hk8 hb8);refine hK.out _ _ (λ_=>(Mk.out _ hC.B)) ?_;clear hK K;(refine tkx 13 rfl (Mk.out _ hC.B) ?_);(refine tkx 14 rfl (Mk.out _ hC.B) ?_);(refine tkx 15 rfl (Mk.out _ hC.B) ?_))
      (have kY:=D9 (hC.s16 _ rfl);obtain⟨⟨j0,j1⟩,m0,m1⟩:=kY.c2;have hF:=hC.fin;refine D8 (i:=17) (by kernel_rfl) rfl (λK hK=>?_);go_simp;refine hK.out _ _ (λ_=>Mk.out _ hF.1) ?_;clear hK K j0 j1 m0 m1 kY;refine D8 (i:=18) (by kernel_rfl) rfl (λK hK=>?_);go_simp;refine hK.out _ _ (λ_=>Mk.out _ hF.1) ?_;clear hK K;refine F0 (by kernel_rfl) ?_ _;go_wp2_with fail;go_meet;exact⟨_,_,_,rfl,rfl,hF⟩)
    case rest =>
     obtain⟨Y,tw,bw,rfl,rfl,hBc,hbk,kY⟩:=hcut;have HHc:=HB3.up hBc;have kAc:=E1 kA3 hBc;have hrowc:=E1 hrow3 hBc;have hBB:=D6 hB3 hBc;have Hz:Hid (Szb (askB hk.sh x0.nm (rbOwn x0))):=Ana HB3.z (L8 hv);clear Mk HB hrow3 HB3 kA3 hv hEr hTr hB3;by_cases hcd:askC hk.sh x0.nm (rbOwn x0)=0
     ·have HA2:Hid (asksH h (k+1)={hk with sh:=askB hk.sh x0.nm (rbOwn x0),bs:=hk.bs.set k {x0 with si:=0}}):=by show _=_;rw[HN.out,HA.out,if_pos hcd]
      rw[hcd];clear hcd;obtain⟨t1,d1,t2,d2,e9⟩:=hbk.shape;simp only[Value.agg.injEq,Array.mk.injEq,List.cons.injEq,and_true] at e9;obtain⟨rfl,rfl⟩:=e9;generalize askB hk.sh x0.nm (rbOwn x0)=b' at *;obtain⟨v0,v1⟩:=kY.c2';obtain⟨e0,e1,e2,e3,e4,e5⟩:=(D9 kAc).c6;obtain⟨f0,f1,f2,f3,f4,f5⟩:=(D9 kAc).f6;have b1:=J6 (j:=2) kAc (.slice t1 b'.things.length d1);have b2:=J6 (j:=3) b1.1 (.slice t2 b'.bs.length d2);have hg2:wc.grownBy ((wc.setCell ⟨y,2,none⟩ (.slice t1 b'.things.length d1)).setCell ⟨y,3,none⟩ (.slice t2 b'.bs.length d2)) (Value.slice (some ⟨y,0,none⟩) 1 1).ownBlock:=E3 b1.2 b2.2
      obtain⟨W7,hW7,kA7,hrow7,HH7,hbk7,hB7⟩:∃W7,(wc.setCell ⟨y,2,none⟩ (.slice t1 b'.things.length d1)).setCell ⟨y,3,none⟩ (.slice t2 b'.bs.length d2)=W7/\W7.ownsRow w0.heap.size 37 6 (.slice (some ⟨y,0,none⟩) 1 1) 1 [.int .i64 h.now,.int .i64 h.last,.slice t1 b'.things.length d1,.slice t2 b'.bs.length d2,.slice (some ⟨g,0,none⟩) h.bs.length c3,dv]/\W7.ownsRow w0.heap.size 52 6 (.slice (some ⟨g,0,none⟩) h.bs.length c3) h.bs.length (rowsF rowR ps)/\HP W7 w0.heap.size hk tu bu (.slice (some ⟨g,0,none⟩) h.bs.length c3) dv/\BkF W7 w0.heap.size (.agg #[.slice t1 b'.things.length d1,.slice t2 b'.bs.length d2]) b'/\Below w0.heap.size w0 W7 :=
       ⟨_,rfl,b2.1,E2 hrowc hg2 (E5 hrowc kAc (by decide)),HHc.box kAc hg2,(hbk.step kAc (by decide) (by decide) hg2).low hb0,F1 hBB hBB.size kAc hg2 (A3 _)⟩
      go_upto_region 9 with fail
      try rw[hW7]
      clear hW7 e0 e1 e2 e3 e4 e5 f0 f1 f2 f3 f4 f5 v0 v1 b1 b2 hg2 kAc hrowc HHc hbk kY hBc hBB;have q4:World.cell? W7 ⟨g,k*6+4,none⟩=(rowsF rowR ps)[k*6+4]?:=hrow7.cellAt (k*6+4) (by omega);rw[Y9 G6 ps k _ Hpk.out 4 (.int .i64 x0.si) rfl] at q4;have f4:=hrow7.frozenAt (k*6+4);have hg8:W7.grownBy (W7.setCell ⟨g,k*6+4,none⟩ (.int .i64 0)) (Value.slice (some ⟨g,0,none⟩) h.bs.length c3).ownBlock:=(B3 hrow7 _ _).2;have HH8:=HH7.since Hx0.out hbk7 Hz.out 0;have kA8:=E2 kA7 hg8 (E5 kA7 hrow7 (by decide));have hB8:=F1 hB7 hB7.size hrow7 hg8 (A3 _);clear HH7 hbk7 kA7 hB7 hrow7 hg8;go_wp2_with fail
      go_roundw
      case rel=>exact⟨k+1,_,_,by omega,by go_num,kA8,by rw[HA2.out];exact HH8,hB8⟩
      case measure=>simp[intOf];omega
     ·have HA2:Hid (asksH h (k+1)=hk):=by show _=_;rw[HN.out,HA.out,if_neg hcd]
      have hcd':(askC hk.sh x0.nm (rbOwn x0)==0)=false:=by simpa using hcd
      go_wp2_with fail
      go_roundw
      case rel=>exact⟨k+1,_,_,by omega,by go_num,kAc,by rw[HA2.out];exact HHc,hBB⟩
      case measure=>simp[intOf];omega
  ·have HF:Hid (asksH h h.bs.length=hk):=HE.out (by omega)
   clear e2 e3 e4;go_wp2_with fail
   go_end0
   exact⟨rfl,by rw[HF.out];exact⟨_,_,_,_,by rw[Hnow.out.1,Hnow.out.2];exact kA,HH⟩,hB⟩
noncomputable def goT (h:House) (k:Nat):House:=match h.bs[k]? with
 | none=>h
 | some x=>if 0<=x.si then (if x.si+1=(phOf x.ps x.ad).wi then onH {h with bs:=h.bs.set k {x with si:=x.si+1}} k (phOf x.ps x.ad).e else {h with bs:=h.bs.set k {x with si:=x.si+1}}) else h
noncomputable def goTo (h:House):Nat->House
 | 0=>h
 | k+1=>goTo (goT h k) k
def tickF (h:House) (k:Nat):House:={h with bs:=(h.bs.take k).map tickB++h.bs.drop k}
theorem Aem {α:Type} (A B:List α) (y:α):(A++y::B)[A.length]?=some y:=by simp
theorem Af3 {α:Type} (A B:List α) (y z:α):(A++y::B).set A.length z=A++z::B:=by simp
theorem AlK {α:Type} (A B:List α) (y:α):(A++y::B).take A.length++(A++y::B).drop (A.length+1)=A++B:=by
 rw[List.take_left' rfl,List.drop_append];simp
theorem Adp {h:House} {A B:List Rb} {y:Rb} (hb:h.bs=A++y::B) (nm:ByteArray):onH h A.length nm=if endN nm=0 then {h with sh:=lsnB h.sh y.nm (thE y.sl (slE y.ps nm)),bs:=A ++ {y with ad:=nm,si:=-1}::B} else {h with sh:=leaveB h.sh y.nm,bs:=A++B,ds:=cut20 (h.ds++[⟨y.nm,endN nm,h.now⟩])}:=by
 unfold onH;rw[hb,Aem];simp only[Af3,AlK]
theorem Ahe {h:House} {A B:List Rb} {y:Rb} (hb:h.bs=A++y::B):lateAt h A.length=if (phOf y.ps y.ad).wi<=y.si then onH h A.length (phOf y.ps y.ad).e else h:=by
 unfold lateAt;rw[hb,Aem]
theorem Af4 {h:House} {A B:List Rb} {y:Rb} (hb:h.bs=A++y::B):goT h A.length=if 0<=y.si then (if y.si+1=(phOf y.ps y.ad).wi then onH {h with bs:=A ++ {y with si:=y.si+1}::B} A.length (phOf y.ps y.ad).e else {h with bs:=A ++ {y with si:=y.si+1}::B}) else h:=by
 unfold goT;rw[hb,Aem];simp only[Af3]
theorem Aen {h:House} {A B:List Rb} {y:Rb} (hb:h.bs=A++y::B):∃C,(goT h A.length).bs=A++C:=by
 rw[Af4 hb];split
 ·split
  ·rw[Adp rfl]
   split
   ·exact⟨_,rfl⟩
   ·exact⟨_,rfl⟩
  ·exact⟨_,rfl⟩
 ·exact⟨_,hb⟩
theorem Aeo {α:Type} {l:List α} {k:Nat} (hk:k<l.length):∃A y B,l=A++y::B/\A.length=k:=by
 refine⟨l.take k,l[k],l.drop (k+1),?_,by rw[B7];omega⟩;rw[← D5 hk,List.take_append_drop]
theorem AdC {h:House} {A C:List Rb} (hb:h.bs=A++C):tickF h A.length={h with bs:=A.map tickB++C}:=by
 unfold tickF;rw[hb,List.take_left' rfl,List.drop_left' rfl]
theorem AlL {h:House} {k:Nat} (hk:k<h.bs.length) (hs:∀x∈h.bs.take (k+1),x.si<(phOf x.ps x.ad).wi):lateAt (tickF h (k+1)) k=tickF (goT h k) k:=by
 obtain⟨A,y,B,hb,rfl⟩:=Aeo hk;have hy:y.si<(phOf y.ps y.ad).wi:=hs y (by rw[hb,List.take_append];simp)
 have e1:tickF h (A.length+1)={h with bs:=(A.map tickB)++tickB y::B}:=by
  have h2:h.bs=(A++[y])++B:=by rw[hb];simp
  have:=AdC h2;rw[A9,List.length_singleton] at this;rw[this];simp
 have e2:A.length=(A.map tickB).length:=by simp
 obtain⟨C,hC⟩:=Aen hb;rw[e1,AdC hC];conv=>lhs;rw[e2]
 rw[Ahe rfl];rw[Af4 hb] at hC ⊢
 unfold tickB at *;by_cases h0:0<=y.si
 ·rw[if_pos h0] at hC ⊢
  simp only[if_pos h0];by_cases h1:y.si+1=(phOf y.ps y.ad).wi
  ·rw[if_pos h1] at hC ⊢
   rw[if_pos (by omega:(phOf y.ps y.ad).wi<=y.si+1)];rw[Adp rfl] at hC ⊢
   rw[Adp rfl];split
   ·rename_i h2
    rw[if_pos h2] at hC;have:=List.append_cancel_left hC;rw[← this]
   ·rename_i h2
    rw[if_neg h2] at hC;have:=List.append_cancel_left hC;rw[← this]
  ·rw[if_neg h1] at hC ⊢
   rw[if_neg (by omega:¬(phOf y.ps y.ad).wi<=y.si+1)];have:=List.append_cancel_left hC;rw[← this]
 ·rw[if_neg h0] at hC ⊢
  simp only[if_neg h0];rw[if_neg (by omega:¬(phOf y.ps y.ad).wi<=y.si)];rw[hb] at hC;have:=List.append_cancel_left hC;rw[← this]
theorem Af5:∀(k:Nat) {h:House},k<=h.bs.length->(∀x∈h.bs.take k,x.si<(phOf x.ps x.ad).wi)->goTo h k=lateTo (tickF h k) k
 | 0,h,_,_=>by simp[goTo,lateTo,tickF]
 | k+1,h,hk,hs=>by
  rw[goTo,lateTo,AlL (by omega) hs];obtain⟨A,y,B,hb,rfl⟩:=Aeo (by omega:k<h.bs.length);obtain⟨C,hC⟩:=Aen hb;refine Af5 A.length (by rw[hC,A9];omega) λx hx=>hs x ?_;rw[hC,List.take_left' rfl] at hx;rw[hb,List.take_append];exact List.mem_append_left _ (by rw[D3 (by omega)];exact hx)
theorem AlM {h:House} (hs:∀x∈h.bs,x.si<(phOf x.ps x.ad).wi):goTo {h with now:=h.now+1} h.bs.length=lateTo (tickH h) h.bs.length:=by
 rw[Af5 h.bs.length (h:={h with now:=h.now+1}) (A3 _) (λx hx=>hs x (List.mem_of_mem_take hx))];unfold tickF tickH;simp
theorem Aon {w:World} {base n c g:Nat} {xs:List Value} (h:w.ownsRow base 52 6 (.slice (some ⟨g,0,none⟩) n c) n xs) (hn:n<c) (cc:Nat) (ty:TypeId) :
  ∃w',(Builtin.clear_ #[34] ty #[.slice (some ⟨g,n*6,none⟩) 1 cc]).run Tryz.prog w=.ok (.tuple #[]) w'/\w'.ownsRow base 52 6 (.slice (some ⟨g,0,none⟩) n c) n xs/\w.grownBy w' (some g):=by
 have st:∀(W:World),W.ownsRow base 52 6 (.slice (some ⟨g,0,none⟩) n c) n xs->∀(j:Nat) (u:Value),u.oneCell'=true->j<6->(store ⟨g,n*6+j,none⟩ u).run Tryz.prog W=.ok () (W.setCell ⟨g,n*6+j,none⟩ u)/\(W.setCell ⟨g,n*6+j,none⟩ u).ownsRow base 52 6 (.slice (some ⟨g,0,none⟩) n c) n xs/\W.grownBy (W.setCell ⟨g,n*6+j,none⟩ u) (some g):=λW hW j u hu hj=>by
  obtain⟨⟨old,ho⟩,hf⟩:=AdN hW (n*6+j) (by omega);obtain⟨s1,s2⟩:=B3 hW (n*6+j) u;have hl:=hW.1;rw[List.set_eq_of_length_le (by omega)] at s1;refine⟨?_,s1,s2⟩;rw[run_store Tryz.prog W ⟨g,n*6+j,none⟩ _ _ hu];simp[ho,hf]
 obtain⟨r0,o0,g0⟩:=st _ h 0 (.string ⟨#[]⟩) rfl (by omega);obtain⟨r1,o1,g1⟩:=st _ o0 1 (.slice none 0 0) rfl (by omega);obtain⟨r2,o2,g2⟩:=st _ o1 2 (.slice none 0 0) rfl (by omega);obtain⟨r3,o3,g3⟩:=st _ o2 3 (.string ⟨#[]⟩) rfl (by omega);obtain⟨r4,o4,g4⟩:=st _ o3 4 (.int .i64 0) rfl (by omega);obtain⟨r5,o5,g5⟩:=st _ o4 5 (.int .i64 0) rfl (by omega);refine⟨_,?_,o5,E3 g0 (E3 g1 (E3 g2 (E3 g3 (E3 g4 (g5)))))⟩
 have hs:(storeCells ⟨g,n*6,none⟩ [.string ⟨#[]⟩,.slice none 0 0,.slice none 0 0,.string ⟨#[]⟩,.int .i64 0,.int .i64 0]).run Tryz.prog w=.ok () ((((((w.setCell ⟨g,n*6+0,none⟩ (.string ⟨#[]⟩)).setCell ⟨g,n*6+1,none⟩ (.slice none 0 0)).setCell ⟨g,n*6+2,none⟩ (.slice none 0 0)).setCell ⟨g,n*6+3,none⟩ (.string ⟨#[]⟩)).setCell ⟨g,n*6+4,none⟩ (.int .i64 0)).setCell ⟨g,n*6+5,none⟩ (.int .i64 0)):=by
  simp only[Nat.add_zero] at r0 r1 r2 r3 r4 r5 ⊢
  simp[storeCells,Addr.add,r0,r1,r2,r3,r4,r5,Result.andThen]
 simp[Builtin.clear_,run_underlying Tryz.underlying34,Builtin.zeroCells,Value.cells,Result.andThen];have hm:List.map (λi=>(([.string ⟨#[]⟩,.slice none 0 0,.slice none 0 0,.string ⟨#[]⟩,.int .i64 0,.int .i64 0]:List Value)[i % 6]?).getD default) (List.range 6)=[.string ⟨#[]⟩,.slice none 0 0,.slice none 0 0,.string ⟨#[]⟩,.int .i64 0,.int .i64 0]:=by simp[List.range,List.range.loop]
 rw[hm,hs];simp
theorem Ahf (ps:List Rv) (k g c base:Nat) (w:World) (hk:k<ps.length) (hn:ps.length<=2000) (hrow:w.ownsRow base 52 6 (.slice (some ⟨g,0,none⟩) ps.length c) ps.length (rowsF rowR ps)) (hone:∀u∈rowsF rowR ps,u.oneCell'=true) (ty:TypeId) :
  ∃W w4,(Builtin.append_ #[34,34] 34 #[.slice (some ⟨g,0,none⟩) k c,.slice (if c=k+1 then some (⟨g,0,none⟩:Addr) else some ⟨g,(k+1)*6,none⟩) (ps.length-(k+1)) (c-(k+1))]).run Tryz.prog w=.ok (.slice (some ⟨g,0,none⟩) (ps.length-1) c) W/\
   (Builtin.clear_ #[34] ty #[.slice (some ⟨g,(ps.length-1)*6,none⟩) 1 (c-(ps.length-1))]).run Tryz.prog W=.ok (.tuple #[]) w4/\w4.ownsRow base 52 6 (.slice (some ⟨g,0,none⟩) (ps.length-1) c) (ps.length-1) (rowsF rowR (ps.take k++ps.drop (k+1)))/\w.grownBy W (some g)/\w.grownBy w4 (some g)/\ps.length<=c/\c<=9223372036854775807:=by
 obtain⟨ii,hi,iz0,iz1,iz2⟩:=info_parts Ad0;obtain⟨hc,hcm⟩:=Y7 hrow
 obtain⟨cur,hcur,hcs⟩:∃cur,w.heap[g]?=some (.cells cur 52 (0,0))/\cur.size=c*6:=by
  rcases hrow.2 with⟨h0,_⟩|⟨g',cap,cur,h',h1,h2,h3,h4,h5,h6⟩
  ·simp at h0
  ·obtain⟨e1,-,rfl⟩:=Value.slice.inj h'
   obtain rfl:g=g':=by simpa using e1
   exact⟨cur,h2,h5⟩
 have hrow1:=AdM hrow (Nat.le_of_lt hk);rw[AeB G6 ps k (by omega)] at hrow1
 obtain⟨o2,ho2,hq2⟩:∃o2:Nat,(if c=k+1 then some (⟨g,0,none⟩:Addr) else some ⟨g,(k+1)*6,none⟩)=some ⟨g,o2,none⟩/\(ps.length-(k+1)≠0->o2=(k+1)*6):=by
  by_cases h7:c=k+1
  ·exact⟨0,by rw[if_pos h7],λh=>by omega⟩
  ·exact⟨(k+1)*6,by rw[if_neg h7],λ_=>rfl⟩
 have hld:(rowsF rowR (ps.drop (k+1))).length=(ps.length-(k+1))*6:=by rw[G5 G6,A8]
 have hsrc:∀(j:Nat) (u:Value),(rowsF rowR (ps.drop (k+1)))[j]?=some u->w.cell? ((⟨g,o2,none⟩:Addr).add j)=some u:=λj u hu=>by
  have hj:=(A2.1 hu).1;rw[hq2 (by omega)];refine O8 (by decide) G6 (λi a ha=>?_) j u hu;rw[List.getElem?_drop] at ha;have:=G8 G6 hrow ha;rw[Nat.add_mul] at this;exact this
 have hone2:∀u∈rowsF rowR (ps.drop (k+1)),u.oneCell'=true:=λu hu=>hone u (by
  rw[← List.take_append_drop (k+1) ps,K6];exact List.mem_append_right _ hu)
 have hrm:=run_append_room (P:=Tryz.prog) w 34 34 52 ii Tryz.underlying34 hi g k c cur hcur ⟨g,o2,none⟩ (ps.length-(k+1)) (c-(k+1)) (rowsF rowR (ps.drop (k+1))) (by rw[iz1];exact hld) hsrc hone2 (by omega) (by rw[iz1,hld,hcs];omega);obtain⟨v3,w3,hr3,hown3,hg3,-⟩:=run_append_own (P:=Tryz.prog) w base 34 34 52 ii _ 6 96 Tryz.underlying34 hi iz0 iz1 iz2 rfl (by decide) _ k _ hrow1 ⟨g,o2,none⟩ (ps.length-(k+1)) (c-(k+1)) (rowsF rowR (ps.drop (k+1))) hld hsrc hone2 (by unfold maxLen;omega) (by omega) (by have:=(hrow.lt g rfl);omega)
 obtain⟨rfl,rfl⟩:v3=_/\w3=_:=by
  rw[hrm] at hr3;injection hr3 with e1 e2
  exact⟨e1.symm,e2.symm⟩
 rw[← K6] at hown3;have hlen:k+(ps.length-(k+1))=ps.length-1:=by omega
 rw[hlen] at hown3 hrm;generalize w.setRow g _=W at *;obtain⟨w4,hr4,hown4,hg4⟩:=Aon hown3 (by omega) (c-(ps.length-1)) ty;rw[ho2];exact⟨W,w4,hrm,hr4,hown4,hg3,E3 hg3 hg4,by omega,by unfold maxLen at hcm;omega⟩
theorem Aih (ps:List Rv) (k g c base:Nat) (w:World) (hk:k<ps.length) (hn:ps.length<=2000) (hrow:w.ownsRow base 52 6 (.slice (some ⟨g,0,none⟩) ps.length c) ps.length (rowsF rowR ps)) (hone:∀u∈rowsF rowR ps,u.oneCell'=true) :
  Calls Tryz.prog 146 #[.slice (some ⟨g,0,none⟩) ps.length c,.int .i64 k,.int .i64 ((k:Int)+1)] w
   λe w'=>e=.returned (.slice (some ⟨g,0,none⟩) (ps.length-1) c)/\w'.ownsRow base 52 6 (.slice (some ⟨g,0,none⟩) (ps.length-1) c) (ps.length-1) (rowsF rowR (ps.take k++ps.drop (k+1)))/\w.grownBy w' (some g):=by
 obtain⟨W,w4,hr3,hr4,hown4,hG3,hG,hc,hcm⟩:=Ahf ps k g c base w.drew hk hn hrow hone 0;replace hG:w.grownBy w4 (some g):=E3 (U9 (E4 w _)) hG;go_enter Tryz.func146,Tryz.ntmps146
 go_wp2_with fail
 have hS1:Below 0 w w.drew:=(A4 _ _).drew;have hS2:Below 0 w W:=F1 hS1 (Nat.zero_le _) (b:=w.drew) hrow hG3 (Nat.zero_le _);have hpc:k<=c:=by omega
 have hp1:k+1<=ps.length:=hk;have hw2:(k:Int)+1<=(ps.length:Int):=by omega
 have hw3:0<=(k:Int)+1:=by omega
 have hw4:¬(ps.length:Int)<(k:Int)+1:=by omega
 refine F5 99 (λw'=>Below 0 w w') (by kernel_rfl) ?_;refine tkx 0 rfl hS1 ?_;refine tkx 1 rfl hS1 ?_;refine tkx 2 rfl hS1 ?_;refine tkx 3 rfl hS1 ?_;refine tkx 4 rfl hS1 ?_;refine tkx 5 rfl hS1 ?_;refine D8 (i:=6) (by kernel_rfl) rfl (λK hK=>?_);refine Aag rfl _ _ _ _ rfl _ _ _ _ rfl rfl hr3 ?_;refine hK.out _ _ (λ_=>hS2) ?_;clear hK K;refine D8 (i:=7) (by kernel_rfl) rfl (λK hK=>?_);go_simp
 refine hK.out _ _ (λ_=>hS2) ?_;clear hK K;refine F0 (by kernel_rfl) ?_ _;have hm1:ps.length-1<ps.length:=by omega
 have hm2:ps.length-1<=ps.length:=by omega
 have hm3:ps.length-(ps.length-1)=1:=by omega
 have hm4:¬c=ps.length-1:=by omega
 have hm5:((ps.length-1:Nat):Int)<=(ps.length:Int):=by omega
 go_wp2_with (at_builtin;refine Y8 _ rfl _ _ rfl _ _ _ rfl hr4 ?_)
 all_goals
  go_ret
  first
   | exact⟨rfl,hown4,hG⟩
   | (subst h;exact⟨rfl,hown4,hG⟩)
theorem Aoo {w:World} {base n c g:Nat} {xs:List Value} (h:w.ownsRow base 90 3 (.slice (some ⟨g,0,none⟩) n c) n xs) (hn:n<c) (cc:Nat) (ty:TypeId) :
  ∃w',(Builtin.clear_ #[35] ty #[.slice (some ⟨g,n*3,none⟩) 1 cc]).run Tryz.prog w=.ok (.tuple #[]) w'/\w'.ownsRow base 90 3 (.slice (some ⟨g,0,none⟩) n c) n xs/\w.grownBy w' (some g):=by
 have st:∀(W:World),W.ownsRow base 90 3 (.slice (some ⟨g,0,none⟩) n c) n xs->∀(j:Nat) (u:Value),u.oneCell'=true->j<3->(store ⟨g,n*3+j,none⟩ u).run Tryz.prog W=.ok () (W.setCell ⟨g,n*3+j,none⟩ u)/\(W.setCell ⟨g,n*3+j,none⟩ u).ownsRow base 90 3 (.slice (some ⟨g,0,none⟩) n c) n xs/\W.grownBy (W.setCell ⟨g,n*3+j,none⟩ u) (some g):=λW hW j u hu hj=>by
  obtain⟨⟨old,ho⟩,hf⟩:=AdN hW (n*3+j) (by omega);obtain⟨s1,s2⟩:=B3 hW (n*3+j) u;have hl:=hW.1;rw[List.set_eq_of_length_le (by omega)] at s1;refine⟨?_,s1,s2⟩;rw[run_store Tryz.prog W ⟨g,n*3+j,none⟩ _ _ hu];simp[ho,hf]
 obtain⟨r0,o0,g0⟩:=st _ h 0 (.string ⟨#[]⟩) rfl (by omega);obtain⟨r1,o1,g1⟩:=st _ o0 1 (.int .i64 0) rfl (by omega);obtain⟨r2,o2,g2⟩:=st _ o1 2 (.int .i64 0) rfl (by omega);refine⟨_,?_,o2,E3 g0 (E3 g1 (g2))⟩
 have hs:(storeCells ⟨g,n*3,none⟩ [.string ⟨#[]⟩,.int .i64 0,.int .i64 0]).run Tryz.prog w=.ok () (((w.setCell ⟨g,n*3+0,none⟩ (.string ⟨#[]⟩)).setCell ⟨g,n*3+1,none⟩ (.int .i64 0)).setCell ⟨g,n*3+2,none⟩ (.int .i64 0)):=by
  simp only[Nat.add_zero] at r0 r1 r2 ⊢
  simp[storeCells,Addr.add,r0,r1,r2,Result.andThen]
 simp[Builtin.clear_,run_underlying Tryz.underlying35,Builtin.zeroCells,Value.cells,Result.andThen];have hm:List.map (λi=>(([.string ⟨#[]⟩,.int .i64 0,.int .i64 0]:List Value)[i % 3]?).getD default) (List.range 3)=[.string ⟨#[]⟩,.int .i64 0,.int .i64 0]:=by simp[List.range,List.range.loop]
 rw[hm,hs];simp
theorem Ahg (ps:List Done) (k g c base:Nat) (w:World) (hk:k<ps.length) (hn:ps.length<=2000) (hrow:w.ownsRow base 90 3 (.slice (some ⟨g,0,none⟩) ps.length c) ps.length (rowsF Done.cells ps)) (hone:∀u∈rowsF Done.cells ps,u.oneCell'=true) (ty:TypeId) :
  ∃W w4,(Builtin.append_ #[35,35] 35 #[.slice (some ⟨g,0,none⟩) k c,.slice (if c=k+1 then some (⟨g,0,none⟩:Addr) else some ⟨g,(k+1)*3,none⟩) (ps.length-(k+1)) (c-(k+1))]).run Tryz.prog w=.ok (.slice (some ⟨g,0,none⟩) (ps.length-1) c) W/\
   (Builtin.clear_ #[35] ty #[.slice (some ⟨g,(ps.length-1)*3,none⟩) 1 (c-(ps.length-1))]).run Tryz.prog W=.ok (.tuple #[]) w4/\w4.ownsRow base 90 3 (.slice (some ⟨g,0,none⟩) (ps.length-1) c) (ps.length-1) (rowsF Done.cells (ps.take k++ps.drop (k+1)))/\w.grownBy W (some g)/\w.grownBy w4 (some g)/\ps.length<=c/\c<=9223372036854775807:=by
 obtain⟨ii,hi,iz0,iz1,iz2⟩:=info_parts AbS;obtain⟨hc,hcm⟩:=Y7 hrow
 obtain⟨cur,hcur,hcs⟩:∃cur,w.heap[g]?=some (.cells cur 90 (0,0))/\cur.size=c*3:=by
  rcases hrow.2 with⟨h0,_⟩|⟨g',cap,cur,h',h1,h2,h3,h4,h5,h6⟩
  ·simp at h0
  ·obtain⟨e1,-,rfl⟩:=Value.slice.inj h'
   obtain rfl:g=g':=by simpa using e1
   exact⟨cur,h2,h5⟩
 have hrow1:=AdM hrow (Nat.le_of_lt hk);rw[AeB G7 ps k (by omega)] at hrow1
 obtain⟨o2,ho2,hq2⟩:∃o2:Nat,(if c=k+1 then some (⟨g,0,none⟩:Addr) else some ⟨g,(k+1)*3,none⟩)=some ⟨g,o2,none⟩/\(ps.length-(k+1)≠0->o2=(k+1)*3):=by
  by_cases h7:c=k+1
  ·exact⟨0,by rw[if_pos h7],λh=>by omega⟩
  ·exact⟨(k+1)*3,by rw[if_neg h7],λ_=>rfl⟩
 have hld:(rowsF Done.cells (ps.drop (k+1))).length=(ps.length-(k+1))*3:=by rw[G5 G7,A8]
 have hsrc:∀(j:Nat) (u:Value),(rowsF Done.cells (ps.drop (k+1)))[j]?=some u->w.cell? ((⟨g,o2,none⟩:Addr).add j)=some u:=λj u hu=>by
  have hj:=(A2.1 hu).1;rw[hq2 (by omega)];refine O8 (by decide) G7 (λi a ha=>?_) j u hu;rw[List.getElem?_drop] at ha;have:=G8 G7 hrow ha;rw[Nat.add_mul] at this;exact this
 have hone2:∀u∈rowsF Done.cells (ps.drop (k+1)),u.oneCell'=true:=λu hu=>hone u (by
  rw[← List.take_append_drop (k+1) ps,K6];exact List.mem_append_right _ hu)
 have hrm:=run_append_room (P:=Tryz.prog) w 35 35 90 ii Tryz.underlying35 hi g k c cur hcur ⟨g,o2,none⟩ (ps.length-(k+1)) (c-(k+1)) (rowsF Done.cells (ps.drop (k+1))) (by rw[iz1];exact hld) hsrc hone2 (by omega) (by rw[iz1,hld,hcs];omega);obtain⟨v3,w3,hr3,hown3,hg3,-⟩:=run_append_own (P:=Tryz.prog) w base 35 35 90 ii _ 3 32 Tryz.underlying35 hi iz0 iz1 iz2 rfl (by decide) _ k _ hrow1 ⟨g,o2,none⟩ (ps.length-(k+1)) (c-(k+1)) (rowsF Done.cells (ps.drop (k+1))) hld hsrc hone2 (by unfold maxLen;omega) (by omega) (by have:=(hrow.lt g rfl);omega)
 obtain⟨rfl,rfl⟩:v3=_/\w3=_:=by
  rw[hrm] at hr3;injection hr3 with e1 e2
  exact⟨e1.symm,e2.symm⟩
 rw[← K6] at hown3;have hlen:k+(ps.length-(k+1))=ps.length-1:=by omega
 rw[hlen] at hown3 hrm;generalize w.setRow g _=W at *;obtain⟨w4,hr4,hown4,hg4⟩:=Aoo hown3 (by omega) (c-(ps.length-1)) ty;rw[ho2];exact⟨W,w4,hrm,hr4,hown4,hg3,E3 hg3 hg4,by omega,by unfold maxLen at hcm;omega⟩
theorem Aii (ps:List Done) (k g c base:Nat) (w:World) (hk:k<ps.length) (hn:ps.length<=2000) (hrow:w.ownsRow base 90 3 (.slice (some ⟨g,0,none⟩) ps.length c) ps.length (rowsF Done.cells ps)) (hone:∀u∈rowsF Done.cells ps,u.oneCell'=true) :
  Calls Tryz.prog 147 #[.slice (some ⟨g,0,none⟩) ps.length c,.int .i64 k,.int .i64 ((k:Int)+1)] w
   λe w'=>e=.returned (.slice (some ⟨g,0,none⟩) (ps.length-1) c)/\w'.ownsRow base 90 3 (.slice (some ⟨g,0,none⟩) (ps.length-1) c) (ps.length-1) (rowsF Done.cells (ps.take k++ps.drop (k+1)))/\w.grownBy w' (some g):=by
 obtain⟨W,w4,hr3,hr4,hown4,hG3,hG,hc,hcm⟩:=Ahg ps k g c base w.drew hk hn hrow hone 0;replace hG:w.grownBy w4 (some g):=E3 (U9 (E4 w _)) hG;go_enter Tryz.func147,Tryz.ntmps147
 go_wp2_with fail
 have hS1:Below 0 w w.drew:=(A4 _ _).drew;have hS2:Below 0 w W:=F1 hS1 (Nat.zero_le _) (b:=w.drew) hrow hG3 (Nat.zero_le _);have hpc:k<=c:=by omega
 have hp1:k+1<=ps.length:=hk;have hw2:(k:Int)+1<=(ps.length:Int):=by omega
 have hw3:0<=(k:Int)+1:=by omega
 have hw4:¬(ps.length:Int)<(k:Int)+1:=by omega
 refine F5 99 (λw'=>Below 0 w w') (by kernel_rfl) ?_;refine tkx 0 rfl hS1 ?_;refine tkx 1 rfl hS1 ?_;refine tkx 2 rfl hS1 ?_;refine tkx 3 rfl hS1 ?_;refine tkx 4 rfl hS1 ?_;refine tkx 5 rfl hS1 ?_;refine D8 (i:=6) (by kernel_rfl) rfl (λK hK=>?_);refine Aag rfl _ _ _ _ rfl _ _ _ _ rfl rfl hr3 ?_;refine hK.out _ _ (λ_=>hS2) ?_;clear hK K;refine D8 (i:=7) (by kernel_rfl) rfl (λK hK=>?_);go_simp
 refine hK.out _ _ (λ_=>hS2) ?_;clear hK K;refine F0 (by kernel_rfl) ?_ _;have hm1:ps.length-1<ps.length:=by omega
 have hm2:ps.length-1<=ps.length:=by omega
 have hm3:ps.length-(ps.length-1)=1:=by omega
 have hm4:¬c=ps.length-1:=by omega
 have hm5:((ps.length-1:Nat):Int)<=(ps.length:Int):=by omega
 go_wp2_with (at_builtin;refine Y8 _ rfl _ _ rfl _ _ _ rfl hr4 ?_)
 all_goals
  go_ret
  first
   | exact⟨rfl,hown4,hG⟩
   | (subst h;exact⟨rfl,hown4,hG⟩)
theorem Aij (b:Bk) (nm:ByteArray):askedC b (ofC b nm [])=leaveC b nm/\askedB b (ofC b nm []) ⟨b.things,b.bs.take (plN b nm)++b.bs.drop (plN b nm+1)⟩=leaveB b nm:=by
 cases hb:bookB b
 ·obtain⟨h1,h2⟩:=Ach (nm:=nm) hb
  exact⟨by rw[h1];simp[askedC,hb],by rw[h2];simp[askedB,hb]⟩
 ·cases hm:memS (nms b.bs) nm
  ·obtain⟨h1,h2⟩:=AaK hb hm
   exact⟨by rw[h1];simp[askedC,hb,ofC,hm],by rw[h2];simp[askedB,hb,ofC,hm]⟩
  ·obtain⟨h1,h2⟩:=Abz hb hm
   exact⟨by rw[h1];simp[askedC,hb,ofC,hm,Agq],by rw[h2];simp[askedB,hb,ofC,hm,Agq]⟩
theorem Akb (b:Bk) (v:Value) (nm:ByteArray) (w:World) (h:BkV w v b) (hg:ErrT w) :
  Calls Tryz.prog 145 #[v,.string nm] w λe w'=>(∃u,e=.returned (.tuple #[u,.int .i64 (leaveC b nm)])/\BkF w' w.heap.size u (leaveB b nm))/\Below w.heap.size w w':=by
 have hA:∀W,Below w.heap.size w W->Calls Tryz.prog 140 #[v,.iface 236 (.agg #[.string nm])] W λe w'=>(∃u,e=.returned (.tuple #[u,.int .i64 (leaveC b nm)])/\BkF w' W.heap.size u (leaveB b nm))/\Below W.heap.size W w':=λW hW=>by
  refine Acw b v nm _ _ (leaveC b nm) (leaveB b nm) W (h.up hW) (hg.up hW) λX hX=>?_;obtain⟨e1,e2⟩:=Aij b nm;rw[← e1,← e2]
  exact AeV b v nm _ _ 275 (ofC b nm []) _ X ((h.up hW).up hX) (λn w=>Ai8 n _ w) (λn w=>AnA n _ w) ru_V
   (λhok Y hY=>Agr b v nm Y (((h.up hW).up hX).up hY) hok)
   (λhok hc Y hY=>AfG b v nm Y (((h.up hW).up hX).up hY) hok (AbU hc))
 obtain⟨a1,c1,a2,c2,rfl,-,-⟩:=h.parts;have HA:Hid (∀W,Below w.heap.size w W->Calls Tryz.prog 140 #[.agg #[.slice a1 b.things.length c1,.slice a2 b.bs.length c2],.iface 236 (.agg #[.string nm])] W λe w'=>(∃u,e=.returned (.tuple #[u,.int .i64 (leaveC b nm)])/\BkF w' W.heap.size u (leaveB b nm))/\Below W.heap.size W w'):=hA;clear hA h hg;obtain⟨W1,hW1,kA,kR,hB1,hs1⟩:=L1 w [.slice a1 (b).things.length c1,.slice a2 (b).bs.length c2] 33 [.slice none 0 0,.slice none 0 0] 33;go_enter Tryz.func145,Tryz.ntmps145
 go_upto_region 1 with fail
 try rw[hW1]
 clear hW1;obtain⟨e0,e1⟩:=kA.c2';go_wp2_with fail
 refine (HA.out _ hB1).mono ?_;rintro e w2 ⟨⟨u,rfl,hu⟩,hb2⟩;have kR2:=kR.up hb2 (by omega);have hB2:=D6 hB1 hb2;obtain⟨i1,j1,i2,j2,rfl⟩:=hu.shape;clear e0 e1 kA kR hB1 hb2 HA;obtain⟨⟨y0,y1⟩,q0,q1⟩:=kR2.c2;go_wp2_with fail
 refine J3 Tryz.results145 Tryz.underlying33 rfl J0 kR2 rfl rfl ?_;exact⟨⟨_,rfl,((hu.set (by omega)).set (by omega)).low (by omega)⟩,F9 hB2 (Nat.le_succ _) _ _⟩
theorem HP.share {w:World} {base:Nat} {h:House} {tv bv xv dv tu bu:Value} {b':Bk} (H:HP w base h tv bv xv dv) (hb:BkF w base (.agg #[tu,bu]) b') (hz:Szb b'):HP w base {h with sh:=b'} tu bu xv dv:=⟨hb,hz,H.x,H.d⟩
theorem HP.out {w w':World} {base k g n c:Nat} {h:House} {tv bv xv' dv:Value} {ps:List Rv} (H:HP w base h tv bv (.slice (some ⟨g,0,none⟩) n c) dv) (hp:RbsP w base (.slice (some ⟨g,0,none⟩) n c) ps) (hm:ps.map (·.1)=h.bs) (hr:w'.ownsRow base 52 6 xv' (ps.length-1) (rowsF rowR (ps.take k++ps.drop (k+1)))) (hk:k<ps.length) (hg:w.grownBy w' (some g)):HP w' base {h with bs:=h.bs.take k++h.bs.drop (k+1)} tv bv xv' dv:=by
 have hg':w.grownBy w' (Value.slice (some ⟨g,0,none⟩) n c).ownBlock:=hg;have hl:(ps.take k++ps.drop (k+1)).length=ps.length-1:=by rw[A9,B7,A8];omega
 have hsub:(ps.take k++ps.drop (k+1)).Sublist ps:=by
  conv=>rhs;rw[← List.take_append_drop k ps]
  exact (List.Sublist.refl _).append (by rw[← List.drop_drop];exact List.drop_sublist _ _)
 refine⟨H.k.step hp.1.1 (by decide) (by decide) hg',H.z,⟨ps.take k++ps.drop (k+1),⟨⟨by rw[hl];exact hr,λp hq=>(hp.1.2 p (hsub.subset hq)).step hp.1.1 (by decide) (by decide) hg'⟩,hp.2.1.sublist (hsub.map _),hp.2.2.sublist (hsub.map _)⟩,?_⟩,⟨E2 H.d.1 hg' (E5 H.d.1 hp.1.1 (by decide)),H.d.2⟩⟩;show (ps.take k++ps.drop (k+1)).map (·.1)=h.bs.take k++h.bs.drop (k+1)
 rw[List.map_append,List.map_take,List.map_drop,hm]
theorem HP.dones {w w':World} {base:Nat} {h:House} {tv bv xv dv dv':Value} {ds:List Done} (H:HP w base h tv bv xv dv) (hg:w.grownBy w' dv.ownBlock) (hr:w'.ownsRow base 90 3 dv' ds.length (rowsF Done.cells ds)) (hz:∀d∈ds,d.nm.size<=maxLen):HP w' base {h with ds:=ds} tv bv xv dv' :=
 ⟨H.k.step H.d.1 (by decide) (by decide) hg,H.z,H.x.imp λ_ x=>⟨x.1.step H.d.1 (by decide) (by decide) (by decide) hg,x.2⟩,⟨hr,hz⟩⟩
theorem Akc (h:House) (y k:Nat) (x:Rb) (en:Int) (w0 w:World) (hB0:Below w0.heap.size w0 w) (hT:ErrT w0) (H:PH w w0.heap.size y h) (hx:h.bs[k]?=some x) (hnb:h.bs.length<=1000) (hnd:h.ds.length<=1000) :
  Calls Tryz.prog 108 #[.pointer (some ⟨y,0,none⟩),.int .i64 k,.int .i64 en] w λe w'=>e=.returned (.tuple #[])/\PH w' w0.heap.size y {h with sh:=leaveB h.sh x.nm,bs:=h.bs.take k++h.bs.drop (k+1),ds:=cut20 (h.ds++[⟨x.nm,en,h.now⟩])}/\Below w0.heap.size w0 w':=by
 obtain⟨tv,bv,xv,dv,kA,HH⟩:=H;obtain⟨a1,c1,a2,c2,a3,c3,a4,c4,rfl,rfl,rfl,rfl⟩:=HH.v.shapes;have hk:k<h.bs.length:=(A2.1 hx).1;obtain⟨ps,hP,hm⟩:=HH.x;have hpl:ps.length=h.bs.length:=by rw[← hm,B4]
 obtain⟨g,cap,eg⟩:=F4 hP.1.1 (by omega);simp only[Value.slice.injEq] at eg;obtain⟨rfl,-,rfl⟩:=eg;obtain⟨⟨x',ru,su⟩,hpk⟩:∃p,ps[k]?=some p:=⟨ps[k]'(by omega),A0 _⟩
 obtain rfl:x'=x:=by
  have h1:h.bs[k]?=some x':=by rw[← hm,B0,hpk];rfl
  rw[h1] at hx;exact A5 hx
 have Hzn:Hid (x'.nm.size<=maxLen):=(hP.1.2 _ (A6 hpk)).zn;have hrow:=hP.1.1;rw[hpl] at hrow;have q0:World.cell? w ⟨g,k*6,none⟩=some (.string x'.nm):=G8 G6 hrow hpk 0 _ rfl;have hglt:g<w.heap.size:=(hrow.lt g rfl).2;have hylt:y<w.heap.size:=(kA.lt y rfl).2;have HltD:Hid (∀g,(Value.slice a4 h.ds.length c4).ownBlock=some g->g<w.heap.size):=λg e=>(HH.d.1.lt g e).2;obtain⟨e0,-,-,-,e4,-⟩:=(D9 kA).c6;have hb0:=hB0.size;clear hpk hrow hP hm hpl hx;go_enter Tryz.func108,Tryz.ntmps108
 go_upto_region 0 with fail
 go_cut [6] (λv6 wc=>∃D,v6=.pointer (some ⟨D,0,none⟩)/\w.heap.size<=D/\Below w.heap.size w wc/\CB wc D [.string x'.nm,.int .i64 en,.int .i64 h.now])
 case first =>
  have hS1:World.cell? w.drew ⟨y,0,none⟩=some (.int .i64 h.now)/\World.cell? w.drew ⟨y,4,none⟩=some (.slice (some ⟨g,0,none⟩) h.bs.length c3)/\World.cell? w.drew ⟨g,k*6,none⟩=some (.string x'.nm):=⟨e0,e4,q0⟩;refine F5 99 (λw'=>World.cell? w' ⟨y,0,none⟩=some (.int .i64 h.now)/\World.cell? w' ⟨y,4,none⟩=some (.slice (some ⟨g,0,none⟩) h.bs.length c3)/\World.cell? w' ⟨g,k*6,none⟩=some (.string x'.nm)) (by kernel_rfl) ?_;have hbd:Below w.heap.size w w.drew:=(A4 _ _).drew;generalize w.drew=X1 at hS1 hbd ⊢
  refine tkx 0 rfl hS1 ?_;refine tkx 1 rfl hS1 ?_;refine tkx 2 rfl hS1 ?_;refine tkx 3 rfl hS1 ?_;refine tkx 4 rfl hS1 ?_;refine tkx 5 rfl hS1 ?_;refine tkx 6 rfl hS1 ?_;refine tkx 7 rfl hS1 ?_;refine tkx 8 rfl hS1 ?_;refine tkx 9 rfl hS1 ?_;refine tkx 10 rfl hS1 ?_;refine tkx 11 rfl hS1 ?_;refine tkx 12 rfl hS1 ?_;refine tkx 13 rfl hS1 ?_;have hbA:Below X1.heap.size X1 (X1.alloc (.cells #[.string ⟨#[]⟩,.int .i64 0,.int .i64 0] 90)):=(A4 _ _).alloc (A3 _) _;have kZ:CB (X1.alloc (.cells #[.string ⟨#[]⟩,.int .i64 0,.int .i64 0] 90)) X1.heap.size [.string ⟨#[]⟩,.int .i64 0,.int .i64 0]:=E7 X1 _ _;have hzA:=hbd.size;have hy1:y<X1.heap.size:=by omega
  have hg1:g<X1.heap.size:=by omega
  have hS2:World.cell? (X1.alloc (.cells #[.string ⟨#[]⟩,.int .i64 0,.int .i64 0] 90)) ⟨y,0,none⟩=some (.int .i64 h.now)/\World.cell? (X1.alloc (.cells #[.string ⟨#[]⟩,.int .i64 0,.int .i64 0] 90)) ⟨y,4,none⟩=some (.slice (some ⟨g,0,none⟩) h.bs.length c3)/\World.cell? (X1.alloc (.cells #[.string ⟨#[]⟩,.int .i64 0,.int .i64 0] 90)) ⟨g,k*6,none⟩=some (.string x'.nm):=⟨(hbA.cell (p:=⟨y,0,none⟩) hy1).trans hS1.1,(hbA.cell (p:=⟨y,4,none⟩) hy1).trans hS1.2.1,(hbA.cell (p:=⟨g,k*6,none⟩) hg1).trans hS1.2.2⟩;refine D8 (i:=14) (by kernel_rfl) rfl (λK hK=>?_);go_simp
  refine hK.out _ _ (λ_=>hS2) ?_;clear hK K;have hB2:=D6 hbd hbA;generalize hD:X1.heap.size=D at *;generalize X1.alloc (.cells #[.string ⟨#[]⟩,.int .i64 0,.int .i64 0] 90)=X2 at *;have hg3:X2.grownBy (((X2.setCell ⟨D,0,none⟩ (.string x'.nm)).setCell ⟨D,1,none⟩ (.int .i64 en)).setCell ⟨D,2,none⟩ (.int .i64 h.now)) (some D):=E0 (rb:=D) (E0 (rb:=D) (E0 (rb:=D) (E4 _ _) _) _) _;have kD:=kZ.copy3 (.string x'.nm) (.int .i64 en) (.int .i64 h.now);have hB3:Below w.heap.size w (((X2.setCell ⟨D,0,none⟩ (.string x'.nm)).setCell ⟨D,1,none⟩ (.int .i64 en)).setCell ⟨D,2,none⟩ (.int .i64 h.now)):=((hB2.setCell (by show _<=D;omega) _).setCell (by show _<=D;omega) _).setCell (by show _<=D;omega) _;have hS3:=(⟨hg3.cell hS2.1 (by simp;omega),hg3.cell hS2.2.1 (by simp;omega),hg3.cell hS2.2.2 (by simp;omega)⟩:_/\_/\_);obtain⟨⟨z0,z1,z2⟩,f0,f1,f2⟩:=kZ.c3;refine D8 (i:=15) (by kernel_rfl) rfl (λK hK=>?_);go_simp
  refine hK.out _ _ (λ_=>hS3) ?_;clear hK K;refine F0 (by kernel_rfl) ?_ _;clear hS1 hS2 hS3 z0 z1 z2 f0 f1 f2 kZ hg3 hbA;go_wp2_with fail
  go_meet
  exact⟨D,rfl,by omega,hB3,kD⟩
 case rest =>
 obtain⟨D,rfl,hDz,hBc,kD⟩:=hcut;have HH1:=HH.up hBc;have kA1:=E1 kA hBc;have hB1:=D6 hB0 hBc;have hDz1:=kD.2.2;obtain⟨W1,rfl⟩:∃W1,W1=wc:=⟨_,rfl⟩;clear HH kA hBc e0 e4 q0;have Hz:Hid (Szb (leaveB h.sh x'.nm)):=Al3 HH1.z;go_upto_region 1 with fail
 go_cut [33] (λ_ wc=>∃tu bu,wc.ownsRow w0.heap.size 37 6 (.slice (some ⟨y,0,none⟩) 1 1) 1 [.int .i64 h.now,.int .i64 h.last,tu,bu,(.slice (some ⟨g,0,none⟩) h.bs.length c3),(.slice a4 h.ds.length c4)]/\HP wc w0.heap.size {h with sh:=leaveB h.sh x'.nm} tu bu (.slice (some ⟨g,0,none⟩) h.bs.length c3) (.slice a4 h.ds.length c4)/\Below w0.heap.size w0 wc/\CB wc D [.string x'.nm,.int .i64 en,.int .i64 h.now])
 case first =>
  have hbd:Below W1.heap.size W1 W1.drew:=(A4 _ _).drew;have HH2:=HH1.up hbd;have kA2:=E1 kA1 hbd;have hB2:=D6 hB1 hbd;have kD2:=kD.up hbd hDz1;have hT2:=hT.up hB2;have hS1:World.cell? W1.drew ⟨D,0,none⟩=some (.string x'.nm):=kD2.c3.1.1;refine F5 99 (λw'=>World.cell? w' ⟨D,0,none⟩=some (.string x'.nm)) (by kernel_rfl) ?_;generalize W1.drew=X1 at HH2 kA2 hB2 kD2 hT2 hS1 ⊢
  clear HH1 kA1 hB1 kD hbd;obtain⟨-,-,e2,e3,-,-⟩:=(D9 kA2).c6;refine tkx 0 rfl hS1 ?_;refine tkx 1 rfl hS1 ?_;refine tkx 2 rfl hS1 ?_;refine tkx 3 rfl hS1 ?_;refine tkx 5 rfl hS1 ?_;refine tkx 6 rfl hS1 ?_;refine D8 (i:=4) (by kernel_rfl) rfl (λK hK=>?_);go_simp
  refine hK.out _ _ (λ_=>hS1) ?_;clear hK K;refine D8 (i:=7) (by kernel_rfl) rfl (λK hK=>?_);go_simp
  go_wp2_with (go_at_call 145;refine (Akb h.sh _ x'.nm X1 (HH2.k.bk HH2.z) hT2).mono ?_;rintro e X2 ⟨⟨u,rfl,hbk⟩,hb2⟩)
  obtain⟨t1,d1,t2,d2,rfl⟩:=hbk.shape;have HH3:=HH2.up hb2;have kA3:=E1 kA2 hb2;have hB3:=D6 hB2 hb2;have kD3:=kD2.up hb2 kD2.2.2;have hS3:World.cell? X2 ⟨D,0,none⟩=some (.string x'.nm):=kD3.c3.1.1;have hbk3:=hbk.low hB2.size;clear e2 e3 HH2 kA2 hB2 kD2 hT2 hbk hb2 hS1;refine hK.out _ _ (λ_=>hS3) ?_;clear hK K;refine tkx 8 rfl hS3 ?_;refine tkx 9 rfl hS3 ?_;refine tkx 10 rfl hS3 ?_;refine tkx 11 rfl hS3 ?_;refine tkx 12 rfl hS3 ?_;generalize leaveB h.sh x'.nm=b' at *;obtain⟨-,-,e2,e3,-,-⟩:=(D9 kA3).c6;obtain⟨-,-,f2,f3,-,-⟩:=(D9 kA3).f6;have b1:=J6 (j:=2) kA3 (.slice t1 b'.things.length d1);have b2:=J6 (j:=3) b1.1 (.slice t2 b'.bs.length d2);have hg2:X2.grownBy ((X2.setCell ⟨y,2,none⟩ (.slice t1 b'.things.length d1)).setCell ⟨y,3,none⟩ (.slice t2 b'.bs.length d2)) (Value.slice (some ⟨y,0,none⟩) 1 1).ownBlock:=E3 b1.2 b2.2;have HH4:=(HH3.box kA3 hg2).share (hbk3.step kA3 (by decide) (by decide) hg2) Hz.out;have hB4:=F1 hB3 hB3.size kA3 hg2 (A3 _);have kD4:=kD3.kept hg2 (by simp[Value.ownBlock];omega);have kA4:=b2.1;have hS4:=kD4.c3.1.1;clear b1 b2 hg2 HH3 hbk3 hB3 kD3;refine D8 (i:=13) (by kernel_rfl) rfl (λK hK=>?_);go_simp
  refine hK.out _ _ (λ_=>hS4) ?_;clear hK K;refine F0 (by kernel_rfl) ?_ _;clear e2 e3 f2 f3 kA3 hS3 hS4;go_wp2_with fail
  go_meet
  exact⟨_,_,kA4,HH4,hB4,kD4⟩
 case rest =>
 obtain⟨tu,bu,kA2,HH2,hB2,kD2⟩:=hcut;obtain⟨W2,rfl⟩:∃W2,W2=wc:=⟨_,rfl⟩;clear HH1 kA1 hB1 kD Hz;have hDz2:=kD2.2.2;obtain⟨ps,hP,hm⟩:=HH2.x;have hm':ps.map (·.1)=h.bs:=hm;have hpl:ps.length=h.bs.length:=by rw[← hm',B4]
 have hrow:W2.ownsRow w0.heap.size 52 6 (.slice (some ⟨g,0,none⟩) ps.length c3) ps.length (rowsF rowR ps):=by
  have:=hP.1.1;rw[← hpl] at this;exact this
 have hc:=Aih ps k g c3 _ W2 (by omega) (by omega) hrow (AaD ps λp hp=>Ac6 (hP.1.2 p hp));rw[hpl] at hc;obtain⟨-,-,-,-,e4,-⟩:=(D9 kA2).c6;go_upto_region 3 with (go_at_call 146;refine hc.mono ?_;rintro e w3 ⟨rfl,hrow3,hg3⟩;have kA3:=E2 kA2 (show W2.grownBy w3 (Value.slice (some ⟨g,0,none⟩) h.bs.length c3).ownBlock from hg3) (E5 kA2 hP.1.1 (by decide));clear e4;obtain⟨-,-,-,-,e4,-⟩:=(D9 kA3).c6;obtain⟨-,-,-,-,f4,-⟩:=(D9 kA3).f6)
 rw[← hpl] at hrow3;have HH3:=HH2.out hP hm' hrow3 (by omega) hg3;rw[hpl] at HH3;have hB3:=F1 hB2 hB2.size hP.1.1 (show W2.grownBy w3 (Value.slice (some ⟨g,0,none⟩) h.bs.length c3).ownBlock from hg3) (A3 _);have kD3:=kD2.kept hg3 (by simp;omega);have b1:=J6 (j:=4) kA3 (.slice (some ⟨g,0,none⟩) (h.bs.length-1) c3);have HH4:=HH3.box kA3 b1.2;have hB4:=F1 hB3 hB3.size kA3 b1.2 (A3 _);have kD4:=kD3.kept b1.2 (by simp[Value.ownBlock];omega);have kA4:=b1.1;clear e4 f4 b1 HH3 hB3 kD3 kA3 hrow3 hg3 hc hrow hP hm hm' hpl HH2 kA2 hB2 kD2;generalize w3.setCell ⟨y,4,none⟩ (.slice (some ⟨g,0,none⟩) (h.bs.length-1) c3)=W4 at *;have hDz4:=kD4.2.2;obtain⟨idn,hidn,n0,n1,n2⟩:=info_parts AbS;go_cut [54] (λ_ wc=>∃(g7 c7:Nat),wc.ownsRow w0.heap.size 37 6 (.slice (some ⟨y,0,none⟩) 1 1) 1 [.int .i64 h.now,.int .i64 h.last,tu,bu,(.slice (some ⟨g,0,none⟩) (h.bs.length-1) c3),(.slice (some ⟨g7,0,none⟩) (h.ds.length+1) c7)]/\HP wc w0.heap.size {h with sh:=leaveB h.sh x'.nm,bs:=h.bs.take k++h.bs.drop (k+1),ds:=h.ds++[⟨x'.nm,en,h.now⟩]} tu bu (.slice (some ⟨g,0,none⟩) (h.bs.length-1) c3) (.slice (some ⟨g7,0,none⟩) (h.ds.length+1) c7)/\Below w0.heap.size w0 wc)
 case first =>
  have hbd:Below W4.heap.size W4 W4.drew:=(A4 _ _).drew;have HH5:=HH4.up hbd;have kA5:=E1 kA4 hbd;have hB5:=D6 hB4 hbd;have kD5:=kD4.up hbd hDz4;have hS5:World.cell? W4.drew ⟨y,5,none⟩=some (.slice a4 h.ds.length c4)/\World.cell? W4.drew ⟨D,0,none⟩=some (.string x'.nm)/\World.cell? W4.drew ⟨D,1,none⟩=some (.int .i64 en)/\World.cell? W4.drew ⟨D,2,none⟩=some (.int .i64 h.now):=⟨(D9 kA5).c6.2.2.2.2.2,kD5.c3.1.1,kD5.c3.1.2.1,kD5.c3.1.2.2⟩;refine F5 10 (λw'=>World.cell? w' ⟨y,5,none⟩=some (.slice a4 h.ds.length c4)/\World.cell? w' ⟨D,0,none⟩=some (.string x'.nm)/\World.cell? w' ⟨D,1,none⟩=some (.int .i64 en)/\World.cell? w' ⟨D,2,none⟩=some (.int .i64 h.now)) (by kernel_rfl) ?_;generalize W4.drew=X1 at HH5 kA5 hB5 kD5 hS5 ⊢
  clear HH4 kA4 hB4 kD4 hbd;refine tkx 0 rfl hS5 ?_;refine tkx 1 rfl hS5 ?_;refine tkx 2 rfl hS5 ?_;refine tkx 3 rfl hS5 ?_;refine tkx 4 rfl hS5 ?_;refine tkx 5 rfl hS5 ?_;have hbN:Below X1.heap.size X1 (X1.alloc (.cells #[.string x'.nm,.int .i64 en,.int .i64 h.now] 90)):=(A4 _ _).alloc (A3 _) _
  have hnews:∀(j:Nat) (u:Value),(Done.cells ⟨x'.nm,en,h.now⟩)[j]?=some u->(X1.alloc (.cells #[.string x'.nm,.int .i64 en,.int .i64 h.now] 90)).cell? ((⟨X1.heap.size,0,none⟩:Addr).add j)=some u:=λj u hj=>by
   have:=(E7 X1 [.string x'.nm,.int .i64 en,.int .i64 h.now] 90).1 j u hj;rw[Addr.add_mid];exact this
  have HH6:=HH5.up hbN;have kA6:=E1 kA5 hbN;have hB6:=D6 hB5 hbN;have kD6:=kD5.up hbN kD5.2.2;have hS6:World.cell? (X1.alloc (.cells #[.string x'.nm,.int .i64 en,.int .i64 h.now] 90)) ⟨y,5,none⟩=some (.slice a4 h.ds.length c4)/\World.cell? (X1.alloc (.cells #[.string x'.nm,.int .i64 en,.int .i64 h.now] 90)) ⟨D,0,none⟩=some (.string x'.nm)/\World.cell? (X1.alloc (.cells #[.string x'.nm,.int .i64 en,.int .i64 h.now] 90)) ⟨D,1,none⟩=some (.int .i64 en)/\World.cell? (X1.alloc (.cells #[.string x'.nm,.int .i64 en,.int .i64 h.now] 90)) ⟨D,2,none⟩=some (.int .i64 h.now):=⟨(D9 kA6).c6.2.2.2.2.2,kD6.c3.1.1,kD6.c3.1.2.1,kD6.c3.1.2.2⟩;refine D8 (i:=6) (by kernel_rfl) rfl (λK hK=>?_);go_simp
  refine hK.out _ _ (λ_=>hS6) ?_;clear hK K;generalize X1.alloc (.cells #[.string x'.nm,.int .i64 en,.int .i64 h.now] 90)=X2 at *;clear HH5 kA5 hB5 kD5 hS5 hbN;have hd6:X2.ownsRow w0.heap.size 90 3 (.slice a4 h.ds.length c4) h.ds.length (rowsF Done.cells h.ds):=HH6.d.1;refine D8 (i:=7) (by kernel_rfl) rfl (λK hK=>?_);refine F6 rfl _ _ 35 rfl w0.heap.size 90 idn _ 3 32 Tryz.underlying35 hidn n0 n1 n2 rfl (by decide) (.slice a4 h.ds.length c4) _ _ rfl hd6 ⟨X1.heap.size,0,none⟩ 1 1 (Done.cells ⟨x'.nm,en,h.now⟩) rfl rfl hnews (by intro u hu;simp only[Done.cells,List.mem_cons,List.not_mem_nil,or_false] at hu;rcases hu with rfl|rfl|rfl<;>rfl) (by unfold maxLen;omega) (by omega) hB6.size ?_;intro v7 X3 hown7 hgr7;have kA7:=E2 kA6 hgr7 (E5 kA6 hd6 (by decide));have kD7:=kD6.kept hgr7 (λe=>by have:=HltD.out D e.symm;omega)
  have hr7:X3.ownsRow w0.heap.size 90 3 v7 (h.ds++[(⟨x'.nm,en,h.now⟩:Done)]).length (rowsF Done.cells (h.ds++[⟨x'.nm,en,h.now⟩])):=by
   rw[K6,A9];simpa [rowsF] using hown7
  have HH7:=HH6.dones hgr7 hr7 (λd hd=>by
   rcases D1.1 hd with h1|h1
   ·exact HH6.d.2 d h1
   ·obtain rfl:=D2.1 h1
    exact Hzn.out)
  have hB7:=F1 hB6 hB6.size hd6 hgr7 (A3 _);have hS7:World.cell? X3 ⟨y,5,none⟩=some (.slice a4 h.ds.length c4)/\World.cell? X3 ⟨D,0,none⟩=some (.string x'.nm)/\World.cell? X3 ⟨D,1,none⟩=some (.int .i64 en)/\World.cell? X3 ⟨D,2,none⟩=some (.int .i64 h.now):=⟨(D9 kA7).c6.2.2.2.2.2,kD7.c3.1.1,kD7.c3.1.2.1,kD7.c3.1.2.2⟩;obtain⟨g7,c7,rfl⟩:=F4 hown7 (by omega);clear HH6 kA6 hB6 kD6 hS6 hnews hd6 hown7 hgr7 hr7;refine hK.out _ _ (λ_=>hS7) ?_;clear hK K;refine D8 (i:=8) (by kernel_rfl) rfl (λK hK=>?_);go_simp
  refine hK.out _ _ (λ_=>hS7) ?_;clear hK K;refine tkx 9 rfl hS7 ?_;have b1:=J6 (j:=5) kA7 (.slice (some ⟨g7,0,none⟩) (h.ds.length+1) c7);have HH8:=HH7.box kA7 b1.2;have hB8:=F1 hB7 hB7.size kA7 b1.2 (A3 _);have kA8:=b1.1;obtain⟨-,-,-,-,-,e5⟩:=(D9 kA7).c6;obtain⟨-,-,-,-,-,f5⟩:=(D9 kA7).f6;clear b1 HH7 hB7 kD7;refine D8 (i:=10) (by kernel_rfl) rfl (λK hK=>?_);go_simp
  refine hK.out _ _ (λh=>absurd rfl h) ?_;clear hK K;refine F0 (by kernel_rfl) ?_ _;clear e5 f5 kA7 hS7;go_wp2_with fail
  go_meet
  exact⟨g7,c7,kA8,HH8,hB8⟩
 case rest =>
 obtain⟨g7,c7,kA5,HH5,hB5⟩:=hcut;obtain⟨W5,rfl⟩:∃W5,W5=wc:=⟨_,rfl⟩;clear HH4 kA4 hB4 kD4;obtain⟨-,-,-,-,-,e5⟩:=(D9 kA5).c6;by_cases h20:20<h.ds.length+1
 ·obtain⟨dl,hdl⟩:∃dl:List Done,h.ds++[⟨x'.nm,en,h.now⟩]=dl:=⟨_,rfl⟩
  have hl:dl.length=h.ds.length+1:=by rw[← hdl];simp
  have hC:Hid (cut20 (h.ds++[(⟨x'.nm,en,h.now⟩:Done)])=dl.drop 1):=by show _=_;rw[hdl];unfold cut20;rw[if_pos (by omega)]
  have Hzd:Hid (∀d∈dl.drop 1,d.nm.size<=maxLen):=λd hd=>HH5.d.2 d (by show d∈h.ds++[_];rw[hdl];exact List.mem_of_mem_drop hd)
  have hd5:W5.ownsRow w0.heap.size 90 3 (.slice (some ⟨g7,0,none⟩) dl.length c7) dl.length (rowsF Done.cells dl):=by
   have h1:W5.ownsRow w0.heap.size 90 3 (.slice (some ⟨g7,0,none⟩) (h.ds.length+1) c7) (h.ds++[(⟨x'.nm,en,h.now⟩:Done)]).length (rowsF Done.cells (h.ds++[⟨x'.nm,en,h.now⟩])):=HH5.d.1;rw[hdl,← hl] at h1;exact h1
  have hc:=Aii dl 0 g7 c7 _ W5 (by omega) (by omega) hd5 (Aa2 _);rw[hl] at hc;have hc':Calls Tryz.prog 147 #[.slice (some ⟨g7,0,none⟩) (h.ds.length+1) c7,.int .i64 0,.int .i64 1] W5 λe w'=>e=.returned (.slice (some ⟨g7,0,none⟩) h.ds.length c7)/\w'.ownsRow w0.heap.size 90 3 (.slice (some ⟨g7,0,none⟩) h.ds.length c7) h.ds.length (rowsF Done.cells (dl.drop 1))/\W5.grownBy w' (some g7):=hc;have h20':(20:Int)<(h.ds.length:Int)+1:=by omega
  clear hdl hc;go_wp2_with (go_at_call 147;refine hc'.mono ?_;rintro e w6 ⟨rfl,hrow6,hg6⟩;have kA6:=E2 kA5 (show W5.grownBy w6 (Value.slice (some ⟨g7,0,none⟩) (h.ds.length+1) c7).ownBlock from hg6) (E5 kA5 HH5.d.1 (by decide));clear e5;obtain⟨-,-,-,-,-,e5⟩:=(D9 kA6).c6;obtain⟨-,-,-,-,-,f5⟩:=(D9 kA6).f6)
  have hl2:(dl.drop 1).length=h.ds.length:=by rw[A8,hl];omega
  have HH6:=HH5.dones (show W5.grownBy w6 (Value.slice (some ⟨g7,0,none⟩) (h.ds.length+1) c7).ownBlock from hg6) (ds:=dl.drop 1) (by rw[hl2];exact hrow6) Hzd.out;have hB6:=F1 hB5 hB5.size HH5.d.1 (show W5.grownBy w6 (Value.slice (some ⟨g7,0,none⟩) (h.ds.length+1) c7).ownBlock from hg6) (A3 _);have b1:=J6 (j:=5) kA6 (.slice (some ⟨g7,0,none⟩) h.ds.length c7);go_end0
  exact⟨rfl,by rw[hC.out];exact⟨_,_,_,_,b1.1,HH6.box kA6 b1.2⟩,F1 hB6 hB6.size kA6 b1.2 (A3 _)⟩
 ·have hC:Hid (cut20 (h.ds++[(⟨x'.nm,en,h.now⟩:Done)])=h.ds++[⟨x'.nm,en,h.now⟩]):=by show _=_;unfold cut20;rw[if_neg (by simpa using h20)]
  have h20':¬(20:Int)<(h.ds.length:Int)+1:=by omega
  go_wp2_with fail
  go_end0
  exact⟨rfl,by rw[hC.out];exact⟨_,_,_,_,kA5,HH5⟩,hB5⟩
theorem Akd (b:Bk) (nm:ByteArray) (ls:List ByteArray):askedC b (ofC b nm ls)=lsnC b nm ls/\askedB b (ofC b nm ls) (chg b (plN b nm) (lessF ls))=lsnB b nm ls:=by
 cases hb:bookB b
 ·obtain⟨h1,h2⟩:=AbO (nm:=nm) (needs:=ls) hb
  exact⟨by rw[h1];simp[askedC,hb],by rw[h2];simp[askedB,hb]⟩
 ·cases hm:memS (nms b.bs) nm
  ·obtain⟨h1,h2⟩:=Aa9 (needs:=ls) hb hm
   exact⟨by rw[h1];simp[askedC,hb,ofC,hm],by rw[h2];simp[askedB,hb,ofC,hm]⟩
  ·cases hp:pB (PartOk ls (needsAt b nm))
   ·obtain⟨h1,h2⟩:=Abc hb hm hp
    exact⟨by rw[h1];simp[askedC,hb,ofC,hm,hp],by rw[h2];simp[askedB,hb,ofC,hm,hp]⟩
   ·obtain⟨h1,h2⟩:=Abd hb hm hp
    exact⟨by rw[h1];simp[askedC,hb,ofC,hm,hp],by rw[h2];simp[askedB,hb,ofC,hm,hp]⟩
theorem Af6 (b:Bk) (v:Value) (nm:ByteArray) (lv:Value) (ls:List ByteArray) (w:World) (h:BkV w v b) (hl:Ls w lv ls) (hg:ErrT w) :
  Calls Tryz.prog 109 #[v,.string nm,lv] w λe w'=>(∃u,e=.returned (.tuple #[u,.int .i64 (lsnC b nm ls)])/\BkF w' w.heap.size u (lsnB b nm ls))/\Below w.heap.size w w':=by
 have hA:∀W,Below w.heap.size w W->Calls Tryz.prog 140 #[v,.iface 213 (.agg #[.string nm,lv])] W λe w'=>(∃u,e=.returned (.tuple #[u,.int .i64 (lsnC b nm ls)])/\BkF w' W.heap.size u (lsnB b nm ls))/\Below W.heap.size W w':=λW hW=>by
  refine Acw b v nm _ _ (lsnC b nm ls) (lsnB b nm ls) W (h.up hW) (hg.up hW) λX hX=>?_;obtain⟨e1,e2⟩:=Akd b nm ls;rw[← e1,← e2]
  exact AeV b v nm _ _ 274 (ofC b nm ls) _ X ((h.up hW).up hX) (λn w=>Ai9 n _ _ w) (λn w=>AnB n _ _ w) ru_L
   (λhok Y hY=>Ah4 b v nm lv ls Y (((h.up hW).up hX).up hY) hok (((hl.up hW).up hX).up hY))
   (λhok hc Y hY=>Aha b v nm lv ls Y (((h.up hW).up hX).up hY) (((hl.up hW).up hX).up hY) (by have:=AcA hok hc;omega) hok (Ad1 hc).2 (AbU hc))
 obtain⟨a1,c1,a2,c2,rfl,-,-⟩:=h.parts;obtain⟨la,lc,rfl,-⟩:=id hl;have HA:Hid (∀W,Below w.heap.size w W->Calls Tryz.prog 140 #[.agg #[.slice a1 b.things.length c1,.slice a2 b.bs.length c2],.iface 213 (.agg #[.string nm,.slice la ls.length lc])] W λe w'=>(∃u,e=.returned (.tuple #[u,.int .i64 (lsnC b nm ls)])/\BkF w' W.heap.size u (lsnB b nm ls))/\Below W.heap.size W w'):=hA;clear hA h hg hl;obtain⟨W1,hW1,kA,kR,hB1,hs1⟩:=L1 w [.slice a1 (b).things.length c1,.slice a2 (b).bs.length c2] 33 [.slice none 0 0,.slice none 0 0] 33;go_enter Tryz.func109,Tryz.ntmps109
 go_upto_region 1 with fail
 try rw[hW1]
 clear hW1;obtain⟨e0,e1⟩:=kA.c2';go_wp2_with fail
 refine (HA.out _ hB1).mono ?_;rintro e w2 ⟨⟨u,rfl,hu⟩,hb2⟩;have kR2:=kR.up hb2 (by omega);have hB2:=D6 hB1 hb2;obtain⟨i1,j1,i2,j2,rfl⟩:=hu.shape;clear e0 e1 kA kR hB1 hb2 HA;obtain⟨⟨y0,y1⟩,q0,q1⟩:=kR2.c2;go_wp2_with fail
 refine J3 Tryz.results109 Tryz.underlying33 rfl J0 kR2 rfl rfl ?_;exact⟨⟨_,rfl,((hu.set (by omega)).set (by omega)).low (by omega)⟩,F9 hB2 (Nat.le_succ _) _ _⟩
end Go.Proofs.YtebfdccbmmpceaaGreatDoor
