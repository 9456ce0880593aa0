/- The program's chapter 23: runAllAsk. -/
import Derived.Test.YtgecdacgmehmbaaGreatDoorJ49
namespace Go.Proofs.YtgecdacgmehmbaaGreatDoor
open Go.RowKit
set_option maxRecDepth 20000 in
set_option maxHeartbeats 8000000 in
theorem AjJ (h:House) (y:Nat) (u:FrameMode) (w0 w:World) (hB0:Below w0.heap.size w0 w) (hE:Ends w0) (hT:ErrT w0) (H:PH w w0.heap.size y h) (hsi:∀x∈h.bs,-1<=x.si) :
  CallsD Tryz.prog 85 #[.pointer (some ⟨y,0,none⟩)] u w λe u' w'=>u'=u/\(e=.returned (.tuple #[])/\PH w' w0.heap.size y (asksH h h.bs.length)/\Below w0.heap.size w0 w'):=by
 obtain⟨tv,bv,xv,dv,kA,HH⟩:=H;obtain⟨-,-,-,-,a3,c3,-,-,-,-,rfl,-⟩:=HH.v.shapes
 have hmx:h.bs.length<=9223372036854775807:=by
  obtain⟨ps,hw,he⟩:=HH.x;have:=AaI hw.1.1;rw[← he,B3];unfold maxLen at this;omega
 have Hsi:Hid (∀x∈h.bs,-1<=x.si):=hsi;clear hsi;go_enter_d Tryz.func85,Tryz.ntmps85
 obtain⟨-,-,-,-,e4,-⟩:=(D8 kA).c6;go_upto_region 1 with fail
 clear e4;go_loopw [13] (λi w'=>∃(k:Nat) (tu bu:Value),k<=h.bs.length/\i=.int .i64 k/\w'.ownsRow w0.heap.size 41 6 (.slice (some ⟨y,0,none⟩) 1 1) 1 [.int .i64 h.now,.int .i64 h.last,tu,bu,.slice a3 h.bs.length c3,dv]/\HP w' w0.heap.size (asksH h k) tu bu (.slice a3 h.bs.length c3) dv/\Below w0.heap.size w0 w') (λi _=>h.bs.length-(intOf i).toNat)
 case atStart=>exact⟨0,tv,bv,by omega,rfl,kA,HH,hB0⟩
 case round =>
  clear kA HH hB0;obtain⟨k,tu,bu,hle,rfl,kA,HH,hB⟩:=hrel;have Hz4:Hid ((asksH h k).bs.length=h.bs.length):=(Aak h k).2.2.2;have Hsk:Hid (∀x∈(asksH h k).bs,-1<=x.si):=AgS Hsi.out k;have HN:Hid (asksH h (k+1)=askH (asksH h k) k):=rfl;have Hnow:Hid ((asksH h k).now=h.now/\(asksH h k).last=h.last):=⟨(Aak h k).1,(Aak h k).2.1⟩;have HE:Hid (k=h.bs.length->asksH h h.bs.length=asksH h k):=λe=>by rw[e]
  generalize asksH h k=hk at *;obtain⟨-,-,e2,e3,e4,-⟩:=(D8 kA).c6;by_cases hp:k<h.bs.length
  ·obtain⟨ps,hW,hm⟩:=HH.x
   have hpl:ps.length=h.bs.length:=by have:=congrArg List.length hm;rw[B3,Hz4.out] at this;exact this
   obtain⟨g,cap,eg⟩:=F2 hW.1.1 (by omega);simp only[Value.slice.injEq] at eg;obtain⟨rfl,-,rfl⟩:=eg;have hrow:=hW.1.1;rw[hpl] at hrow;obtain⟨⟨x0,ru,su⟩,hpk⟩:∃p,ps[k]?=some p:=⟨ps[k]'(by omega),A0 _⟩;have Hpk:Hid (ps[k]?=some (x0,ru,su)):=hpk;have Hx0:Hid (hk.bs[k]?=some x0):=by show _=_;rw[← hm,B0,hpk];rfl
   have hrc:=hW.1.2 _ (A6 hpk);have hnr:NN ru:=hrc.nr;have hns:NN su:=hrc.ns;obtain⟨g3,n3,m3,rfl⟩:=hnr;obtain⟨g4,n4,m4,rfl⟩:=hns;have hcl:=J6 K7 hrow hpk;have q0:World.cell? wr ⟨g,k*6,none⟩=some (.string x0.nm):=hcl 0 _ rfl;have q1:World.cell? wr ⟨g,k*6+1,none⟩=some (.slice (some ⟨g3,0,none⟩) n3 m3):=hcl 1 _ rfl;have q2:World.cell? wr ⟨g,k*6+2,none⟩=some (.slice (some ⟨g4,0,none⟩) n4 m4):=hcl 2 _ rfl;have q3:World.cell? wr ⟨g,k*6+3,none⟩=some (.string x0.ad):=hcl 3 _ rfl;have q4:World.cell? wr ⟨g,k*6+4,none⟩=some (.int .i64 x0.si):=hcl 4 _ rfl;have q5:World.cell? wr ⟨g,k*6+5,none⟩=some (.int .i64 x0.st):=hcl 5 _ rfl;have hv:RbV wr x0 (.slice (some ⟨g3,0,none⟩) n3 m3) (.slice (some ⟨g4,0,none⟩) n4 m4):=hrc.v;have hglt:g<wr.heap.size:=(hrow.lt g rfl).2;have hylt:y<wr.heap.size:=(kA.lt y rfl).2;have hs1:-1<=x0.si:=Hsk.out x0 (A6 Hx0.out);clear hcl hrc hm hpk hpl;by_cases hsi:0<=x0.si
   ·have HA:Hid (askH hk k=hk):=by show _=_;rw[Add Hx0.out,if_pos hsi]
    have hne:¬x0.si=-1:=by omega
    clear hv hrow hW;go_wp2_with (go_at_call 125;refine (AgK _ _ _ _ _ _ _ _ _ _ _ hne).mono ?_;rintro e w3 ⟨rfl,hb3⟩)
    go_roundw
    case rel=>exact⟨k+1,tu,bu,by omega,by go_num,E0 kA hb3,by rw[HN.out,HA.out];exact HH.up hb3,D5 hB hb3⟩
    case measure=>simp[intOf];omega
   ·have hm1:x0.si=-1:=by omega
    have HA:Hid (askH hk k=if askC hk.sh x0.nm (rbOwn x0)=0 then {hk with sh:=askB hk.sh x0.nm (rbOwn x0),bs:=hk.bs.set k {x0 with si:=0}} else hk):=by show _=_;rw[Add Hx0.out,if_neg hsi]
    rw[hm1] at q4;go_upto_region 6 with (go_at_call 125;refine (Aey _ _ _ _ _ _ _ _ _ _).mono ?_;rintro e w3 ⟨rfl,hb3⟩)
    rw[← hm1] at q4
    have mk:∀w',Below w3.heap.size w3 w'->World.cell? w' ⟨y,2,none⟩=some tu/\World.cell? w' ⟨y,3,none⟩=some bu/\World.cell? w' ⟨g,k*6,none⟩=some (.string x0.nm)/\World.cell? w' ⟨g,k*6+1,none⟩=some (.slice (some ⟨g3,0,none⟩) n3 m3)/\World.cell? w' ⟨g,k*6+2,none⟩=some (.slice (some ⟨g4,0,none⟩) n4 m4)/\World.cell? w' ⟨g,k*6+3,none⟩=some (.string x0.ad)/\World.cell? w' ⟨g,k*6+4,none⟩=some (.int .i64 x0.si)/\World.cell? w' ⟨g,k*6+5,none⟩=some (.int .i64 x0.st):=λw' hb'=>by
     have hb:=D5 hb3 hb';exact⟨(hb.cell (p:=⟨y,2,none⟩) hylt).trans e2,(hb.cell (p:=⟨y,3,none⟩) hylt).trans e3,(hb.cell (p:=⟨g,k*6,none⟩) hglt).trans q0,(hb.cell (p:=⟨g,k*6+1,none⟩) hglt).trans q1,(hb.cell (p:=⟨g,k*6+2,none⟩) hglt).trans q2,(hb.cell (p:=⟨g,k*6+3,none⟩) hglt).trans q3,(hb.cell (p:=⟨g,k*6+4,none⟩) hglt).trans q4,(hb.cell (p:=⟨g,k*6+5,none⟩) hglt).trans q5⟩
    have Mk:Hid (∀w',Below w3.heap.size w3 w'->World.cell? w' ⟨y,2,none⟩=some tu/\World.cell? w' ⟨y,3,none⟩=some bu/\World.cell? w' ⟨g,k*6,none⟩=some (.string x0.nm)/\World.cell? w' ⟨g,k*6+1,none⟩=some (.slice (some ⟨g3,0,none⟩) n3 m3)/\World.cell? w' ⟨g,k*6+2,none⟩=some (.slice (some ⟨g4,0,none⟩) n4 m4)/\World.cell? w' ⟨g,k*6+3,none⟩=some (.string x0.ad)/\World.cell? w' ⟨g,k*6+4,none⟩=some (.int .i64 x0.si)/\World.cell? w' ⟨g,k*6+5,none⟩=some (.int .i64 x0.st)):=mk;have HB3:=HH.up hb3;have kA3:=E0 kA hb3;have hrow3:=E0 hrow hb3;have hB3:=D5 hB hb3;have HB:Hid (BkV w3 (.agg #[tu,bu]) hk.sh):=HB3.k.bk HB3.z;have hEr:=hE.up hB3;have hTr:=hT.up hB3;replace hv:=hv.up hb3;have hb0:=hB3.size;clear mk q0 q1 q2 q3 q4 q5 e2 e3 e4 kA HH hB hrow hb3 hylt hglt hm1 hs1 hsi hW;go_cut [6,7] (λv6 v7 wc=>∃(Y:Nat) (tw bw:Value),v6=.pointer (some ⟨Y,0,none⟩)/\v7=.int .i64 (askC hk.sh x0.nm (rbOwn x0))/\Below w3.heap.size w3 wc/\BkF wc w3.heap.size (.agg #[tw,bw]) (askB hk.sh x0.nm (rbOwn x0))/\CB wc Y [tw,bw])
    case first =>
     have hC:AQ w3 hk x0 w3.drew none none none:=(aq_nil w3 hk x0).up (A4 _ _).drew;refine F6 99 (λw'=>World.cell? w' ⟨y,2,none⟩=some tu/\World.cell? w' ⟨y,3,none⟩=some bu/\World.cell? w' ⟨g,k*6,none⟩=some (.string x0.nm)/\World.cell? w' ⟨g,k*6+1,none⟩=some (.slice (some ⟨g3,0,none⟩) n3 m3)/\World.cell? w' ⟨g,k*6+2,none⟩=some (.slice (some ⟨g4,0,none⟩) n4 m4)/\World.cell? w' ⟨g,k*6+3,none⟩=some (.string x0.ad)/\World.cell? w' ⟨g,k*6+4,none⟩=some (.int .i64 x0.si)/\World.cell? w' ⟨g,k*6+5,none⟩=some (.int .i64 x0.st)) (by kernel_rfl) ?_;generalize w3.drew=X1 at hC ⊢
     have hS1:=Mk.out _ hC.B;refine tkx 0 rfl hS1 ?_;refine tkx 1 rfl hS1 ?_;refine tkx 2 rfl hS1 ?_;refine tkx 3 rfl hS1 ?_;refine tkx 4 rfl hS1 ?_;refine tkx 5 rfl hS1 ?_;refine tkx 6 rfl hS1 ?_;refine tkx 7 rfl hS1 ?_;refine tkx 8 rfl hS1 ?_;refine tkx 9 rfl hS1 ?_;refine tkx 10 rfl hS1 ?_;clear hS1;refine J9 (i:=11) (j:=16) (by kernel_rfl) rfl rfl (λK hK=>?_) (λK hK=>?_)
     ·(go_simp;go_wp2_with (go_at_call 127;refine (AdH x0 _ _ _ (hEr.up hC.B) (hv.up hC.B)).mono ?_;rintro e X2 ⟨⟨u1,rfl,hu⟩,hb2⟩;replace hC:=hC.own hb2 hu.lst;obtain⟨a9,c9,rfl⟩:=hu.lst.shape;clear hb2 hu);refine hK.out _ _ (λ_=>(Mk.out _ hC.B)) ?_;clear hK K)
      refine J9 (i:=12) (j:=16) (by kernel_rfl) rfl rfl (λK hK=>?_) (λK hK=>?_)
      ·(go_simp;go_wp2_with (go_at_call 126;refine (AdM hk.sh _ x0.nm _ (rbOwn x0) _ (HB.out.up hC.B) ((hC.s11 _ rfl).ls (L3 hv)) (hTr.up hC.B)).mono ?_;rintro e X3 ⟨⟨v8,rfl,hk8⟩,hb8⟩;replace hC:=hC.ask hb8 hk8;obtain⟨t1,d1,t2,d2,rfl⟩:=hk8.shape;clear hk8 hb8);refine hK.out _ _ (λ_=>(Mk.out _ hC.B)) ?_;clear hK K;(refine tkx 13 rfl (Mk.out _ hC.B) ?_);(refine tkx 14 rfl (Mk.out _ hC.B) ?_);(refine tkx 15 rfl (Mk.out _ hC.B) ?_))
       refine D7 (i:=16) (by kernel_rfl) rfl (λK hK=>?_)
       (go_simp;replace hC:=hC.new;refine hK.out _ _ (λ_=>(Mk.out _ hC.B)) ?_;clear hK K;generalize World.alloc _ (.cells #[.slice none 0 0,.slice none 0 0] 37)=X4 at hC ⊢)
       (have kY:=D8 (hC.s16 _ rfl);obtain⟨⟨j0,j1⟩,m0,m1⟩:=kY.c2;have hF:=hC.fin;refine D7 (i:=17) (by kernel_rfl) rfl (λK hK=>?_);go_simp;refine hK.out _ _ (λ_=>Mk.out _ hF.1) ?_;clear hK K j0 j1 m0 m1 kY;refine D7 (i:=18) (by kernel_rfl) rfl (λK hK=>?_);go_simp;refine hK.out _ _ (λ_=>Mk.out _ hF.1) ?_;clear hK K;refine F0 (by kernel_rfl) ?_ _;go_wp2_with fail;go_meet;exact⟨_,_,_,rfl,rfl,hF⟩)
      ·(go_simp;replace hC:=hC.new;refine hK.out _ _ (λ_=>(Mk.out _ hC.B)) ?_;clear hK K;generalize World.alloc _ (.cells #[.slice none 0 0,.slice none 0 0] 37)=X4 at hC ⊢)
       refine D7 (i:=12) (by kernel_rfl) rfl (λK hK=>?_)
       (go_simp;go_wp2_with (go_at_call 126;refine (AdM hk.sh _ x0.nm _ (rbOwn x0) _ (HB.out.up hC.B) ((hC.s11 _ rfl).ls (L3 hv)) (hTr.up hC.B)).mono ?_;rintro e X3 ⟨⟨v8,rfl,hk8⟩,hb8⟩;replace hC:=hC.ask hb8 hk8;obtain⟨t1,d1,t2,d2,rfl⟩:=hk8.shape;clear hk8 hb8);refine hK.out _ _ (λ_=>(Mk.out _ hC.B)) ?_;clear hK K;(refine tkx 13 rfl (Mk.out _ hC.B) ?_);(refine tkx 14 rfl (Mk.out _ hC.B) ?_);(refine tkx 15 rfl (Mk.out _ hC.B) ?_))
       (have kY:=D8 (hC.s16 _ rfl);obtain⟨⟨j0,j1⟩,m0,m1⟩:=kY.c2;have hF:=hC.fin;refine D7 (i:=17) (by kernel_rfl) rfl (λK hK=>?_);go_simp;refine hK.out _ _ (λ_=>Mk.out _ hF.1) ?_;clear hK K j0 j1 m0 m1 kY;refine D7 (i:=18) (by kernel_rfl) rfl (λK hK=>?_);go_simp;refine hK.out _ _ (λ_=>Mk.out _ hF.1) ?_;clear hK K;refine F0 (by kernel_rfl) ?_ _;go_wp2_with fail;go_meet;exact⟨_,_,_,rfl,rfl,hF⟩)
     ·(go_simp;replace hC:=hC.new;refine hK.out _ _ (λ_=>(Mk.out _ hC.B)) ?_;clear hK K;generalize World.alloc _ (.cells #[.slice none 0 0,.slice none 0 0] 37)=X4 at hC ⊢)
      refine D7 (i:=11) (by kernel_rfl) rfl (λK hK=>?_)
      (go_simp;go_wp2_with (go_at_call 127;refine (AdH x0 _ _ _ (hEr.up hC.B) (hv.up hC.B)).mono ?_;rintro e X2 ⟨⟨u1,rfl,hu⟩,hb2⟩;replace hC:=hC.own hb2 hu.lst;obtain⟨a9,c9,rfl⟩:=hu.lst.shape;clear hb2 hu);refine hK.out _ _ (λ_=>(Mk.out _ hC.B)) ?_;clear hK K)
      refine D7 (i:=12) (by kernel_rfl) rfl (λK hK=>?_)
      (go_simp;go_wp2_with (go_at_call 126;refine (AdM hk.sh _ x0.nm _ (rbOwn x0) _ (HB.out.up hC.B) ((hC.s11 _ rfl).ls (L3 hv)) (hTr.up hC.B)).mono ?_;rintro e X3 ⟨⟨v8,rfl,hk8⟩,hb8⟩;replace hC:=hC.ask hb8 hk8;obtain⟨t1,d1,t2,d2,rfl⟩:=hk8.shape;clear hk8 hb8);refine hK.out _ _ (λ_=>(Mk.out _ hC.B)) ?_;clear hK K;(refine tkx 13 rfl (Mk.out _ hC.B) ?_);(refine tkx 14 rfl (Mk.out _ hC.B) ?_);(refine tkx 15 rfl (Mk.out _ hC.B) ?_))
      (have kY:=D8 (hC.s16 _ rfl);obtain⟨⟨j0,j1⟩,m0,m1⟩:=kY.c2;have hF:=hC.fin;refine D7 (i:=17) (by kernel_rfl) rfl (λK hK=>?_);go_simp;refine hK.out _ _ (λ_=>Mk.out _ hF.1) ?_;clear hK K j0 j1 m0 m1 kY;refine D7 (i:=18) (by kernel_rfl) rfl (λK hK=>?_);go_simp;refine hK.out _ _ (λ_=>Mk.out _ hF.1) ?_;clear hK K;refine F0 (by kernel_rfl) ?_ _;go_wp2_with fail;go_meet;exact⟨_,_,_,rfl,rfl,hF⟩)
    case rest =>
     obtain⟨Y,tw,bw,rfl,rfl,hBc,hbk,kY⟩:=hcut;have HHc:=HB3.up hBc;have kAc:=E0 kA3 hBc;have hrowc:=E0 hrow3 hBc;have hBB:=D5 hB3 hBc;have Hz:Hid (Szb (askB hk.sh x0.nm (rbOwn x0))):=Am4 HB3.z (L3 hv);clear Mk HB hrow3 HB3 kA3 hv hEr hTr hB3;by_cases hcd:askC hk.sh x0.nm (rbOwn x0)=0
     ·have HA2:Hid (asksH h (k+1)={hk with sh:=askB hk.sh x0.nm (rbOwn x0),bs:=hk.bs.set k {x0 with si:=0}}):=by show _=_;rw[HN.out,HA.out,if_pos hcd]
      rw[hcd];clear hcd;obtain⟨t1,d1,t2,d2,e9⟩:=hbk.shape;simp only[Value.agg.injEq,Array.mk.injEq,List.cons.injEq,and_true] at e9;obtain⟨rfl,rfl⟩:=e9;generalize askB hk.sh x0.nm (rbOwn x0)=b' at *;obtain⟨v0,v1⟩:=kY.c2';obtain⟨e0,e1,e2,e3,e4,e5⟩:=(D8 kAc).c6;obtain⟨f0,f1,f2,f3,f4,f5⟩:=(D8 kAc).f6;have b1:=Y9 (j:=2) kAc (.slice t1 b'.things.length d1);have b2:=Y9 (j:=3) b1.1 (.slice t2 b'.bs.length d2);have hg2:wc.grownBy ((wc.setCell ⟨y,2,none⟩ (.slice t1 b'.things.length d1)).setCell ⟨y,3,none⟩ (.slice t2 b'.bs.length d2)) (Value.slice (some ⟨y,0,none⟩) 1 1).ownBlock:=E3 b1.2 b2.2
      obtain⟨W7,hW7,kA7,hrow7,HH7,hbk7,hB7⟩:∃W7,(wc.setCell ⟨y,2,none⟩ (.slice t1 b'.things.length d1)).setCell ⟨y,3,none⟩ (.slice t2 b'.bs.length d2)=W7/\W7.ownsRow w0.heap.size 41 6 (.slice (some ⟨y,0,none⟩) 1 1) 1 [.int .i64 h.now,.int .i64 h.last,.slice t1 b'.things.length d1,.slice t2 b'.bs.length d2,.slice (some ⟨g,0,none⟩) h.bs.length c3,dv]/\W7.ownsRow w0.heap.size 71 6 (.slice (some ⟨g,0,none⟩) h.bs.length c3) h.bs.length (rowsF rowR ps)/\HP W7 w0.heap.size hk tu bu (.slice (some ⟨g,0,none⟩) h.bs.length c3) dv/\BkF W7 w0.heap.size (.agg #[.slice t1 b'.things.length d1,.slice t2 b'.bs.length d2]) b'/\Below w0.heap.size w0 W7 :=
       ⟨_,rfl,b2.1,E4 hrowc hg2 (E5 hrowc kAc (by decide)),HHc.box kAc hg2,(hbk.step kAc (by decide) (by decide) hg2).low hb0,F5 hBB hBB.size kAc hg2 (A3 _)⟩
      go_upto_region 9 with fail
      try rw[hW7]
      clear hW7 e0 e1 e2 e3 e4 e5 f0 f1 f2 f3 f4 f5 v0 v1 b1 b2 hg2 kAc hrowc HHc hbk kY hBc hBB;have q4:World.cell? W7 ⟨g,k*6+4,none⟩=(rowsF rowR ps)[k*6+4]?:=hrow7.cellAt (k*6+4) (by omega);rw[Aar K7 ps k _ Hpk.out 4 (.int .i64 x0.si) rfl] at q4;have f4:=hrow7.frozenAt (k*6+4);have hg8:W7.grownBy (W7.setCell ⟨g,k*6+4,none⟩ (.int .i64 0)) (Value.slice (some ⟨g,0,none⟩) h.bs.length c3).ownBlock:=(B2 hrow7 _ _).2;have HH8:=HH7.since Hx0.out hbk7 Hz.out 0;have kA8:=E4 kA7 hg8 (E5 kA7 hrow7 (by decide));have hB8:=F5 hB7 hB7.size hrow7 hg8 (A3 _);clear HH7 hbk7 kA7 hB7 hrow7 hg8;go_wp2_with fail
      go_roundw
      case rel=>exact⟨k+1,_,_,by omega,by go_num,kA8,by rw[HA2.out];exact HH8,hB8⟩
      case measure=>simp[intOf];omega
     ·have HA2:Hid (asksH h (k+1)=hk):=by show _=_;rw[HN.out,HA.out,if_neg hcd]
      have hcd':(askC hk.sh x0.nm (rbOwn x0)==0)=false:=by simpa using hcd
      go_wp2_with fail
      go_roundw
      case rel=>exact⟨k+1,_,_,by omega,by go_num,kAc,by rw[HA2.out];exact HHc,hBB⟩
      case measure=>simp[intOf];omega
  ·have HF:Hid (asksH h h.bs.length=hk):=HE.out (by omega)
   clear e2 e3 e4;go_wp2_with fail
   go_end0
   exact⟨rfl,by rw[HF.out];exact⟨_,_,_,_,by rw[Hnow.out.1,Hnow.out.2];exact kA,HH⟩,hB⟩
end Go.Proofs.YtgecdacgmehmbaaGreatDoor
