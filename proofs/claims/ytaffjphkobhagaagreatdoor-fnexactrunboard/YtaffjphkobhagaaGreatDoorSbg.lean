/- The specification's board (RunBoard), walked. -/
import Derived.Test.YtaffjphkobhagaaGreatDoorJ48
namespace Go.Proofs.YtaffjphkobhagaaGreatDoor
open Proofs.Tryz
variable{a:Act}{K:Act->World->Prop}{c:Code}{P:Program}{w:World}
namespace Bd
open Go.RowKit
theorem TD{Q:Exit->Act->World->Prop}(h:c.wp P (Exit.then K λ_ _ _=>False) a w):c.wp P (Exit.then K Q) a w :=
 Code.wp_mono (λe _ _ he=>by cases e<;>first|exact he|exact he.elim) h
set_option maxRecDepth 20000 in
set_option maxHeartbeats 8000000 in
theorem Yp(h:House)(tv bv xv dv:Value)(w:World)(H:HV w h tv bv xv dv):
  cU prog 5 #[.agg #[Iz h.now,Iz h.last,tv,bv,xv,dv]] w (Tz (U6 h)):=by
 have b1:=λW (hB:Up w W)=>KA h tv bv xv dv W (H.up hB);have b2:=λW (hB:Up w W)=>AaH h tv bv xv dv W (H.up hB);obtain⟨a1,c1,a2,c2,a3,c3,a4,c4,rfl,rfl,rfl,rfl⟩:=H.shapes;have HH:Hid (∀W,Up w W->Calls prog 12 #[.agg (Hcz h a1 c1 a2 c2 a3 c3 a4 c4).toArray] W λe w'=>e=.returned (.bool (pB (F2 h)))/\Up W w'):=b1;have HLf:Hid (∀W,Up w W->Calls prog 14 #[.agg (Hcz h a1 c1 a2 c2 a3 c3 a4 c4).toArray] W λe w'=>e=.returned (Iz (GI h))/\Up W w'):=b2;have HV0:Hid (HV w h (Vz a1 h.sh.tg.length c1) (Vz a2 h.sh.bs.length c2) (Vz a3 h.bs.length c3) (Vz a4 h.ds.length c4)):=H;clear b1 b2;have f7:=(H.x.inv rfl).2
 have h0:0<h.ds.length->∃b o,a4=some ⟨b,o,none⟩/\DU w b o h.ds/\b<w.heap.size:=by
  obtain⟨a,c,e,-,h2⟩:=H.d;simp only[Value.slice.injEq] at e;obtain⟨rfl,-,-⟩:=e;exact h2
 clear H;have b3:=(A4 w.heap.size w).alloc (A3 _) (.cells (Hcz h a1 c1 a2 c2 a3 c3 a4 c4).toArray 38);have hC:CB (w.alloc (.cells (Hcz h a1 c1 a2 c2 a3 c3 a4 c4).toArray 38)) w.heap.size (Hcz h a1 c1 a2 c2 a3 c3 a4 c4):=E9 w _ _;delta cU;go_in;go_upto_region 1 with fail;generalize w.alloc (.cells (Hcz h a1 c1 a2 c2 a3 c3 a4 c4).toArray 38)=W1 at *;have h1:=hC.2.2
 have Mk:Hid (∀X,Up W1 X->(AS X w.heap.size 0 (Iz h.now)/\AS X w.heap.size 1 (Iz h.last)/\AS X w.heap.size 2 (Vz a1 h.sh.tg.length c1)/\AS X w.heap.size 3 (Vz a2 h.sh.bs.length c2)/\AS X w.heap.size 4 (Vz a3 h.bs.length c3)/\AS X w.heap.size 5 (Vz a4 h.ds.length c4))):=λX hX=>by
  obtain⟨e0,e1,e2,e3,e4,e5⟩:=(hC.up hX h1).c6;exact⟨e0,e1,e2,e3,e4,e5⟩
 obtain⟨d0,d1,d2,d3,d4,d5⟩:=Mk.out W1 (A4 _ _);cases hq:pB (F2 h)
 .have HB:Hid (U6 h=⟨#[]⟩):=by show _=_;unfold U6;rw[hq];rfl
  go_wp2_with (go_at_call 12;refine (HH.out _ b3).mono ?_;rw[hq];rintro e w2 ⟨rfl,f6⟩)
  go_ret;exact⟨by rw[HB.out];rfl,D3 b3 f6⟩
 .have Hok:Hid (F2 h):=G7.1 hq;have HB:Hid (U6 h=Bv (Bv (L9 h++⟨#[10]⟩) (O6 h)) (P4 h)):=by show _=_;unfold U6;rw[if_pos hq];exact AcJ h
  have Hl:Hid (GI h=I0 h.bs):=by show _=_;unfold GI;rw[if_pos hq]
  go_upto_region 3 with (go_at_call 12;refine (HH.out _ b3).mono ?_;rw[hq];rintro e w2 ⟨rfl,f6⟩)
  clear d0 d1 d2 d3 d4 d5 HH;obtain⟨g3,g4⟩:=Ts Hok.out;obtain⟨g5,g6,-,-⟩:=Hok.out.1;go_cut [3] (λv3 wc=>v3=Tz (L9 h++⟨#[10]⟩)/\Up W1 wc)
  case first =>
   have z1:(I3 h.now).size<=21:=Bn oM oM;have z2:(I3 (I0 h.bs)).size<=21:=Bn oM oM;have f8:(9223372036854775807<4+(I3 h.now).size)=False:=eq_false oM;have h3:(9223372036854775807<4+(I3 h.now).size+6)=False:=eq_false oM;have h4:(9223372036854775807<4+(I3 h.now).size+6+(I3 (I0 h.bs)).size)=False:=eq_false oM;have h5:(9223372036854775807<4+(I3 h.now).size+6+(I3 (I0 h.bs)).size+1)=False:=eq_false oM;have a7:=f6.drew;have a0:=Mk.out _ a7;have e8:=D3 b3 a7;refine TD (L6 99 (λw'=>(AS w' w.heap.size 0 (Iz h.now)/\AS w' w.heap.size 1 (Iz h.last)/\AS w' w.heap.size 2 (Vz a1 h.sh.tg.length c1)/\AS w' w.heap.size 3 (Vz a2 h.sh.bs.length c2)/\AS w' w.heap.size 4 (Vz a3 h.bs.length c3)/\AS w' w.heap.size 5 (Vz a4 h.ds.length c4))) sI ?_);generalize w2.drew=X1 at *;refine D8 0 rfl a0 ?_;refine D8 1 rfl a0 ?_;refine D8 5 rfl a0 ?_;refine W9 2 rfl (λK hK=>?_);go_simp;go_wp2_with (go_at_call 13;refine (KF h.now X1 oM oM).mono ?_;rintro e w3 ⟨rfl,c9⟩)
   have b7:=Mk.out _ (D3 a7 c9);have e9:=D3 e8 c9;have a9:=D3 a7 c9;refine U4 hK b7 ?_;clear hK K;refine D8 3 rfl b7 ?_;refine D8 4 rfl b7 ?_;refine W9 6 rfl (λK hK=>?_);go_simp;go_wp2_with (go_at_call 14;refine (HLf.out _ e9).mono ?_;rw[Hl.out];rintro e w4 ⟨rfl,f9⟩)
   have a6:=Mk.out _ (D3 a9 f9);have d6:=D3 a9 f9;refine U4 hK a6 ?_;clear hK K;refine W9 7 rfl (λK hK=>?_);go_simp;go_wp2_with (go_at_call 13;refine (KF (I0 h.bs) w4 oM oM).mono ?_;rintro e w5 ⟨rfl,c5⟩)
   have a8:=Mk.out _ (D3 d6 c5);have b0:=D3 d6 c5;refine U4 hK a8 ?_;clear hK K;refine D8 8 rfl a8 ?_;refine D8 9 rfl a8 ?_;refine W9 10 rfl (λK hK=>?_);go_simp;refine U4 hK a8 ?_;clear hK K;refine O1 sI ?_ _;go_wp2_with fail;go_meet
   case rel=>exact⟨rfl,b0⟩
  case rest =>
   obtain⟨rfl,g7⟩:=hcut;have h7:(L9 h++⟨#[10]⟩).size<=53:=by rw[ByteArray.size_append];have:=Tt Hok.out;show (L9 h).size+1<=53;omega
   have h8:=Hok.out.few;have h6:=Hok.out.2.1.1;generalize L9 h++⟨#[10]⟩=o1 at *;clear g3 g4 g5 g6 Hl HLf hq;go_wp2_with fail;(try dsimp only[Iz,Sy,Sx,Nz,Vz,Tz,Ez,Pz]);go_loopw [3,4] (λv i w'=>∃k:Nat,k<=h.bs.length/\i=.int .i64 k/\v=Tz (Bv o1 ((O6 h).take k))/\Up W1 w') (λ_ i _=>h.bs.length-(intOf i).toNat)
   case atStart=>exact⟨0,oM,rfl,rfl,g7⟩
   case round =>
    obtain⟨k,hk,rfl,rfl,hB⟩:=hrel
    have c7:=Tw (m:=264) ((O6 h).take k) o1 λs hs=>by
     obtain⟨x,hx,rfl⟩:=List.mem_map.1 (List.mem_of_mem_take hs);exact Lq Hok.out hx
    rw[B8,Nat.min_eq_left (by simpa [O6] using hk)] at c7;obtain⟨d0,d1,d2,d3,d4,d5⟩:=Mk.out _ hB;by_cases hp:k<h.bs.length
    .obtain⟨b,o,g8,hS,hb⟩:=f7 oM;subst g8;obtain⟨p,q,c,g,r,d,⟨e0,e1,e2,e3,e4,e5⟩,-⟩:=(hS.at hp).open;have b8:h.bs[k]∈h.bs:=List.getElem_mem hp
     have HS:Hid (Bv o1 ((O6 h).take (k+1))=Bv o1 ((O6 h).take k)++(DW h h.bs[k]++⟨#[10]⟩)):=by
      show _=_
      rw[Tv o1 (by simpa [O6] using hp)];simp[O6]
     have hz:(DW h h.bs[k]++⟨#[10]⟩).size<=265:=by rw[ByteArray.size_append];have:=Lq Hok.out b8;show (DW h h.bs[k]).size+1<=265;omega
     have Hbat:Hid (∀W,Up w W->Calls prog 15 #[.agg #[Iz h.now,Iz h.last,Vz a1 h.sh.tg.length c1,Vz a2 h.sh.bs.length c2,Sx b o h.bs.length c3,Vz a4 h.ds.length c4],.agg #[Tz (h.bs[k]).nm,Sx p q (h.bs[k]).ps.length c,Sx g r (h.bs[k]).sl.length d,Tz (h.bs[k]).ad,Iz (h.bs[k]).si,Iz (h.bs[k]).st]] W λe w'=>e=.returned (Tz (DW h h.bs[k]++⟨#[10]⟩))/\Up W w'):=λW hB=>AcI h h.bs[k] a1 a2 (some ⟨b,o,none⟩) a4 c1 c2 c3 c4 p q c g r d W (let q:=HV0.out.up hB;⟨_,_,rfl,q.t,q.b⟩) Hok.out b8;clear b8 hS;generalize DW h h.bs[k]++⟨#[10]⟩=ln at *;generalize h.bs[k]=x0 at *;generalize Bv o1 ((O6 h).take k)=o2 at *;have f8:(9223372036854775807<o2.size+ln.size)=False:=eq_false oM
     have Mk2:Hid (∀X,Up W1 X->(AS X w.heap.size 0 (Iz h.now)/\AS X w.heap.size 1 (Iz h.last)/\AS X w.heap.size 2 (Vz a1 h.sh.tg.length c1)/\AS X w.heap.size 3 (Vz a2 h.sh.bs.length c2)/\AS X w.heap.size 4 (Sx b o h.bs.length c3)/\AS X w.heap.size 5 (Vz a4 h.ds.length c4)/\AS X b (o+k*6) (Tz x0.nm)/\AS X b (o+k*6+1) (Sx p q x0.ps.length c)/\AS X b (o+k*6+2) (Sx g r x0.sl.length d)/\AS X b (o+k*6+3) (Tz x0.ad)/\AS X b (o+k*6+4) (Iz x0.si)/\AS X b (o+k*6+5) (Iz x0.st))):=λX hX=>by
      obtain⟨q0,q1,q2,q3,q4,q5⟩:=Mk.out X hX;have c8:=D3 b3 hX;exact⟨q0,q1,q2,q3,q4,q5,(c8.cell (p:=⟨b,o+k*6,none⟩) hb).trans e0,(c8.cell (p:=⟨b,o+k*6+1,none⟩) hb).trans e1,(c8.cell (p:=⟨b,o+k*6+2,none⟩) hb).trans e2,(c8.cell (p:=⟨b,o+k*6+3,none⟩) hb).trans e3,(c8.cell (p:=⟨b,o+k*6+4,none⟩) hb).trans e4,(c8.cell (p:=⟨b,o+k*6+5,none⟩) hb).trans e5⟩
     clear e0 e1 e2 e3 e4 e5;go_upto_region 7 with fail;clear d0 d1 d2 d3 d4 d5;have a7:=hB.drew;have a0:=Mk2.out _ a7;have e8:=D3 b3 a7;refine L6 99 (λw'=>(AS w' w.heap.size 0 (Iz h.now)/\AS w' w.heap.size 1 (Iz h.last)/\AS w' w.heap.size 2 (Vz a1 h.sh.tg.length c1)/\AS w' w.heap.size 3 (Vz a2 h.sh.bs.length c2)/\AS w' w.heap.size 4 (Sx b o h.bs.length c3)/\AS w' w.heap.size 5 (Vz a4 h.ds.length c4)/\AS w' b (o+k*6) (Tz x0.nm)/\AS w' b (o+k*6+1) (Sx p q x0.ps.length c)/\AS w' b (o+k*6+2) (Sx g r x0.sl.length d)/\AS w' b (o+k*6+3) (Tz x0.ad)/\AS w' b (o+k*6+4) (Iz x0.si)/\AS w' b (o+k*6+5) (Iz x0.st))) sI ?_;generalize wr.drew=X1 at *;refine D8 0 rfl a0 ?_;refine D8 1 rfl a0 ?_;refine D8 2 rfl a0 ?_;refine D8 3 rfl a0 ?_;refine D8 4 rfl a0 ?_;refine D8 5 rfl a0 ?_;refine D8 6 rfl a0 ?_;refine W9 7 rfl (λK hK=>?_);go_simp;go_wp2_with (go_at_call 15;refine (Hbat.out _ e8).mono ?_;rintro e w3 ⟨rfl,c9⟩)
     have b7:=Mk2.out _ (D3 a7 c9);have a9:=D3 a7 c9;refine U4 hK b7 ?_;clear hK K;refine D8 8 rfl b7 ?_;refine W9 9 rfl (λK hK=>?_);go_simp;refine U4 hK b7 ?_;clear hK K;refine O1 sI ?_ _;go_wp2_with fail;go_roundw
     case rel=>exact⟨k+1,oM,mO,by rw[HS.out],a9⟩
     case measure=>simp[intOf];omega
    .have HS:Hid ((O6 h).take k=O6 h):=D0 (by simp[O6];omega);rw[HS.out] at c7 ⊢
     have f3:=c7;generalize Bv o1 (O6 h)=o2 at *;clear HS f7 c7;have h9:o2.size<=1400:=by have:=f3;omega
     go_wp2_with fail;(try dsimp only[Iz,Sy,Sx,Nz,Vz,Tz,Ez,Pz]);go_loopw [3,5,6] (λv i _ w'=>∃j:Nat,j<=h.ds.length/\i=.int .i64 j/\v=Tz (Bv o2 ((P4 h).take j))/\Up W1 w') (λ_ i _ _=>h.ds.length-(intOf i).toNat)
     case atStart=>exact⟨0,oM,rfl,rfl,hB⟩
     case round =>
      clear hB d0 d1 d2 d3 d4 d5;obtain⟨j,hj,rfl,rfl,hB⟩:=hrel
      have c7:=Tw (m:=42) ((P4 h).take j) o2 λs hs=>by
       obtain⟨x,hx,rfl⟩:=List.mem_map.1 (List.mem_of_mem_take hs);exact Mn Hok.out hx
      rw[B8,Nat.min_eq_left (by simpa [P4] using hj)] at c7;obtain⟨d0,d1,d2,d3,d4,d5⟩:=Mk.out _ hB;by_cases hp2:j<h.ds.length
      .obtain⟨b,o,g9,hS,hb⟩:=h0 oM;subst g9;have hr:=(hS j _ (A0 hp2)).1;have d9:=D3 b3 hB;have f0:AS wr b (o+j*3) (Tz (h.ds[j]).nm):=(d9.cell (p:=⟨b,o+j*3,none⟩) hb).trans (hr 0 _ rfl);have f1:AS wr b (o+j*3+1) (Iz (h.ds[j]).e):=(d9.cell (p:=⟨b,o+j*3+1,none⟩) hb).trans (hr 1 _ rfl);have f2:AS wr b (o+j*3+2) (Iz (h.ds[j]).t):=(d9.cell (p:=⟨b,o+j*3+2,none⟩) hb).trans (hr 2 _ rfl);obtain⟨q1,q2,q3,q4,q5⟩:=OA Hok.out (List.getElem_mem hp2)
       have HS:Hid (Bv o2 ((P4 h).take (j+1))=Bv o2 ((P4 h).take j)++(CE h.ds[j]++⟨#[10]⟩)):=by
        show _=_
        rw[Tv o2 (by simpa [P4] using hp2)];simp[P4]
       clear hr hS d9;generalize h.ds[j]=x0 at *;generalize Bv o2 ((P4 h).take j)=o3 at *;obtain⟨k1,e7⟩:∃k1:Nat,x0.e=(k1:Int):=⟨x0.e.toNat,oM⟩;have e6:1<=k1/\k1<=3:=oM
       have HD:Hid (CE x0=x0.nm++⟨#[32]⟩++As (k1:Int)++⟨#[32,97,116,32]⟩++I3 x0.t):=by show _=_;unfold CE;rw[e7];rfl
       rw[e7] at f1;have hz:=Oz (k1:Int);have i0:(I3 x0.t).size<=21:=Bn oM oM;have i1:IntKind.i64.wrap (k1:Int)=(k1:Int):=by rw[IntKind.wrap_i64];omega
       have f8:(9223372036854775807<o3.size+x0.nm.size)=False:=eq_false oM;have h3:(9223372036854775807<o3.size+x0.nm.size+1)=False:=eq_false oM;have h4:(9223372036854775807<o3.size+x0.nm.size+1+(As (k1:Int)).size)=False:=eq_false oM;have h5:(9223372036854775807<o3.size+x0.nm.size+1+(As (k1:Int)).size+4)=False:=eq_false oM;have i2:(9223372036854775807<o3.size+x0.nm.size+1+(As (k1:Int)).size+4+(I3 x0.t).size)=False:=eq_false oM;have i3:(9223372036854775807<o3.size+x0.nm.size+1+(As (k1:Int)).size+4+(I3 x0.t).size+1)=False:=eq_false oM;clear e7 q2 q3;have r1:Up W1 (wr.alloc (Kz [Tz x0.nm,Iz (k1:Int),Iz x0.t] 54)):=hB.alloc hB.size _;have hX:CB (wr.alloc (Kz [Tz x0.nm,Iz (k1:Int),Iz x0.t] 54)) wr.heap.size [Tz x0.nm,Iz (k1:Int),Iz x0.t]:=E9 wr _ _;go_upto_region 12 with fail;generalize wr.alloc (Kz [Tz x0.nm,Iz (k1:Int),Iz x0.t] 54)=W2 at *;have f4:=hX.2.2
       have Mk3:Hid (∀X,Up W2 X->(AS X wr.heap.size 0 (Tz x0.nm)/\AS X wr.heap.size 1 (Iz (k1:Int))/\AS X wr.heap.size 2 (Iz x0.t))):=λX b4=>by
        obtain⟨⟨g0,g1,g2⟩,-⟩:=(hX.up b4 f4).c3;exact⟨g0,g1,g2⟩
       clear d0 d1 d2 d3 d4 d5 f0 f1 f2 hX;have a7:Up W2 W2.drew:=(A4 _ _).drew;have a0:=Mk3.out _ a7;refine L6 99 (λw'=>(AS w' wr.heap.size 0 (Tz x0.nm)/\AS w' wr.heap.size 1 (Iz (k1:Int))/\AS w' wr.heap.size 2 (Iz x0.t))) sI ?_;generalize W2.drew=X1 at *;refine D8 0 rfl a0 ?_;refine D8 1 rfl a0 ?_;refine D8 2 rfl a0 ?_;refine D8 3 rfl a0 ?_;refine D8 4 rfl a0 ?_;refine D8 6 rfl a0 ?_;refine D8 7 rfl a0 ?_;refine D8 12 rfl a0 ?_;refine D8 13 rfl a0 ?_;refine Ab3 (i:=5) (j:=14) sI rfl rfl (λK hK=>?_) (λK hK=>?_)
       .go_simp;obtain⟨X2,b4,b5,b6⟩:∃X2,X1.alloc (Kz [Ez,Tz ⟨#[103,111,111,100]⟩,Tz ⟨#[115,97,118,101,100]⟩,Tz ⟨#[115,99,114,97,112,112,101,100]⟩] 9)=X2/\Up X1 X2/\X2.heap[X1.heap.size]?=some (.cells Yj 9 (0,0)):=⟨_,rfl,(A4 _ _).alloc (A3 _) _,LZ _ _⟩;have b9:X1.heap.size<X2.heap.size:=(D1.1 b6).1;have d7:X2.cell? ⟨X1.heap.size,k1,none⟩=some (Tz (As (k1:Int))):=by simp only[World.cell?,b6];exact Tx k1 e6.1 e6.2
        rw[b4];clear b4 b6;have a5:=D3 a7 b5;have d8:=Mk3.out _ a5;refine U4 hK d8 ?_;clear hK K
        have Mk4:Hid (∀X,Up X2 X->(AS X wr.heap.size 0 (Tz x0.nm)/\AS X wr.heap.size 1 (Iz (k1:Int))/\AS X wr.heap.size 2 (Iz x0.t)/\AS X X1.heap.size k1 (Tz (As (k1:Int))))):=λX hX=>by
         obtain⟨q0,q1,q2⟩:=Mk3.out X (D3 a5 hX);exact⟨q0,q1,q2,(hX.cell (p:=⟨X1.heap.size,k1,none⟩) b9).trans d7⟩
        refine Mp (S':=λw'=>(AS w' wr.heap.size 0 (Tz x0.nm)/\AS w' wr.heap.size 1 (Iz (k1:Int))/\AS w' wr.heap.size 2 (Iz x0.t)/\AS w' X1.heap.size k1 (Tz (As (k1:Int))))) (λ_ h=>⟨h.1,h.2.1,h.2.2.1⟩) ?_;have a6:=Mk4.out _ (A4 _ _);clear a0 d8 d7;refine D8 8 rfl a6 ?_ (v:=Pz X1.heap.size k1) (hy:=λw _=>by go_simp;intro hx;omega);refine D8 9 rfl a6 ?_;refine D8 10 rfl a6 ?_;refine D8 11 rfl a6 ?_;refine W9 14 rfl (λK hK=>?_);go_simp;go_wp2_with (go_at_call 13;refine (KF x0.t X2 oM oM).mono ?_;rintro e w5 ⟨rfl,c5⟩)
        have a8:=Mk4.out _ c5;have f5:Up W1 w5:=D3 r1 (D3 a5 c5);refine U4 hK a8 ?_;clear hK K;refine D8 15 rfl a8 ?_;refine D8 16 rfl a8 ?_;refine W9 17 rfl (λK hK=>?_);go_simp;refine U4 hK a8 ?_;clear hK K;refine O1 sI ?_ _;clear Mk3 Mk4;go_wp2_with fail;go_roundw
        case rel=>exact⟨j+1,oM,mO,by rw[HS.out,HD.out];simp only[ByteArray.append_assoc],f5⟩
        case measure=>simp[intOf];omega
       .go_simp;go_wp2_with (go_at_call 13;refine (KF x0.t X1 oM oM).mono ?_;rintro e w5 ⟨rfl,c5⟩)
        have b0:=D3 a7 c5;have a8:=Mk3.out _ b0;refine U4 hK a8 ?_;clear hK K;refine W9 5 rfl (λK hK=>?_);go_simp;obtain⟨X2,b4,b5,b6⟩:∃X2,w5.alloc (Kz [Ez,Tz ⟨#[103,111,111,100]⟩,Tz ⟨#[115,97,118,101,100]⟩,Tz ⟨#[115,99,114,97,112,112,101,100]⟩] 9)=X2/\Up w5 X2/\X2.heap[w5.heap.size]?=some (.cells Yj 9 (0,0)):=⟨_,rfl,(A4 _ _).alloc (A3 _) _,LZ _ _⟩;have b9:w5.heap.size<X2.heap.size:=(D1.1 b6).1;have d7:X2.cell? ⟨w5.heap.size,k1,none⟩=some (Tz (As (k1:Int))):=by simp only[World.cell?,b6];exact Tx k1 e6.1 e6.2
        rw[b4];clear b4 b6;have a5:=D3 b0 b5;have d8:=Mk3.out _ a5;refine U4 hK d8 ?_;clear hK K
        have Mk4:Hid (∀X,Up X2 X->(AS X wr.heap.size 0 (Tz x0.nm)/\AS X wr.heap.size 1 (Iz (k1:Int))/\AS X wr.heap.size 2 (Iz x0.t)/\AS X w5.heap.size k1 (Tz (As (k1:Int))))):=λX hX=>by
         obtain⟨q0,q1,q2⟩:=Mk3.out X (D3 a5 hX);exact⟨q0,q1,q2,(hX.cell (p:=⟨w5.heap.size,k1,none⟩) b9).trans d7⟩
        refine Mp (S':=λw'=>(AS w' wr.heap.size 0 (Tz x0.nm)/\AS w' wr.heap.size 1 (Iz (k1:Int))/\AS w' wr.heap.size 2 (Iz x0.t)/\AS w' w5.heap.size k1 (Tz (As (k1:Int))))) (λ_ h=>⟨h.1,h.2.1,h.2.2.1⟩) ?_;have a6:=Mk4.out _ (A4 _ _);clear a0 d8 a8 d7;have f5:Up W1 X2:=D3 r1 a5;refine D8 8 rfl a6 ?_ (v:=Pz w5.heap.size k1) (hy:=λw _=>by go_simp;intro hx;omega);refine D8 9 rfl a6 ?_;refine D8 10 rfl a6 ?_;refine D8 11 rfl a6 ?_;refine D8 15 rfl a6 ?_;refine D8 16 rfl a6 ?_;refine W9 17 rfl (λK hK=>?_);go_simp;refine U4 hK a6 ?_;clear hK K;refine O1 sI ?_ _;clear Mk3 Mk4;go_wp2_with fail;go_roundw
        case rel=>exact⟨j+1,oM,mO,by rw[HS.out,HD.out];simp only[ByteArray.append_assoc],f5⟩
        case measure=>simp[intOf];omega
      .have HS:Hid ((P4 h).take j=P4 h):=D0 (by simp[P4];omega);rw[HS.out];go_wp2_with fail;go_ret;exact⟨by rw[HB.out];rfl,D3 b3 hB⟩
end Bd
end Go.Proofs.YtaffjphkobhagaaGreatDoor
