/- Books that are the same, by the law. -/
import Derived.Test.YtcgkgmmclfeohaaGreatDoorJ3
import Derived.Test.YtcgkgmmclfeohaaGreatDoorJ7
namespace Go.Proofs.YtcgkgmmclfeohaaGreatDoor
open Go.Proofs.Tryz
open Go.RowKit
set_option maxRecDepth 20000 in
set_option maxHeartbeats 8000000 in
theorem MU(b:Bk)(u v:Value)(w:World)(h:K6 w u b)(h2:K6 w v b):
  Calls prog 13 #[u,v] w λe w'=>e=.returned (.bool true)/\Up w w':=by
 obtain⟨a1,c1,a2,c2,rfl,l1,m1⟩:=h.parts;obtain⟨a3,c3,a4,c4,rfl,l2,m2⟩:=h2.parts;clear h h2;go_in;go_upto_region 1 with fail;obtain⟨W1,b9,kA,kX,b4,c7⟩:=cbE2 w [Vz a1 b.tg.length c1,Vz a2 b.bs.length c2] 26 [Vz a3 b.tg.length c3,Vz a4 b.bs.length c4] 26;try rw[b9]
 clear b9;obtain⟨p0,p1⟩:=kA.c2';obtain⟨q0,q1⟩:=kX.c2';go_wp2_with fail;refine (IE b.tg _ _ _ (l1.up b4) (l2.up b4)).mono ?_;rintro e w2 ⟨rfl,b3⟩;have d0:=b3.size;have kA:=kA.up b3 (by omega);have kX:=kX.up b3 (by omega);have b8:=D4 b4 b3;have m1:=m1.up b8;have m2:=m2.up b8;clear p0 p1 q0 q1 b3 b4 c7;obtain⟨p0,p1⟩:=kA.c2';obtain⟨q0,q1⟩:=kX.c2';obtain⟨hn,b2⟩:=m1.at;obtain⟨-,b0⟩:=m2.at;have c6:=kA.2.2;have c9:=kX.2.2;unfold maxLen at hn;go_wp2_with fail;(try dsimp only[Iz,Sz,Sy,Nz,Vz,Tz,Ez,Pz]);go_loopw [5] (λi w'=>∃k:Nat,k<=b.bs.length/\i=.int .i64 k/\Up w2 w') (λi _=>b.bs.length-(intOf i).toNat)
 case atStart=>exact⟨0,by omega,rfl,A4 _ _⟩
 case round =>
  obtain⟨k,hk,rfl,hB⟩:=hrel;have r1:=(hB.cell (p:=⟨w.heap.size,1,none⟩) c6).trans p1;by_cases hp:k<b.bs.length
  ·obtain⟨g,p,rfl,hS,hb⟩:=b2 (by omega);obtain⟨g',p',rfl,c5,b7⟩:=b0 (by omega);obtain⟨a5,d5,a6,d6,e3,e4,e5,l3,l4,-⟩:=(hS.at hp).cells;obtain⟨a7,d7,a8,d8,e6,e7,e8,l5,l6,-⟩:=(c5.at hp).cells;generalize b.bs[k]=x0 at *;have Mk:Hid (∀X,Up w2 X->(At X w.heap.size 1 (Sy g p b.bs.length c2)/\At X (w.heap.size+1) 1 (Sy g' p' b.bs.length c4)/\At X g (p+k*3) (Tz x0.nm)/\At X g (p+k*3+1) (Vz a5 x0.has.length d5)/\At X g (p+k*3+2) (Vz a6 x0.nd.length d6)/\At X g' (p'+k*3) (Tz x0.nm)/\At X g' (p'+k*3+1) (Vz a7 x0.has.length d7)/\At X g' (p'+k*3+2) (Vz a8 x0.nd.length d8))):=λX hX=>⟨(hX.cell (p:=⟨w.heap.size,1,none⟩) c6).trans p1,(hX.cell (p:=⟨w.heap.size+1,1,none⟩) c9).trans q1,(hX.cell (p:=⟨g,p+k*3,none⟩) hb).trans e3,(hX.cell (p:=⟨g,p+k*3+1,none⟩) hb).trans e4,(hX.cell (p:=⟨g,p+k*3+2,none⟩) hb).trans e5,(hX.cell (p:=⟨g',p'+k*3,none⟩) b7).trans e6,(hX.cell (p:=⟨g',p'+k*3+1,none⟩) b7).trans e7,(hX.cell (p:=⟨g',p'+k*3+2,none⟩) b7).trans e8⟩;clear e3 e4 e5 e6 e7 e8 hS c5 p0 q0 p1 q1 b2 b0;go_upto_region 6 with fail;clear r1;go_cut [72] (λv72 wc=>v72=.bool false/\Up w2 wc)
   case first =>
    have a0:=Mk.out wr.drew hB.drew;refine T9 99 (λw'=>(At w' w.heap.size 1 (Sy g p b.bs.length c2)/\At w' (w.heap.size+1) 1 (Sy g' p' b.bs.length c4)/\At w' g (p+k*3) (Tz x0.nm)/\At w' g (p+k*3+1) (Vz a5 x0.has.length d5)/\At w' g (p+k*3+2) (Vz a6 x0.nd.length d6)/\At w' g' (p'+k*3) (Tz x0.nm)/\At w' g' (p'+k*3+1) (Vz a7 x0.has.length d7)/\At w' g' (p'+k*3+2) (Vz a8 x0.nd.length d8))) (by kernel_rfl) ?_;refine I2 0 rfl a0 ?_;refine I2 1 rfl a0 ?_;refine I2 2 rfl a0 ?_;refine I2 3 rfl a0 ?_;refine I2 4 rfl a0 ?_;refine I2 5 rfl a0 ?_;refine I2 6 rfl a0 ?_;refine I2 7 rfl a0 ?_;refine I2 8 rfl a0 ?_;refine I2 9 rfl a0 ?_;refine I2 10 rfl a0 ?_;refine I2 11 rfl a0 ?_;refine I2 12 rfl a0 ?_;refine I2 13 rfl a0 ?_;refine I2 14 rfl a0 ?_;refine I2 15 rfl a0 ?_;refine I2 16 rfl a0 ?_;refine I2 17 rfl a0 ?_;refine I2 18 rfl a0 ?_;refine I2 19 rfl a0 ?_;refine I2 20 rfl a0 ?_;refine I2 21 rfl a0 ?_;refine I2 22 rfl a0 ?_;refine I2 23 rfl a0 ?_;refine I2 24 rfl a0 ?_;refine I2 25 rfl a0 ?_;refine T0 26 rfl (λK hK=>?_);go_simp;go_wp2_with (go_at_call 35;refine (IE x0.has _ _ _ (l3.up hB.drew) (l5.up hB.drew)).mono ?_;rintro e w5 ⟨rfl,b1⟩;have b1:=D4 hB.drew b1;have a9:=Mk.out _ b1)
    refine Y1 hK a9 ?_;clear hK K;refine I2 27 rfl a9 ?_;refine I2 28 rfl a9 ?_;refine I2 29 rfl a9 ?_;refine I2 30 rfl a9 ?_;refine I2 31 rfl a9 ?_;refine I2 32 rfl a9 ?_;refine I2 33 rfl a9 ?_;refine I2 34 rfl a9 ?_;refine I2 35 rfl a9 ?_;refine I2 36 rfl a9 ?_;refine I2 37 rfl a9 ?_;refine I2 38 rfl a9 ?_;refine I2 39 rfl a9 ?_;refine I2 40 rfl a9 ?_;refine I2 41 rfl a9 ?_;refine T0 42 rfl (λK hK=>?_);go_simp;go_wp2_with (go_at_call 35;refine (IE x0.nd _ _ _ (l4.up b1) (l6.up b1)).mono ?_;rintro e w6 ⟨rfl,b5⟩;have b5:=D4 b1 b5;have b6:=Mk.out _ b5)
    refine Y1 hK b6 ?_;clear hK K;refine I2 43 rfl b6 ?_;refine T0 44 rfl (λK hK=>?_);go_simp;refine Y1 hK b6 ?_;clear hK K;refine Y2 (by kernel_rfl) ?_ _;clear a0 a9 b6 Mk;go_wp2_with fail;go_meet
    case rel=>exact⟨rfl,b5⟩
   case rest =>
    obtain⟨rfl,c8⟩:=hcut;go_wp2_with fail;go_roundw
    case rel=>exact⟨k+1,by omega,by go_num,c8⟩
    case measure=>simp[intOf];omega
  ·go_wp2_with fail;go_ret;exact⟨rfl,D4 b8 hB⟩
end Go.Proofs.YtcgkgmmclfeohaaGreatDoor
