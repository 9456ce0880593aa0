/- The specification's ShareAsk. -/
import Derived.Test.YtcgkgmmclfeohaaGreatDoorJ21
import Derived.Test.YtcgkgmmclfeohaaGreatDoorJ20
namespace Go.Proofs.YtcgkgmmclfeohaaGreatDoor
open Go.Proofs.Tryz
open Go.RowKit
variable{ss:List BA}{base:Nat}{u:Value}{w:World}
theorem G3.txt(h:G3 w base u ss)(hn:NN u):GL w u ss:=by
 rcases h.lst with⟨h0,_⟩|h1
 ·obtain⟨g,n,c,rfl⟩:=hn;cases h0
 ·exact h1
def CU(b:Bk)(nm:BA)(tg:List BA)(cd:Int)(b':Bk):Prop :=
 (J6 b=false/\cd=1/\b'=Z7)∨
 (J6 b=true/\D7 (I3 b.bs) nm=false/\cd=3/\b'=b)∨
 (J6 b=true/\D7 (I3 b.bs) nm=true/\pB (J3 tg (N8 b nm))=false/\cd=2/\b'=b)∨
 (J6 b=true/\D7 (I3 b.bs) nm=true/\pB (J3 tg (N8 b nm))=true/\Z8 b.bs (F3 b nm:Int) tg/\cd=5/\b'=b)∨
 (J6 b=true/\D7 (I3 b.bs) nm=true/\pB (J3 tg (N8 b nm))=true/\¬Z8 b.bs (F3 b nm:Int) tg/\(∃ss,Y3 b ss true)/\(∃ss,Y3 (X8 b (F3 b nm) (P7 tg)) ss false)/\cd=6/\b'=b)∨
 (J6 b=true/\D7 (I3 b.bs) nm=true/\pB (J3 tg (N8 b nm))=true/\¬Z8 b.bs (F3 b nm:Int) tg/\((∃ss,Y3 b ss false)∨∃ss,Y3 (X8 b (F3 b nm) (P7 tg)) ss true)/\cd=0/\b'=X8 b (F3 b nm) (P7 tg))
set_option maxRecDepth 20000 in
set_option maxHeartbeats 4000000 in
theorem LR(b:Bk)(v nv:Value)(nm:BA)(tg:List BA)(w:World)(h:K6 w v b)(hN:Ls w nv tg)(hnn:tg.length<=1048576):
  Calls prog 8 #[v,.string nm,nv] w λe w'=>(∃v' cd b',e=.returned (.tuple #[v',.int .i64 cd])/\CU b nm tg cd b'/\N4 w' w.heap.size v' b')/\Up w w':=by
 have h5:=h.szb;obtain⟨a1,c1,a2,c2,rfl,t1,-⟩:=h.parts;obtain⟨a9,c9,rfl,-,k0,-⟩:=id hN;obtain⟨ii,hi,m6,m7,m8⟩:=info_parts CR;obtain⟨W1,i2,kA,kR,f2,m9⟩:=cbE2 w [.slice a1 (b).tg.length c1,.slice a2 (b).bs.length c2] 26 [.slice none 0 0,.slice none 0 0] 26;go_in;go_upto_region 1 with fail;try rw[i2]
 clear i2;have hk:=h.up f2;have hN:=hN.up f2;have t1:=t1.up f2;clear h;obtain⟨e0,e1⟩:=kA.c2';go_wp2_with fail;refine (DF b _ _ hk).mono ?_;rintro e w2 ⟨rfl,d3⟩;have n2:=d3.size;have kA:=kA.up d3 (by omega);have kR:=kR.up d3 (by omega);have hk:=hk.up d3;have hN:=hN.up d3;have t1:=t1.up d3;have hB:=D4 f2 d3;clear e0 e1 f2 d3;cases hok:J6 b
 ·obtain⟨⟨y0,y1⟩,f0,f1⟩:=kR.c2;have HA:Hid (CU b nm tg 1 Z7):=.inl ⟨hok,rfl,rfl⟩;go_wp2_with fail;refine U2 results8 underlying26 rfl M4 kR rfl rfl ?_;exact⟨⟨_,_,_,rfl,HA.out,Jr _ _⟩,I4 hB (Nat.le_succ _) _ _⟩
 obtain⟨e0,e1⟩:=kA.c2';go_wp2_with fail;refine (Io b _ _ hk (Ad hok)).mono ?_;rintro e w3 ⟨⟨xv,rfl,hX⟩,d4⟩;obtain⟨a3,c3,a4,c4,ps,rfl,x1,x2,x3⟩:=hX.parts;have n3:=d4.size;have kA:=kA.up d4 (by omega);have kR:=kR.up d4 (by omega);have hk:=hk.up d4;have hN:=hN.up d4;have t1:=t1.up d4;have hB:=D4 hB d4;clear e0 e1 d4 hX;go_upto_region 4 with fail;obtain⟨W4,i3,kX,d1,n0⟩:=cbE1 w3 [.slice a3 b.tg.length c3,.slice a4 b.bs.length c4] 26;rw[i3];clear i3;have kA:=kA.up d1 (by omega);have kR:=kR.up d1 (by omega);have hk:=hk.up d1;have hN:=hN.up d1;have t1:=t1.up d1;have hB:=D4 hB d1;have X1:=x1;have X2:=x2;have hL:=d1;clear d1 x1 x2;obtain⟨e0,e1⟩:=kA.c2';go_wp2_with fail;refine (GY b _ nm _ hk).mono ?_;rintro e w5 ⟨rfl,c6⟩;have n4:=c6.size;have kA:=kA.up c6 (by omega);have kR:=kR.up c6 (by omega);have kX:=kX.up c6 (by omega);have hk:=hk.up c6;have hN:=hN.up c6;have hB:=D4 hB c6;have hL:=D4 hL c6;have HOK:Hid (J6 b=true):=hok;clear e0 e1 c6 t1
 have f7:∀(W:World),Up w5 W->N4 ((W.setCell ⟨w.heap.size+1,0,none⟩ (.slice a3 b.tg.length c3)).setCell ⟨w.heap.size+1,1,none⟩ (.slice a4 b.bs.length c4)) w.heap.size (.agg #[.slice a3 b.tg.length c3,.slice a4 b.bs.length c4]) b:=λW hb=>by
  have hl:=D4 hL hb;exact ((N4.set (N4.set ⟨_,_,ps,rfl,X1.up hl,X2.up hl,x3⟩ (by omega)) (by omega)).low (by omega))
 have Hback:Hid (∀(W:World),Up w5 W->N4 ((W.setCell ⟨w.heap.size+1,0,none⟩ (.slice a3 b.tg.length c3)).setCell ⟨w.heap.size+1,1,none⟩ (.slice a4 b.bs.length c4)) w.heap.size (.agg #[.slice a3 b.tg.length c3,.slice a4 b.bs.length c4]) b):=f7;clear f7;cases hm:D7 (I3 b.bs) nm
 ·have HA:Hid (CU b nm tg 3 b):=.inr (.inl ⟨hok,hm,rfl,rfl⟩);rw[Cd hm];obtain⟨⟨y0,y1⟩,f0,f1⟩:=kR.c2;obtain⟨⟨z0,z1⟩,-⟩:=kX.c2;go_wp2_with fail;refine U2 results8 underlying26 rfl M4 kR rfl rfl ?_;exact⟨⟨_,_,_,rfl,HA.out,Hback.out _ (A4 _ _)⟩,I4 hB (Nat.le_succ _) _ _⟩
 obtain⟨g9,h0⟩:=BI hm;rw[g9];have HA2:Hid (pB (J3 tg (N8 b nm))=false->CU b nm tg 2 b):=λh=>.inr (.inr (.inl ⟨hok,hm,h,rfl,rfl⟩));have HA5:Hid (pB (J3 tg (N8 b nm))=true->Z8 b.bs (F3 b nm:Int) tg->CU b nm tg 5 b):=λh h2=>.inr (.inr (.inr (.inl ⟨hok,hm,h,h2,rfl,rfl⟩)));have HA6:Hid (pB (J3 tg (N8 b nm))=true->¬Z8 b.bs (F3 b nm:Int) tg->(∃ss,Y3 b ss true)->(∃ss,Y3 (X8 b (F3 b nm) (P7 tg)) ss false)->CU b nm tg 6 b):=λh h2 h3 h4=>.inr (.inr (.inr (.inr (.inl ⟨hok,hm,h,h2,h3,h4,rfl,rfl⟩))));have HA0:Hid (pB (J3 tg (N8 b nm))=true->¬Z8 b.bs (F3 b nm:Int) tg->((∃ss,Y3 b ss false)∨∃ss,Y3 (X8 b (F3 b nm) (P7 tg)) ss true)->CU b nm tg 0 (X8 b (F3 b nm) (P7 tg))):=λh h2 h3=>.inr (.inr (.inr (.inr (.inr ⟨hok,hm,h,h2,h3,rfl,rfl⟩))));have Hna:Hid (N8 b nm=(b.bs[F3 b nm]).nd):=BL (A0 h0);generalize F3 b nm=p at *;obtain⟨s1,s2,s3⟩:=Ai (Ad hok);obtain⟨s4,s5⟩:=s3 b.bs[p] (by simp);have i7:=h5.2 b.bs[p] (by simp);obtain⟨-,f3⟩:=hk.bsOf.at;obtain⟨bb,o,rfl,hS,n1⟩:=f3 (by omega);obtain⟨a5,d5,a6,d6,-,-,q5,-,l6,-⟩:=(hS.at h0).cells;have HX0:Hid (b.bs[p]?=some b.bs[p]):=A0 h0;generalize b.bs[p]=x0 at *;obtain⟨e0,e1⟩:=kA.c2';go_wp2_with fail;refine (De tg x0.nd _ _ _ hN l6).mono ?_;rintro e w6 ⟨rfl,md,j5⟩;have b8:Up w5 w6:=by rw[j5];exact N0 (A4 _ _) md
 have n5:=b8.size;have kA:=kA.up b8 (by omega);have kR:=kR.up b8 (by omega);have kX:=kX.up b8 (by omega);have hN:=hN.up b8;have hk:=hk.up b8;have hB:=D4 hB b8;clear j5 e0 e1 q5 l6 hS f3;cases hpt:pB (J3 tg x0.nd)
 ·have HA:Hid (CU b nm tg 2 b):=HA2.out (by rw[Hna.out];exact hpt);obtain⟨⟨y0,y1⟩,f0,f1⟩:=kR.c2;obtain⟨⟨z0,z1⟩,-⟩:=kX.c2;go_wp2_with fail;refine U2 results8 underlying26 rfl M4 kR rfl rfl ?_;exact⟨⟨_,_,_,rfl,HA.out,Hback.out _ b8⟩,I4 hB (Nat.le_succ _) _ _⟩
 have Hpt:Hid (pB (J3 tg (N8 b nm))=true):=by show _=_;rw[Hna.out];exact hpt
 have Hpart:Hid (J3 tg x0.nd):=U9.1 hpt;clear hpt HA2;obtain⟨e0,e1⟩:=kA.c2';go_wp2_with fail;refine (TQ b _ _ p tg _ hk hN).mono ?_;rintro e w7 ⟨rfl,d0⟩;have n6:=d0.size;have kA:=kA.up d0 (by omega);have kR:=kR.up d0 (by omega);have kX:=kX.up d0 (by omega);have hN:=hN.up d0;have hk:=hk.up d0;have hB:=D4 hB d0;have c5:=D4 b8 d0;clear e0 e1 b8 d0;cases htk:pB (Z8 b.bs (p:Int) tg)
 case true =>
  have HA:Hid (CU b nm tg 5 b):=HA5.out Hpt.out (U9.1 htk);obtain⟨⟨y0,y1⟩,f0,f1⟩:=kR.c2;obtain⟨⟨z0,z1⟩,-⟩:=kX.c2;go_wp2_with fail;refine U2 results8 underlying26 rfl M4 kR rfl rfl ?_;exact⟨⟨_,_,_,rfl,HA.out,Hback.out _ c5⟩,I4 hB (Nat.le_succ _) _ _⟩
 have Htk:Hid (¬Z8 b.bs (p:Int) tg):=Cc.1 htk;clear htk HA5;obtain⟨e0,e1⟩:=kA.c2';go_wp2_with fail;refine (Jv b _ _ hk (by omega) (by omega) (λy hy=>by have:=s3 y hy;omega)).mono ?_;rintro e w8 ⟨⟨tu,bu,qs,rfl,y1,y2,y3,-,j6⟩,b9⟩;have l0:=kA;have l1:=kR;have l2:=kX;have l3:=hk;have l4:=hN;have l5:=hB;obtain⟨a7,c7,rfl⟩:=y1.lst.shape;have h6:qs.length=b.bs.length:=by rw[← y3,B5]
 obtain⟨g,c8,i4⟩:=U5 y2.1 (by omega);rw[h6] at i4;subst i4;have l7:=b9.size;have kA:=kA.up b9 (by omega);have kR:=kR.up b9 (by omega);have kX:=kX.up b9 (by omega);have hN:=hN.up b9;have hk:=hk.up b9;have hB:=D4 hB b9;have l8:=D4 c5 b9;have h7:=b9;have i8:=l0;have i9:=l1;have j0:=l2;have j1:=l3;have l9:=l4;have j2:=l5;have m0:=y2.1.lt g rfl;have f8:=c5;clear e0 e1 c5 b9;go_upto_region 12 with fail;obtain⟨W9,i5,kY,d8,k1⟩:=cbE1 w8 [.slice a7 b.tg.length c7,.slice (some ⟨g,0,none⟩) b.bs.length c8] 26;rw[i5];clear i5
 obtain⟨⟨a0,g5,d9⟩,f4,k2⟩:∃pv:Bv,qs[p]?=some pv/\pv.1=x0:=by
  have h:=HX0.out;rw[← y3,B3,B6] at h;exact h
 obtain rfl:a0=x0:=k2;have h8:=y2.2 _ (A6 f4);have Hnn0:Hid (NN g5):=j6 _ (A6 f4);have Hqv:Hid (qs[p]?=some (a0,g5,d9)):=f4;have e3:=y2.1;rw[h6] at e3
 have d2:qs.set p (a0,g5,d9)=qs:=List.ext_getElem? λj=>by
  rw[List.getElem?_set];by_cases e:p=j
  ·subst e;rw[if_pos rfl,if_pos (by omega),f4]
  ·rw[if_neg e]
 have f9:Up w7 W9:=h7.trans (d8.mono l7);have g7:(Value.slice (some ⟨g,0,none⟩) b.bs.length c8).ownBlock=some g:=rfl;have n7:=Ac Hpart.out;obtain⟨-,-,f5⟩:=l9.inv;have Hxn:Hid (a0.nm.size<=maxLen):=h8.2.2;clear kA kR kX hN hk hB f4 j6;go_wp2_with fail
 (try dsimp only[Iz,Sz,Sy,Nz,Vz,Tz,Ez,Pz]);go_loopw [11] (λi w'=>∃(k:Nat)(hv:Value),k<=tg.length/\i=.int .i64 k/\w'.ownsRow w7.heap.size 57 3 (.slice (some ⟨g,0,none⟩) b.bs.length c8) b.bs.length (E4 (qs.set p ((⟨a0.nm,Y8 a0.has (tg.take k),a0.nd⟩,hv,d9):Bv)))/\G3 w' w7.heap.size hv (Y8 a0.has (tg.take k))/\NN hv/\
   (∀q∈qs,G3 w' w7.heap.size q.2.1 q.1.has/\G3 w' w7.heap.size q.2.2 q.1.nd/\q.1.nm.size<=maxLen)/\CB w' w8.heap.size [.slice a7 b.tg.length c7,.slice (some ⟨g,0,none⟩) b.bs.length c8]/\G3 w' w7.heap.size (.slice a7 b.tg.length c7) b.tg/\Up w7 w') (λi _=>tg.length-(intOf i).toNat)
 case atStart=>exact⟨0,g5,by omega,rfl,by rw[show (⟨a0.nm,Y8 a0.has (tg.take 0),a0.nd⟩:Ba)=a0 from rfl,d2];exact P0 e3 d8,h8.1.up d8,Hnn0.out,λq hq=>by
   obtain⟨q1,q2,q3⟩:=y2.2 q hq;exact⟨q1.up d8,q2.up d8,q3⟩,kY,y1.up d8,f9⟩
 case round =>
  clear kY d8 f9 e3 h8 y1 y2 d2 k1;obtain⟨k,hv,hk,rfl,e2,e9,hnn,a8,kY,g6,b2⟩:=hrel;obtain⟨gh,nh,ch,rfl⟩:=hnn;by_cases hp:k<tg.length
  ·obtain⟨tb,f6,rfl,k3,i6⟩:=f5 (by omega);have cT:=(b2.cell (p:=⟨tb,f6+k,none⟩) i6).trans (k3.cell hp);have HI:Hid (Y8 a0.has (tg.take (k+1))=U7 (Y8 a0.has (tg.take k)) tg[k]):=TD _ _ _ hp;have m1:(Y8 a0.has (tg.take k)).length<=1000:=B4 (Js _ _) (by rw[B8];omega);generalize tg[k]=s0 at *;have hT:=e9.txt ⟨_,_,_,rfl⟩;generalize Y8 a0.has (tg.take k)=is at *;have e4:(qs.set p ((⟨a0.nm,is,a0.nd⟩,.slice (some ⟨gh,0,none⟩) nh ch,d9):Bv))[p]?=some (⟨a0.nm,is,a0.nd⟩,.slice (some ⟨gh,0,none⟩) nh ch,d9):=by rw[List.getElem?_set,if_pos rfl,if_pos (by omega)]
   have r1:=(e2.cellAt (p*3+1) (by omega)).trans (Bh _ p _ e4 1 _ rfl);obtain⟨⟨z0,z1⟩,-⟩:=kY.c2;have j3:=kY.2.2;have m2:=(e2.lt g rfl).2;have h9:=A1 i6 b2.size;have mk:∀W,Up wr W->World.cell? W ⟨w8.heap.size,1,none⟩=some (.slice (some ⟨g,0,none⟩) b.bs.length c8)/\World.cell? W ⟨g,p*3+1,none⟩=some (.slice (some ⟨gh,0,none⟩) nh ch)/\World.cell? W ⟨tb,f6+k,none⟩=some (.string s0):=λW hb=>⟨(hb.cell (p:=⟨w8.heap.size,1,none⟩) j3).trans z1,(hb.cell (p:=⟨g,p*3+1,none⟩) m2).trans r1,(hb.cell (p:=⟨tb,f6+k,none⟩) h9).trans cT⟩;have Mk:Hid (∀W,Up wr W->World.cell? W ⟨w8.heap.size,1,none⟩=some (.slice (some ⟨g,0,none⟩) b.bs.length c8)/\World.cell? W ⟨g,p*3+1,none⟩=some (.slice (some ⟨gh,0,none⟩) nh ch)/\World.cell? W ⟨tb,f6+k,none⟩=some (.string s0)):=mk;have g8:Up wr wr.drew:=(A4 _ _).drew;have b1:=mk _ g8;clear mk z0 z1 r1 cT;go_wp2_with fail;refine T9 16 (λw'=>World.cell? w' ⟨w8.heap.size,1,none⟩=some (.slice (some ⟨g,0,none⟩) b.bs.length c8)/\World.cell? w' ⟨g,p*3+1,none⟩=some (.slice (some ⟨gh,0,none⟩) nh ch)/\World.cell? w' ⟨tb,f6+k,none⟩=some (.string s0)) (by kernel_rfl) ?_;refine I2 0 rfl b1 ?_;refine I2 1 rfl b1 ?_;refine I2 2 rfl b1 ?_;refine I2 3 rfl b1 ?_;refine I2 4 rfl b1 ?_;refine I2 5 rfl b1 ?_;refine I2 6 rfl b1 ?_;refine I2 7 rfl b1 ?_;refine I2 8 rfl b1 ?_;refine I2 9 rfl b1 ?_;refine I2 10 rfl b1 ?_;refine I2 11 rfl b1 ?_;refine I2 12 rfl b1 ?_;refine T0 13 rfl (λK hK=>?_);go_simp;go_wp2_with (go_at_call 32;refine (Sd is _ s0 _ (hT.up g8) m1).mono ?_;rintro e wi ⟨⟨u,rfl,j7,j8⟩,b3⟩;have b3:=D4 g8 b3;have g0:=Mk.out _ b3)
   obtain⟨gu,cu,k4,-⟩:=id j7;subst k4
   have j4:G3 wi w7.heap.size (.slice (some ⟨gu,0,none⟩) (U7 is s0).length cu) (U7 is s0):=by
    rcases j8 with⟨h1,h2⟩|h
    ·rw[h1,h2];exact e9.up b3
    ·exact N1 h (by have:=b2.size;simpa using this)
   have b0:=P0 e2 b3;have f1:=b0.frozenAt (p*3+1);have r1:=g0.2.1;clear j8 j7 hT e9;refine Y1 hK g0 ?_;clear hK K;refine T0 14 rfl (λK hK=>?_);go_simp;refine Y1 hK g0 ?_;clear hK K;refine I2 15 rfl g0 ?_;refine T0 16 rfl (λK hK=>?_);go_simp;refine GU hK ?_;clear hK K;refine Y2 (by kernel_rfl) ?_ _;have st:=b0.stored (p*3+1) (.slice (some ⟨gu,0,none⟩) (U7 is s0).length cu);rw[Jy _ p _ _ ⟨a0.nm,U7 is s0,a0.nd⟩ e4 rfl,List.set_set] at st;have gr:=st.2;have Hst:=st.1
   have HL:Hid (∀q∈qs,G3 (wi.setCell ⟨g,p*3+1,none⟩ (.slice (some ⟨gu,0,none⟩) (U7 is s0).length cu)) w7.heap.size q.2.1 q.1.has/\G3 (wi.setCell ⟨g,p*3+1,none⟩ (.slice (some ⟨gu,0,none⟩) (U7 is s0).length cu)) w7.heap.size q.2.2 q.1.nd/\q.1.nm.size<=maxLen):=λq hq=>by
    obtain⟨q1,q2,q3⟩:=a8 q hq;exact⟨Aa (q1.up b3) b0 (g7 ▸ gr),Aa (q2.up b3) b0 (g7 ▸ gr),q3⟩
   have i0:=Aa j4 b0 (g7 ▸ gr);have i1:=Aa (g6.up b3) b0 (g7 ▸ gr);have m3:=(kY.up b3 j3).kept gr (by simp;omega);have m4:Up w7 (wi.setCell ⟨g,p*3+1,none⟩ (.slice (some ⟨gu,0,none⟩) (U7 is s0).length cu)):=(b2.trans (b3.mono b2.size)).setCell (p:=⟨g,p*3+1,none⟩) m0.1 _;clear st gr b0 e2 j4 g6 kY a8 b1 g0 r1 f1 Mk e4 g8 b3 b2;go_wp2_with fail;go_roundw
   case rel=>exact⟨k+1,.slice (some ⟨gu,0,none⟩) (U7 is s0).length cu,by omega,by go_num,by rw[HI.out];exact Hst,by rw[HI.out];exact i0,⟨_,_,_,rfl⟩,HL.out,m3,i1,m4⟩
   case measure=>simp[intOf];omega
  ·obtain rfl:k=tg.length:=by omega
   rw[List.take_length] at e2 e9
   have hW:BM wr w7.heap.size (.slice (some ⟨g,0,none⟩) b.bs.length c8) (qs.set p ((P7 tg a0,.slice (some ⟨gh,0,none⟩) nh ch,d9):Bv)):=Ky e2 rfl (by rw[List.length_set,h6]) (λq hq=>by
    rcases List.mem_or_eq_of_mem_set hq with h|rfl
    ·exact a8 q h
    ·exact⟨e9,(a8 _ (A6 Hqv.out)).2.1,Hxn.out⟩)
   have g1:(qs.set p ((P7 tg a0,.slice (some ⟨gh,0,none⟩) nh ch,d9):Bv)).map (·.1)=b.bs.set p (P7 tg a0):=by rw[List.map_set,y3]
   have b4:∀y∈b.bs.set p (P7 tg a0),y∈b.bs∨y=P7 tg a0:=λy hy=>List.mem_or_eq_of_mem_set hy;have g2:N4 wr w7.heap.size (.agg #[.slice a7 b.tg.length c7,.slice (some ⟨g,0,none⟩) b.bs.length c8]) ⟨b.tg,b.bs.set p (P7 tg a0)⟩:=⟨_,_,_,rfl,g6,hW,g1⟩
   have e5:=g2.bk ⟨h5.1,λy hy=>by
    rcases b4 y hy with h|rfl
    ·exact h5.2 y h
    ·exact⟨λs hs=>by
      rcases EV _ _ s hs with h|h
      ·exact i7.1 s h
      ·exact k0 s h,i7.2⟩⟩
   have Hcopy:Hid (∀(v:Value)(w:World),K6 w v ⟨b.tg,b.bs.set p (P7 tg a0)⟩->Calls prog 26 #[v] w λe w'=>(∃v',e=.returned v'/\N4 w' w.heap.size v' ⟨b.tg,b.bs.set p (P7 tg a0)⟩)/\Up w w'):=λv w h=>Ip _ v w h (by show b.tg.length<=100;omega) (by show (b.bs.set p (P7 tg a0)).length<=100;rw[List.length_set];omega) (λy hy=>by
    rcases b4 y hy with h|rfl
    ·have:=s3 y h;omega
    ·have h1:=Js a0.has tg;show (Y8 a0.has tg).length<=100/\a0.nd.length<=100
     omega)
   have Hch:Hid (X8 b p (P7 tg)=⟨b.tg,b.bs.set p (P7 tg a0)⟩):=BQ HX0.out;rw[Hch.out] at HA6 HA0;clear b4 g1 hW g2 g6 e9 a8 e2 Hqv HX0;generalize (⟨b.tg,b.bs.set p (P7 tg a0)⟩:Bk)=b' at *;have kA:=i8.up b2 (by omega);have kR:=i9.up b2 (by omega);have kX:=j0.up b2 (by omega);have hk:=j1.up b2;have hB:=D4 j2 b2;have b5:Up w5 wr:=D4 f8 b2;clear i8 i9 j0 j1 j2;obtain⟨e0,e1⟩:=kA.c2';go_wp2_with fail;refine (KB b _ _ hk).mono ?_;rintro e wa ⟨⟨ss,ok,rfl,g4⟩,e7⟩;have kR:=kR.up e7 kR.2.2;have kX:=kX.up e7 kX.2.2;have kY:=kY.up e7 kY.2.2;have e5:=e5.up e7;have hB:=D4 hB e7;have b5:=D4 b5 e7;clear e0 e1 e7 kA hk;cases ok
   ·have HA:Hid (CU b nm tg 0 b'):=HA0.out Hpt.out Htk.out (.inl ⟨ss,g4⟩);obtain⟨⟨z0,z1⟩,-⟩:=kY.c2;go_wp2_with fail;refine (Hcopy.out _ _ e5).mono ?_;rintro e m5 ⟨⟨v',rfl,hV⟩,b7⟩;obtain⟨k5,k6,k7,k8,k9,rfl,-⟩:=hV.parts;have b6:=kR.up b7 kR.2.2;have g3:=kR.2.2;have e6:=D4 hB b7;clear z0 z1;obtain⟨⟨y0,y1⟩,f0,f1⟩:=b6.c2;go_wp2_with fail;refine U2 results8 underlying26 rfl M4 b6 rfl rfl ?_;exact⟨⟨_,_,_,rfl,HA.out,((N4.set (N4.set hV g3) g3).low (by have:=hB.size;omega))⟩,I4 e6 (Nat.le_succ _) _ _⟩
   ·obtain⟨⟨z0,z1⟩,-⟩:=kY.c2;go_wp2_with fail;refine (KB b' _ _ e5).mono ?_;rintro e wb ⟨⟨j9,Hd,rfl,d7⟩,e8⟩;have kR:=kR.up e8 kR.2.2;have kX:=kX.up e8 kX.2.2;have kY:=kY.up e8 kY.2.2;have e5:=e5.up e8;have hB:=D4 hB e8;have b5:=D4 b5 e8;clear z0 z1 e8;cases Hd
    ·have HA:Hid (CU b nm tg 6 b):=HA6.out Hpt.out Htk.out ⟨ss,g4⟩ ⟨j9,d7⟩;obtain⟨⟨y0,y1⟩,f0,f1⟩:=kR.c2;obtain⟨⟨z0,z1⟩,-⟩:=kX.c2;go_wp2_with fail;refine U2 results8 underlying26 rfl M4 kR rfl rfl ?_;exact⟨⟨_,_,_,rfl,HA.out,Hback.out _ b5⟩,I4 hB (Nat.le_succ _) _ _⟩
    ·have HA:Hid (CU b nm tg 0 b'):=HA0.out Hpt.out Htk.out (.inr ⟨j9,d7⟩);obtain⟨⟨z0,z1⟩,-⟩:=kY.c2;go_wp2_with fail;refine (Hcopy.out _ _ e5).mono ?_;rintro e m5 ⟨⟨v',rfl,hV⟩,b7⟩;obtain⟨k5,k6,k7,k8,k9,rfl,-⟩:=hV.parts;have b6:=kR.up b7 kR.2.2;have g3:=kR.2.2;have e6:=D4 hB b7;clear z0 z1;obtain⟨⟨y0,y1⟩,f0,f1⟩:=b6.c2;go_wp2_with fail;refine U2 results8 underlying26 rfl M4 b6 rfl rfl ?_;exact⟨⟨_,_,_,rfl,HA.out,((N4.set (N4.set hV g3) g3).low (by have:=hB.size;omega))⟩,I4 e6 (Nat.le_succ _) _ _⟩
end Go.Proofs.YtcgkgmmclfeohaaGreatDoor
