/- The specification's ShareLess. -/
import Derived.Test.YtcgkgmmclfeohaaGreatDoorJ21
namespace Go.Proofs.YtcgkgmmclfeohaaGreatDoor
open Go.Proofs.Tryz
open Go.RowKit
set_option maxRecDepth 20000 in
set_option maxHeartbeats 4000000 in
theorem KG(b:Bk)(v nv:Value)(nm:BA)(nd:List BA)(w:World)(h:K6 w v b)(hN:Ls w nv nd)(hnn:nd.length<=1048576):
  Calls prog 10 #[v,Tz nm,nv] w λe w'=>(∃v',e=.returned (.tuple #[v',Iz (AF b nm nd)])/\N4 w' w.heap.size v' (Z5 b nm nd))/\Up w w':=by
 have h2:=h.szb;obtain⟨a1,c1,a2,c2,rfl,t1,-⟩:=h.parts;obtain⟨a9,c9,rfl,-,j9,-⟩:=id hN;obtain⟨ii,hi,l8,l9,m0⟩:=info_parts CR;obtain⟨W1,i1,kA,kR,e5,m1⟩:=cbE2 w [Vz a1 (b).tg.length c1,Vz a2 (b).bs.length c2] 26 [Nz,Nz] 26;go_in;go_upto_region 1 with fail;try rw[i1]
 clear i1;have hk:=h.up e5;have hN:=hN.up e5;have t1:=t1.up e5;clear h;obtain⟨e0,e1⟩:=kA.c2';go_wp2_with fail;refine (DF b _ _ hk).mono ?_;rintro e w2 ⟨rfl,d8⟩;have m4:=d8.size;have kA:=kA.up d8 (by omega);have kR:=kR.up d8 (by omega);have hk:=hk.up d8;have hN:=hN.up d8;have t1:=t1.up d8;have hB:=D4 e5 d8;clear e0 e1 e5 d8;cases hok:J6 b
 ·obtain⟨⟨y0,y1⟩,f0,f1⟩:=kR.c2;have HC:Hid (AF b nm nd=1/\Z5 b nm nd=Z7):=IW hok;go_wp2_with fail;refine U2 results10 underlying26 rfl M4 kR rfl rfl ?_;exact⟨⟨_,Cx HC.out.1.symm,by rw[HC.out.2];exact Jr _ _⟩,I4 hB (Nat.le_succ _) _ _⟩
 obtain⟨e0,e1⟩:=kA.c2';go_wp2_with fail;refine (Io b _ _ hk (Ad hok)).mono ?_;rintro e w3 ⟨⟨xv,rfl,hX⟩,d9⟩;obtain⟨a3,c3,a4,c4,ps,rfl,x1,x2,x3⟩:=hX.parts;have m5:=d9.size;have kA:=kA.up d9 (by omega);have kR:=kR.up d9 (by omega);have hk:=hk.up d9;have hN:=hN.up d9;have t1:=t1.up d9;have hB:=D4 hB d9;clear e0 e1 d9 hX;go_upto_region 4 with fail;obtain⟨W4,i2,kX,d2,m2⟩:=cbE1 w3 [Vz a3 b.tg.length c3,Vz a4 b.bs.length c4] 26;rw[i2];clear i2;have kA:=kA.up d2 (by omega);have kR:=kR.up d2 (by omega);have hk:=hk.up d2;have hN:=hN.up d2;have t1:=t1.up d2;have hB:=D4 hB d2;have X1:=x1;have X2:=x2;have hL:=d2;clear d2 x1 x2;obtain⟨e0,e1⟩:=kA.c2';go_wp2_with fail;refine (GY b _ nm _ hk).mono ?_;rintro e w5 ⟨rfl,b5⟩;have m6:=b5.size;have kA:=kA.up b5 (by omega);have kR:=kR.up b5 (by omega);have kX:=kX.up b5 (by omega);have hk:=hk.up b5;have hN:=hN.up b5;have hB:=D4 hB b5;have hL:=D4 hL b5;have HOK:Hid (J6 b=true):=hok;clear e0 e1 b5 t1
 have e8:∀(W:World)(cd:Int),Up w5 W->AF b nm nd=cd/\Z5 b nm nd=b->∃v',(Ending.returned (.tuple #[.agg #[Vz a3 b.tg.length c3,Vz a4 b.bs.length c4],Iz cd])=Ending.returned (.tuple #[v',Iz (AF b nm nd)]))/\
   N4 ((W.setCell ⟨w.heap.size+1,0,none⟩ (Vz a3 b.tg.length c3)).setCell ⟨w.heap.size+1,1,none⟩ (Vz a4 b.bs.length c4)) w.heap.size v' (Z5 b nm nd):=λW cd hb hc=>by
  have hl:=D4 hL hb;refine⟨_,Cx hc.1.symm,?_⟩;rw[hc.2];exact ((N4.set (N4.set ⟨_,_,ps,rfl,X1.up hl,X2.up hl,x3⟩ (by omega)) (by omega)).low (by omega))
 have Hback:Hid (∀(W:World)(cd:Int),Up w5 W->AF b nm nd=cd/\Z5 b nm nd=b->∃v',(Ending.returned (.tuple #[.agg #[Vz a3 b.tg.length c3,Vz a4 b.bs.length c4],Iz cd])=Ending.returned (.tuple #[v',Iz (AF b nm nd)]))/\
   N4 ((W.setCell ⟨w.heap.size+1,0,none⟩ (Vz a3 b.tg.length c3)).setCell ⟨w.heap.size+1,1,none⟩ (Vz a4 b.bs.length c4)) w.heap.size v' (Z5 b nm nd)):=e8
 clear e8;cases hm:D7 (I3 b.bs) nm
 ·have HC:Hid (AF b nm nd=3/\Z5 b nm nd=b):=EK hok hm;rw[Cd hm];obtain⟨⟨y0,y1⟩,f0,f1⟩:=kR.c2;obtain⟨⟨z0,z1⟩,-⟩:=kX.c2;go_wp2_with fail;refine U2 results10 underlying26 rfl M4 kR rfl rfl ?_;exact⟨Hback.out _ _ (A4 _ _) HC.out,I4 hB (Nat.le_succ _) _ _⟩
 obtain⟨g8,g9⟩:=BI hm;rw[g8];have Hp2:Hid (pB (J3 nd (N8 b nm))=false->AF b nm nd=2/\Z5 b nm nd=b):=λh=>Fq hok hm h;have Hp0:Hid (pB (J3 nd (N8 b nm))=true->AF b nm nd=0/\Z5 b nm nd=X8 b (F3 b nm) (R6 nd)):=λh=>Fs hok hm h;have Hna:Hid (N8 b nm=(b.bs[F3 b nm]).nd):=BL (A0 g9);generalize F3 b nm=p at *;obtain⟨s1,s2,s3⟩:=Ai (Ad hok);obtain⟨s4,s5⟩:=s3 b.bs[p] (by simp);have l0:=h2.2 b.bs[p] (by simp);obtain⟨-,e6⟩:=hk.bsOf.at;obtain⟨bb,o,rfl,hS,g2⟩:=e6 (by omega);obtain⟨a5,d5,a6,d6,-,q4,q5,l5,l6,-⟩:=(hS.at g9).cells;have HX0:Hid (b.bs[p]?=some b.bs[p]):=A0 g9;generalize b.bs[p]=x0 at *;obtain⟨e0,e1⟩:=kA.c2';have g3:=kA.2.2;go_wp2_with fail;refine (De nd x0.nd _ _ _ hN l6).mono ?_;rintro e w6 ⟨rfl,md,j8⟩;have b6:Up w5 w6:=by rw[j8];exact N0 (A4 _ _) md
 have i6:=b6.size;have kR:=kR.up b6 (by omega);have kX:=kX.up b6 (by omega);have hN:=hN.up b6;have hB:=D4 hB b6;have hL:=D4 hL b6;clear j8;cases hpt:pB (J3 nd x0.nd)
 ·have HC:Hid (AF b nm nd=2/\Z5 b nm nd=b):=Hp2.out (by rw[Hna.out];exact hpt);obtain⟨⟨y0,y1⟩,f0,f1⟩:=kR.c2;obtain⟨⟨z0,z1⟩,-⟩:=kX.c2;go_wp2_with fail;refine U2 results10 underlying26 rfl M4 kR rfl rfl ?_;exact⟨Hback.out _ _ b6 HC.out,I4 hB (Nat.le_succ _) _ _⟩
 have HC:Hid (AF b nm nd=0/\Z5 b nm nd=X8 b p (R6 nd)):=Hp0.out (by rw[Hna.out];exact hpt);have Hpart:Hid (J3 nd x0.nd):=U9.1 hpt;clear Hback Hp0 Hp2 Hna hpt;have e1:=(b6.cell (p:=⟨w.heap.size,1,none⟩) g3).trans e1;have q4:=(b6.cell (p:=⟨bb,o+p*3+1,none⟩) g2).trans q4;have l5:=l5.up b6;have g3:=A1 g3 i6;have g2:=A1 g2 i6;obtain⟨-,-,e7⟩:=l5.inv;clear e0 q5 l6 hk hS kA b6 e6;obtain⟨is,k0,k1,k2,k3⟩:=info_parts Bg;have d3:G3 (w6.alloc (Kz [] 9)) w6.heap.size (Sz w6.heap.size 0 0) []:=EG w6;have i7:Up w6 (w6.alloc (Kz [] 9)):=(A4 _ _).alloc (A3 _) _;go_wp2_with fail;(try dsimp only[Iz,Sz,Sy,Nz,Vz,Tz,Ez,Pz]);go_loopw [10,11] (λu i w'=>∃k:Nat,k<=x0.has.length/\i=.int .i64 k/\G3 w' w6.heap.size u ((x0.has.take k).filter (D7 nd))/\Up w6 w') (λ_ i _=>x0.has.length-(intOf i).toNat)
 case atStart=>exact⟨0,by omega,rfl,by simpa using d3,i7⟩
 case round =>
  clear d3 i7;obtain⟨k,hk,rfl,b2,b4⟩:=hrel;have e1:=(b4.cell (p:=⟨w.heap.size,1,none⟩) g3).trans e1;have q4:=(b4.cell (p:=⟨bb,o+p*3+1,none⟩) g2).trans q4;by_cases hp:k<x0.has.length
  ·obtain⟨b5,k4,rfl,k5,k6⟩:=e7 (by omega);have c5:=(b4.cell (p:=⟨b5,k4+k,none⟩) k6).trans (k5.cell hp);have HF:Hid ((x0.has.take (k+1)).filter (D7 nd)=(x0.has.take k).filter (D7 nd)++(if D7 nd x0.has[k]=true then [x0.has[k]] else [])):=TE hp;have l1:((x0.has.take k).filter (D7 nd)).length<=8:=B4 (List.length_filter_le _ _) (by rw[B8];omega);generalize x0.has[k]=s0 at *;obtain⟨fs,i3⟩:∃fs,(x0.has.take k).filter (D7 nd)=fs:=⟨_,rfl⟩;rw[i3] at b2 l1 HF;clear i3;go_wp2_with fail;refine Swz (Ch nd _ s0 _ (hN.up b4)) ?_;cases hms:D7 nd s0
   ·have HF2:Hid ((x0.has.take (k+1)).filter (D7 nd)=fs):=by show _=_;rw[HF.out,hms];simp
    go_wp2_with fail;go_roundw
    case rel=>exact⟨k+1,by omega,by go_num,by rw[HF2.out];exact b2,b4⟩
    case measure=>simp[intOf];omega
   ·have HF2:Hid ((x0.has.take (k+1)).filter (D7 nd)=fs++[s0]):=by show _=_;rw[HF.out,hms];simp
    have b7:=World.ownsRow.alloc b2 (Kz [Tz s0] 9);have h3:Up w6 (wr.alloc (Kz [Tz s0] 9)):=b4.alloc b4.size _;go_wp2_with (at_builtin;refine wpList_append_own _ rfl _ _ 23 rfl w6.heap.size 9 is _ 1 16 underlying23 k0 k1 k2 k3 rfl (by decide) _ _ _ rfl b7 ⟨wr.heap.size,0,none⟩ 1 1 [Tz s0] rfl rfl (BZ _ _ _) (Gk s0) (by unfold maxLen;omega) (by omega) h3.size ?_)
    intro v' w9 hown9 hgr9 _;have g4:=O6 h3 b7 hgr9 (A3 _);have l2:G3 w9 w6.heap.size v' (fs++[s0]):=by unfold G3;simpa using hown9
    clear b7 h3 hgr9 hown9 b2 e1 q4 c5;go_wp2_with fail;go_roundw
    case rel=>exact⟨k+1,by omega,by go_num,by rw[HF2.out];exact l2,g4⟩
    case measure=>simp[intOf];omega
  ·obtain rfl:k=x0.has.length:=by omega
   rw[List.take_length] at b2;obtain⟨ah,ch,k7⟩:=b2.lst.shape;subst k7;have i8:ps.length=b.bs.length:=by rw[← x3,B5]
   have h4:=D4 hL b4;have d0:=(X2.up h4).1;rw[i8] at d0;obtain⟨g,cp,i4⟩:=U5 d0 (by omega);obtain⟨rfl,-,rfl⟩:=Value.slice.inj i4;have m7:=X2.1.lt g rfl
   obtain⟨⟨b0,h0,k8⟩,i5,k9⟩:∃pv:Bv,ps[p]?=some pv/\pv.1=x0:=by
    have h:=HX0.out;rw[← x3,B3,B6] at h;exact h
   obtain rfl:b0=x0:=k9;have Hpv:Hid (ps[p]?=some (b0,h0,k8)):=i5;have kX:=kX.up b4 (by omega);have kR:=kR.up b4 (by omega);have m8:=b4.size;obtain⟨⟨z0,z1⟩,-⟩:=kX.c2;have e4:At wr.drew w3.heap.size 1 (Sz g b.bs.length c4):=z1;have l3:w3.heap.size<wr.heap.size:=by omega
   have h5:Up wr wr.drew:=(A4 _ _).drew;clear z0 z1 i4 i5;go_wp2_with fail;clear e1 q4;refine T9 7 (λw'=>At w' w3.heap.size 1 (Sz g b.bs.length c4)) (by kernel_rfl) ?_;refine I2 0 rfl e4 ?_;refine I2 1 rfl e4 ?_;refine I2 2 rfl e4 ?_;refine I2 3 rfl e4 ?_;refine T0 4 rfl (λK hK=>?_);go_simp;go_wp2_with (go_at_call 30;refine (Dj nd _ _ ((hN.up b4).up h5) hnn).mono ?_;rintro e w8 ⟨⟨nu,rfl,i0,-⟩,b8⟩;have b8:=D4 h5 b8;obtain⟨an,cn,rfl⟩:=i0.lst.shape;have g5:At w8 w3.heap.size 1 (Sz g b.bs.length c4):=(b8.cell (p:=⟨w3.heap.size,1,none⟩) l3).trans e4)
   refine Y1 hK g5 ?_;clear hK K;have a0:=P0 d0 b8;have r2:=(a0.cellAt (p*3+2) (by omega)).trans (Bh ps p _ Hpv.out 2 _ rfl);have f2:=a0.frozenAt (p*3+2);refine T0 5 rfl (λK hK=>?_);go_simp;refine Y1 hK g5 ?_;clear hK K;refine I2 6 rfl g5 ?_;refine T0 7 rfl (λK hK=>?_);go_simp;refine GU hK ?_;clear hK K;refine Y2 (by kernel_rfl) ?_ _;have g6:=a0.stored (p*3+2) (Vz an nd.length cn);rw[Ni ps p _ _ ⟨b0.nm,b0.has,nd⟩ Hpv.out rfl] at g6;have g7:=D4 h4 b8
   have Hlist:Hid (∀q∈ps,G3 w8 w2.heap.size q.2.1 q.1.has/\G3 w8 w2.heap.size q.2.2 q.1.nd/\q.1.nm.size<=maxLen):=λq hq=>by
    obtain⟨q1,q2,q3⟩:=X2.2 q hq;exact⟨q1.up g7,q2.up g7,q3⟩
   have t8:=X1.up g7;have i9:=b2.up b8;have j0:=kX.up b8 (by omega);have j1:=kR.up b8 (by omega);have j2:=D4 (D4 hB b4) b8;clear e4 g5 r2 f2 b2 d0 kX kR X1 X2 h5;have e9:¬w3.heap.size=g:=by omega
   have f3:¬w.heap.size+1=g:=by omega
   have c6:(Vz (some ⟨g,0,none⟩) b.bs.length c4).ownBlock=some g:=rfl;have d4:=g6.2;have b1:=g6.1;have h6:=j0.kept d4 (by simpa using e9);have j3:=j1.kept d4 (by simpa using f3);have t9:=Aa t8 a0 (c6 ▸ d4);have j4:=Aa i9 a0 (c6 ▸ d4);have j5:=Aa i0 a0 (c6 ▸ d4)
   have Hlist9:Hid (∀q∈ps,G3 (w8.setCell ⟨g,p*3+2,none⟩ (Vz an nd.length cn)) w2.heap.size q.2.1 q.1.has/\G3 (w8.setCell ⟨g,p*3+2,none⟩ (Vz an nd.length cn)) w2.heap.size q.2.2 q.1.nd/\q.1.nm.size<=maxLen):=λq hq=>by
    obtain⟨q1,q2,q3⟩:=Hlist.out q hq;exact⟨Aa q1 a0 (c6 ▸ d4),Aa q2 a0 (c6 ▸ d4),q3⟩
   have g4:Up w (w8.setCell ⟨g,p*3+2,none⟩ (Vz an nd.length cn)):=j2.setCell (p:=⟨g,p*3+2,none⟩) (by show _<=g;omega) _;have m9:=b8.size;have f4:w2.heap.size<=w6.heap.size:=by omega
   have f5:w2.heap.size<=wr.heap.size:=by omega
   clear g6 d4 a0 j0 j1 t8 i9 i0 j2 Hlist g7 b8 h4 hL hB hN;generalize w8.setCell ⟨g,p*3+2,none⟩ (Vz an nd.length cn)=W9 at *;have e2:(ps.set p ((⟨b0.nm,b0.has,nd⟩,h0,Vz an nd.length cn):Bv))[p]?=some (⟨b0.nm,b0.has,nd⟩,h0,Vz an nd.length cn):=by rw[List.getElem?_set,if_pos rfl,if_pos (by omega)]
   have r1:=(b1.cellAt (p*3+1) (by omega)).trans (Bh _ p _ e2 1 _ rfl);have f1:=b1.frozenAt (p*3+1);have d1:=b1.stored (p*3+1) (Vz ah (b0.has.filter (D7 nd)).length ch);rw[Jy _ p _ _ (R6 nd b0) e2 rfl,List.set_set] at d1;have Hset:Hid ((ps.set p ((R6 nd b0,Vz ah (b0.has.filter (D7 nd)).length ch,Vz an nd.length cn):Bv)).map (·.1)=b.bs.set p (R6 nd b0)):=by show _=_;rw[List.map_set,x3]
   obtain⟨⟨z0,z1⟩,-⟩:=h6.c2;clear e2;go_upto_region 17 with fail;have b3:=d1.2;have d7:=d1.1;have h7:=h6.kept b3 (by simpa using e9);have e3:=j3.kept b3 (by simpa using f3);have j6:=Aa t9 b1 (c6 ▸ b3);have f6:=N1 (Aa j4 b1 (c6 ▸ b3)) f4;have f7:=N1 (Aa j5 b1 (c6 ▸ b3)) f5
   have f8:=Ky (qs:=ps.set p ((R6 nd b0,Vz ah (b0.has.filter (D7 nd)).length ch,Vz an nd.length cn):Bv)) d7 rfl (by rw[List.length_set,i8]) (λq hq=>by
    rcases List.mem_or_eq_of_mem_set hq with h|rfl
    ·obtain⟨q1,q2,q3⟩:=Hlist9.out q h;exact⟨Aa q1 b1 (c6 ▸ b3),Aa q2 b1 (c6 ▸ b3),q3⟩
    ·exact⟨f6,f7,(Hlist9.out _ (A6 Hpv.out)).2.2⟩)
   have h8:Up w (W9.setCell ⟨g,p*3+1,none⟩ (Vz ah (b0.has.filter (D7 nd)).length ch)):=g4.setCell (p:=⟨g,p*3+1,none⟩) (by show _<=g;omega) _;clear d1 b3 d7 b1 h6 j3 t9 j4 j5 f6 f7 g4 Hlist9 r1 f1 z0 z1;generalize W9.setCell ⟨g,p*3+1,none⟩ (Vz ah (b0.has.filter (D7 nd)).length ch)=W10 at *;have b9:∀y∈b.bs.set p (R6 nd b0),y∈b.bs∨y=R6 nd b0:=λy hy=>List.mem_or_eq_of_mem_set hy;have f9:N4 W10 w2.heap.size (.agg #[Vz a3 b.tg.length c3,Sz g b.bs.length c4]) ⟨b.tg,b.bs.set p (R6 nd b0)⟩:=⟨_,_,_,rfl,j6,f8,Hset.out⟩
   have l4:=f9.bk ⟨h2.1,λy hy=>by
    rcases b9 y hy with h|rfl
    ·exact h2.2 y h
    ·exact⟨λs hs=>l0.1 s (List.mem_filter.1 hs).1,j9⟩⟩
   have l7:=Ac Hpart.out
   have Hcopy:Hid (∀(v:Value)(w:World),K6 w v ⟨b.tg,b.bs.set p (R6 nd b0)⟩->Calls prog 26 #[v] w λe w'=>(∃v',e=.returned v'/\N4 w' w.heap.size v' ⟨b.tg,b.bs.set p (R6 nd b0)⟩)/\Up w w'):=λv w h=>Ip _ v w h (by show b.tg.length<=100;omega) (by show (b.bs.set p (R6 nd b0)).length<=100;rw[List.length_set];omega) (λy hy=>by
    rcases b9 y hy with h|rfl
    ·have:=s3 y h;omega
    ·have h1:(b0.has.filter (D7 nd)).length<=b0.has.length:=List.length_filter_le _ _;show (b0.has.filter (D7 nd)).length<=100/\nd.length<=100
     omega)
   have HC2:Hid (AF b nm nd=0/\Z5 b nm nd=⟨b.tg,b.bs.set p (R6 nd b0)⟩):=by show _/\_;rw[← BQ HX0.out];exact HC.out
   clear b9 l7 Hset f8 HC f9 j6;generalize (⟨b.tg,b.bs.set p (R6 nd b0)⟩:Bk)=b' at *;obtain⟨⟨z0,z1⟩,-⟩:=h7.c2;go_wp2_with fail;refine (Hcopy.out _ _ l4).mono ?_;rintro e n0 ⟨⟨v',rfl,hV⟩,g1⟩;obtain⟨a7,c7,a8,c8,m3,rfl,-⟩:=hV.parts;have g0:=e3.up g1 e3.2.2;have j7:=e3.2.2;have h9:=D4 h8 g1;clear z0 z1;obtain⟨⟨y0,y1⟩,f0,f1⟩:=g0.c2;go_wp2_with fail;refine U2 results10 underlying26 rfl M4 g0 rfl rfl ?_;refine⟨⟨_,Cx HC2.out.1.symm,?_⟩,I4 h9 (Nat.le_succ _) _ _⟩;rw[HC2.out.2];exact ((N4.set (N4.set hV j7) j7).low (by omega))
end Go.Proofs.YtcgkgmmclfeohaaGreatDoor
