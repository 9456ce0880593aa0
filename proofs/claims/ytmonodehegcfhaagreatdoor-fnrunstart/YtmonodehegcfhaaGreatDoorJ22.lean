/- A row of batches, a list of one of them turned. -/
import Derived.Test.YtmonodehegcfhaaGreatDoorJ19
import Derived.Test.YtmonodehegcfhaaGreatDoorJ13
import Derived.Test.YtmonodehegcfhaaGreatDoorJ7
namespace Go.Proofs.YtmonodehegcfhaaGreatDoor
open Go.Proofs.Tryz
open Go.RowKit
variable{ss:List BA}{base:Nat}{u:Value}{w:World}
theorem FF:∀(ps:List Bv)(k:Nat)(p:Bv)(u:Value)(x:Ba),ps[k]?=some p->x.nm=p.1.nm->(E8 ps).set (k*3+1) u=E8 (ps.set k (x,u,p.2.2))
 | q::r,0,p,u,x,hp,hx=>by
  simp at hp;subst hp
  simp[E8,O3,hx]
 | q::r,k+1,p,u,x,hp,hx=>by
  have ih:=FF r k p u x (by simpa using hp) hx;have hl:(O3 q).length=3:=rfl;rw[List.set_cons_succ,E8,E8,← ih,List.set_append_right _ _ (by rw[hl];omega),hl,show (k+1)*3+1-3=k*3+1 by omega]
theorem Ja:∀(ps:List Bv)(k:Nat)(p:Bv)(u:Value)(x:Ba),ps[k]?=some p->x.nm=p.1.nm->(E8 ps).set (k*3+2) u=E8 (ps.set k (x,p.2.1,u))
 | q::r,0,p,u,x,hp,hx=>by
  simp at hp;subst hp
  simp[E8,O3,hx]
 | q::r,k+1,p,u,x,hp,hx=>by
  have ih:=Ja r k p u x (by simpa using hp) hx;have hl:(O3 q).length=3:=rfl;rw[List.set_cons_succ,E8,E8,← ih,List.set_append_right _ _ (by rw[hl];omega),hl,show (k+1)*3+2-3=k*3+2 by omega]
theorem F7.txt(h:F7 w base u ss)(hn:NN u):R8 w u ss:=by
 rcases h.lst with⟨h0,_⟩|h1
 ·obtain⟨g,n,c,rfl⟩:=hn;cases h0
 ·exact h1
def AL(b:Bk)(nm:BA)(tg:List BA)(cd:Int)(b':Bk):Prop :=
 (K4 b=false/\cd=1/\b'=S2)∨
 (K4 b=true/\E3 (G7 b.bs) nm=false/\cd=3/\b'=b)∨
 (K4 b=true/\E3 (G7 b.bs) nm=true/\pB (I4 tg (O5 b nm))=false/\cd=2/\b'=b)∨
 (K4 b=true/\E3 (G7 b.bs) nm=true/\pB (I4 tg (O5 b nm))=true/\Bz b.bs (L1 b nm:Int) tg/\cd=5/\b'=b)∨
 (K4 b=true/\E3 (G7 b.bs) nm=true/\pB (I4 tg (O5 b nm))=true/\¬Bz b.bs (L1 b nm:Int) tg/\(∃ss,R9 b ss true)/\(∃ss,R9 (Bd b (L1 b nm) (U1 tg)) ss false)/\cd=6/\b'=b)∨
 (K4 b=true/\E3 (G7 b.bs) nm=true/\pB (I4 tg (O5 b nm))=true/\¬Bz b.bs (L1 b nm:Int) tg/\((∃ss,R9 b ss false)∨∃ss,R9 (Bd b (L1 b nm) (U1 tg)) ss true)/\cd=0/\b'=Bd b (L1 b nm) (U1 tg))
set_option maxRecDepth 20000 in
set_option maxHeartbeats 4000000 in
theorem GZ(b:Bk)(v nv:Value)(nm:BA)(tg:List BA)(w:World)(h:Q6 w v b)(hN:Ls w nv tg)(hnn:tg.length<=1048576):
  Calls prog 84 #[v,.string nm,nv] w λe w'=>(∃v' cd b',e=.returned (.tuple #[v',.int .i64 cd])/\AL b nm tg cd b'/\L6 w' w.heap.size v' b')/\Up w w':=by
 have h0:=h.szb;obtain⟨a1,c1,a2,c2,rfl,t1,-⟩:=h.parts;obtain⟨a9,c9,rfl,-,j9,-⟩:=id hN;obtain⟨ii,hi,m6,m7,m8⟩:=info_parts Cs;obtain⟨W1,i1,kA,kR,e9,m9⟩:=cbE2 w [.slice a1 (b).tg.length c1,.slice a2 (b).bs.length c2] 26 [.slice none 0 0,.slice none 0 0] 26;go_in;go_upto_region 1 with fail;try rw[i1]
 clear i1;have hk:=h.up e9;have hN:=hN.up e9;have t1:=t1.up e9;clear h;obtain⟨e0,e1⟩:=kA.c2';go_wp2_with fail;refine (Cc b _ _ hk).mono ?_;rintro e w2 ⟨rfl,d2⟩;have n2:=d2.size;have kA:=kA.up d2 (by omega);have kR:=kR.up d2 (by omega);have hk:=hk.up d2;have hN:=hN.up d2;have t1:=t1.up d2;have hB:=D5 e9 d2;clear e0 e1 e9 d2;cases hok:K4 b
 ·obtain⟨⟨y0,y1⟩,f0,f1⟩:=kR.c2;have HA:Hid (AL b nm tg 1 S2):=.inl ⟨hok,rfl,rfl⟩;go_wp2_with fail;refine O0 results84 underlying26 rfl M5 kR rfl rfl ?_;exact⟨⟨_,_,_,rfl,HA.out,IJ _ _⟩,K6 hB (Nat.le_succ _) _ _⟩
 obtain⟨e0,e1⟩:=kA.c2';go_wp2_with fail;refine (GD b _ _ hk (Ab hok)).mono ?_;rintro e w3 ⟨⟨xv,rfl,hX⟩,d3⟩;obtain⟨a3,c3,a4,c4,ps,rfl,x1,x2,x3⟩:=hX.parts;have n3:=d3.size;have kA:=kA.up d3 (by omega);have kR:=kR.up d3 (by omega);have hk:=hk.up d3;have hN:=hN.up d3;have t1:=t1.up d3;have hB:=D5 hB d3;clear e0 e1 d3 hX;go_upto_region 4 with fail;obtain⟨W4,i2,kX,d0,n0⟩:=cbE1 w3 [.slice a3 b.tg.length c3,.slice a4 b.bs.length c4] 26;rw[i2];clear i2;have kA:=kA.up d0 (by omega);have kR:=kR.up d0 (by omega);have hk:=hk.up d0;have hN:=hN.up d0;have t1:=t1.up d0;have hB:=D5 hB d0;have X1:=x1;have X2:=x2;have hL:=d0;clear d0 x1 x2;obtain⟨e0,e1⟩:=kA.c2';go_wp2_with fail;refine (EE b _ nm _ hk).mono ?_;rintro e w5 ⟨rfl,c5⟩;have n4:=c5.size;have kA:=kA.up c5 (by omega);have kR:=kR.up c5 (by omega);have kX:=kX.up c5 (by omega);have hk:=hk.up c5;have hN:=hN.up c5;have hB:=D5 hB c5;have hL:=D5 hL c5;have HOK:Hid (K4 b=true):=hok;clear e0 e1 c5 t1
 have f6:∀(W:World),Up w5 W->L6 ((W.setCell ⟨w.heap.size+1,0,none⟩ (.slice a3 b.tg.length c3)).setCell ⟨w.heap.size+1,1,none⟩ (.slice a4 b.bs.length c4)) w.heap.size (.agg #[.slice a3 b.tg.length c3,.slice a4 b.bs.length c4]) b:=λW hb=>by
  have hl:=D5 hL hb;exact ((L6.set (L6.set ⟨_,_,ps,rfl,X1.up hl,X2.up hl,x3⟩ (by omega)) (by omega)).low (by omega))
 have Hback:Hid (∀(W:World),Up w5 W->L6 ((W.setCell ⟨w.heap.size+1,0,none⟩ (.slice a3 b.tg.length c3)).setCell ⟨w.heap.size+1,1,none⟩ (.slice a4 b.bs.length c4)) w.heap.size (.agg #[.slice a3 b.tg.length c3,.slice a4 b.bs.length c4]) b):=f6;clear f6;cases hm:E3 (G7 b.bs) nm
 ·have HA:Hid (AL b nm tg 3 b):=.inr (.inl ⟨hok,hm,rfl,rfl⟩);rw[AN hm];obtain⟨⟨y0,y1⟩,f0,f1⟩:=kR.c2;obtain⟨⟨z0,z1⟩,-⟩:=kX.c2;go_wp2_with fail;refine O0 results84 underlying26 rfl M5 kR rfl rfl ?_;exact⟨⟨_,_,_,rfl,HA.out,Hback.out _ (A5 _ _)⟩,K6 hB (Nat.le_succ _) _ _⟩
 obtain⟨g8,g9⟩:=Dx hm;rw[g8];have HA2:Hid (pB (I4 tg (O5 b nm))=false->AL b nm tg 2 b):=λh=>.inr (.inr (.inl ⟨hok,hm,h,rfl,rfl⟩));have HA5:Hid (pB (I4 tg (O5 b nm))=true->Bz b.bs (L1 b nm:Int) tg->AL b nm tg 5 b):=λh h2=>.inr (.inr (.inr (.inl ⟨hok,hm,h,h2,rfl,rfl⟩)));have HA6:Hid (pB (I4 tg (O5 b nm))=true->¬Bz b.bs (L1 b nm:Int) tg->(∃ss,R9 b ss true)->(∃ss,R9 (Bd b (L1 b nm) (U1 tg)) ss false)->AL b nm tg 6 b):=λh h2 h3 h4=>.inr (.inr (.inr (.inr (.inl ⟨hok,hm,h,h2,h3,h4,rfl,rfl⟩))));have HA0:Hid (pB (I4 tg (O5 b nm))=true->¬Bz b.bs (L1 b nm:Int) tg->((∃ss,R9 b ss false)∨∃ss,R9 (Bd b (L1 b nm) (U1 tg)) ss true)->AL b nm tg 0 (Bd b (L1 b nm) (U1 tg))):=λh h2 h3=>.inr (.inr (.inr (.inr (.inr ⟨hok,hm,h,h2,h3,rfl,rfl⟩))));have Hna:Hid (O5 b nm=(b.bs[L1 b nm]).nj):=Dj (A0 g9);generalize L1 b nm=p at *;obtain⟨s1,s2,s3⟩:=An (Ab hok);obtain⟨s4,s5⟩:=s3 b.bs[p] (by simp);have i6:=h0.2 b.bs[p] (by simp);obtain⟨-,f2⟩:=hk.bsOf.at;obtain⟨bb,o,rfl,hS,n1⟩:=f2 (by omega);obtain⟨a5,d5,a6,d6,-,-,q5,-,l6,-⟩:=(hS.at g9).cells;have HX0:Hid (b.bs[p]?=some b.bs[p]):=A0 g9;generalize b.bs[p]=x0 at *;obtain⟨e0,e1⟩:=kA.c2';go_wp2_with fail;refine (CC tg x0.nj _ _ _ hN l6).mono ?_;rintro e w6 ⟨rfl,md,j4⟩;have b8:Up w5 w6:=by rw[j4];exact G4 (A5 _ _) md
 have n5:=b8.size;have kA:=kA.up b8 (by omega);have kR:=kR.up b8 (by omega);have kX:=kX.up b8 (by omega);have hN:=hN.up b8;have hk:=hk.up b8;have hB:=D5 hB b8;clear j4 e0 e1 q5 l6 hS f2;cases hpt:pB (I4 tg x0.nj)
 ·have HA:Hid (AL b nm tg 2 b):=HA2.out (by rw[Hna.out];exact hpt);obtain⟨⟨y0,y1⟩,f0,f1⟩:=kR.c2;obtain⟨⟨z0,z1⟩,-⟩:=kX.c2;go_wp2_with fail;refine O0 results84 underlying26 rfl M5 kR rfl rfl ?_;exact⟨⟨_,_,_,rfl,HA.out,Hback.out _ b8⟩,K6 hB (Nat.le_succ _) _ _⟩
 have Hpt:Hid (pB (I4 tg (O5 b nm))=true):=by show _=_;rw[Hna.out];exact hpt
 have Hpart:Hid (I4 tg x0.nj):=K5.1 hpt;clear hpt HA2;obtain⟨e0,e1⟩:=kA.c2';go_wp2_with fail;refine (QL b _ _ p tg _ hk hN).mono ?_;rintro e w7 ⟨rfl,c6⟩;have n6:=c6.size;have kA:=kA.up c6 (by omega);have kR:=kR.up c6 (by omega);have kX:=kX.up c6 (by omega);have hN:=hN.up c6;have hk:=hk.up c6;have hB:=D5 hB c6;have c0:=D5 b8 c6;clear e0 e1 b8 c6;cases htk:pB (Bz b.bs (p:Int) tg)
 case true =>
  have HA:Hid (AL b nm tg 5 b):=HA5.out Hpt.out (K5.1 htk);obtain⟨⟨y0,y1⟩,f0,f1⟩:=kR.c2;obtain⟨⟨z0,z1⟩,-⟩:=kX.c2;go_wp2_with fail;refine O0 results84 underlying26 rfl M5 kR rfl rfl ?_;exact⟨⟨_,_,_,rfl,HA.out,Hback.out _ c0⟩,K6 hB (Nat.le_succ _) _ _⟩
 have Htk:Hid (¬Bz b.bs (p:Int) tg):=S1.1 htk;clear htk HA5;obtain⟨e0,e1⟩:=kA.c2';go_wp2_with fail;refine (FC b _ _ hk (by omega) (by omega) (λy hy=>by have:=s3 y hy;omega)).mono ?_;rintro e w8 ⟨⟨tu,bu,qs,rfl,y1,y2,y3,-,j5⟩,b9⟩;have k9:=kA;have l0:=kR;have l1:=kX;have l2:=hk;have l3:=hN;have l4:=hB;obtain⟨a7,c7,rfl⟩:=y1.lst.shape;have h5:qs.length=b.bs.length:=by rw[← y3,B5]
 obtain⟨g,c8,i3⟩:=I6 y2.1 (by omega);rw[h5] at i3;subst i3;have l5:=b9.size;have kA:=kA.up b9 (by omega);have kR:=kR.up b9 (by omega);have kX:=kX.up b9 (by omega);have hN:=hN.up b9;have hk:=hk.up b9;have hB:=D5 hB b9;have l7:=D5 c0 b9;have h6:=b9;have i7:=k9;have i8:=l0;have i9:=l1;have j0:=l2;have l8:=l3;have j1:=l4;have l9:=y2.1.lt g rfl;have f7:=c0;clear e0 e1 c0 b9;go_upto_region 12 with fail;obtain⟨W9,i4,kY,d7,k0⟩:=cbE1 w8 [.slice a7 b.tg.length c7,.slice (some ⟨g,0,none⟩) b.bs.length c8] 26;rw[i4];clear i4
 obtain⟨⟨a0,g4,d8⟩,f3,k1⟩:∃pv:Bv,qs[p]?=some pv/\pv.1=x0:=by
  have h:=HX0.out;rw[← y3,B1,B6] at h;exact h
 obtain rfl:a0=x0:=k1;have h7:=y2.2 _ (A7 f3);have Hnn0:Hid (NN g4):=j5 _ (A7 f3);have Hqv:Hid (qs[p]?=some (a0,g4,d8)):=f3;have e2:=y2.1;rw[h5] at e2
 have d1:qs.set p (a0,g4,d8)=qs:=List.ext_getElem? λj=>by
  rw[List.getElem?_set];by_cases e:p=j
  ·subst e;rw[if_pos rfl,if_pos (by omega),f3]
  ·rw[if_neg e]
 have f8:Up w7 W9:=h6.trans (d7.mono l5);have g6:(Value.slice (some ⟨g,0,none⟩) b.bs.length c8).ownBlock=some g:=rfl;have n7:=V8 Hpart.out;obtain⟨-,-,f4⟩:=l8.inv;have Hxn:Hid (a0.nm.size<=maxLen):=h7.2.2;clear kA kR kX hN hk hB f3 j5;go_wp2_with fail
 go_loopw [11] (λi w'=>∃(k:Nat)(hv:Value),k<=tg.length/\i=.int .i64 k/\w'.ownsRow w7.heap.size 115 3 (.slice (some ⟨g,0,none⟩) b.bs.length c8) b.bs.length (E8 (qs.set p ((⟨a0.nm,T7 a0.has (tg.take k),a0.nj⟩,hv,d8):Bv)))/\F7 w' w7.heap.size hv (T7 a0.has (tg.take k))/\NN hv/\
   (∀q∈qs,F7 w' w7.heap.size q.2.1 q.1.has/\F7 w' w7.heap.size q.2.2 q.1.nj/\q.1.nm.size<=maxLen)/\CB w' w8.heap.size [.slice a7 b.tg.length c7,.slice (some ⟨g,0,none⟩) b.bs.length c8]/\F7 w' w7.heap.size (.slice a7 b.tg.length c7) b.tg/\Up w7 w') (λi _=>tg.length-(intOf i).toNat)
 case atStart=>exact⟨0,g4,by omega,rfl,by rw[show (⟨a0.nm,T7 a0.has (tg.take 0),a0.nj⟩:Ba)=a0 from rfl,d1];exact E4 e2 d7,h7.1.up d7,Hnn0.out,λq hq=>by
   obtain⟨q1,q2,q3⟩:=y2.2 q hq;exact⟨q1.up d7,q2.up d7,q3⟩,kY,y1.up d7,f8⟩
 case round =>
  clear kY d7 f8 e2 h7 y1 y2 d1 k0;obtain⟨k,hv,hk,rfl,d9,e8,hnn,a8,kY,g5,b2⟩:=hrel;obtain⟨gh,nh,ch,rfl⟩:=hnn;by_cases hp:k<tg.length
  ·obtain⟨tb,f5,rfl,k2,i5⟩:=f4 (by omega);have cT:=(b2.cell (p:=⟨tb,f5+k,none⟩) i5).trans (k2.cell hp);have HI:Hid (T7 a0.has (tg.take (k+1))=M7 (T7 a0.has (tg.take k)) tg[k]):=QC _ _ _ hp;have m0:(T7 a0.has (tg.take k)).length<=1000:=B3 (IG _ _) (by rw[B8];omega);generalize tg[k]=s0 at *;have hT:=e8.txt ⟨_,_,_,rfl⟩;generalize T7 a0.has (tg.take k)=is at *;have e3:(qs.set p ((⟨a0.nm,is,a0.nj⟩,.slice (some ⟨gh,0,none⟩) nh ch,d8):Bv))[p]?=some (⟨a0.nm,is,a0.nj⟩,.slice (some ⟨gh,0,none⟩) nh ch,d8):=by rw[List.getElem?_set,if_pos rfl,if_pos (by omega)]
   have r1:=(d9.cellAt (p*3+1) (by omega)).trans (V0 _ p _ e3 1 _ rfl);obtain⟨⟨z0,z1⟩,-⟩:=kY.c2;have j2:=kY.2.2;have m1:=(d9.lt g rfl).2;have h8:=A2 i5 b2.size;have mk:∀W,Up wr W->World.cell? W ⟨w8.heap.size,1,none⟩=some (.slice (some ⟨g,0,none⟩) b.bs.length c8)/\World.cell? W ⟨g,p*3+1,none⟩=some (.slice (some ⟨gh,0,none⟩) nh ch)/\World.cell? W ⟨tb,f5+k,none⟩=some (.string s0):=λW hb=>⟨(hb.cell (p:=⟨w8.heap.size,1,none⟩) j2).trans z1,(hb.cell (p:=⟨g,p*3+1,none⟩) m1).trans r1,(hb.cell (p:=⟨tb,f5+k,none⟩) h8).trans cT⟩;have Mk:Hid (∀W,Up wr W->World.cell? W ⟨w8.heap.size,1,none⟩=some (.slice (some ⟨g,0,none⟩) b.bs.length c8)/\World.cell? W ⟨g,p*3+1,none⟩=some (.slice (some ⟨gh,0,none⟩) nh ch)/\World.cell? W ⟨tb,f5+k,none⟩=some (.string s0)):=mk;have g7:Up wr wr.drew:=(A5 _ _).drew;have b1:=mk _ g7;clear mk z0 z1 r1 cT;go_wp2_with fail;refine F5 16 (λw'=>World.cell? w' ⟨w8.heap.size,1,none⟩=some (.slice (some ⟨g,0,none⟩) b.bs.length c8)/\World.cell? w' ⟨g,p*3+1,none⟩=some (.slice (some ⟨gh,0,none⟩) nh ch)/\World.cell? w' ⟨tb,f5+k,none⟩=some (.string s0)) (by kernel_rfl) ?_;refine D6 0 rfl b1 ?_;refine D6 1 rfl b1 ?_;refine D6 2 rfl b1 ?_;refine D6 3 rfl b1 ?_;refine D6 4 rfl b1 ?_;refine D6 5 rfl b1 ?_;refine D6 6 rfl b1 ?_;refine D6 7 rfl b1 ?_;refine D6 8 rfl b1 ?_;refine D6 9 rfl b1 ?_;refine D6 10 rfl b1 ?_;refine D6 11 rfl b1 ?_;refine D6 12 rfl b1 ?_;refine E7 13 rfl (λK hK=>?_);go_simp;go_wp2_with (go_at_call 141;refine (OB is _ s0 _ (hT.up g7) m0).mono ?_;rintro e wi ⟨⟨u,rfl,j6,j7⟩,b3⟩;have b3:=D5 g7 b3;have f9:=Mk.out _ b3)
   obtain⟨gu,cu,k3,-⟩:=id j6;subst k3
   have j3:F7 wi w7.heap.size (.slice (some ⟨gu,0,none⟩) (M7 is s0).length cu) (M7 is s0):=by
    rcases j7 with⟨h1,h2⟩|h
    ·rw[h1,h2];exact e8.up b3
    ·exact I8 h (by have:=b2.size;simpa using this)
   have b0:=E4 d9 b3;have f1:=b0.frozenAt (p*3+1);have r1:=f9.2.1;clear j7 j6 hT e8;refine E6 hK f9 ?_;clear hK K;refine E7 14 rfl (λK hK=>?_);go_simp;refine E6 hK f9 ?_;clear hK K;refine D6 15 rfl f9 ?_;refine E7 16 rfl (λK hK=>?_);go_simp;refine Bf hK ?_;clear hK K;refine F0 (by kernel_rfl) ?_ _;have st:=b0.stored (p*3+1) (.slice (some ⟨gu,0,none⟩) (M7 is s0).length cu);rw[FF _ p _ _ ⟨a0.nm,M7 is s0,a0.nj⟩ e3 rfl,List.set_set] at st;have gr:=st.2;have Hst:=st.1
   have HL:Hid (∀q∈qs,F7 (wi.setCell ⟨g,p*3+1,none⟩ (.slice (some ⟨gu,0,none⟩) (M7 is s0).length cu)) w7.heap.size q.2.1 q.1.has/\F7 (wi.setCell ⟨g,p*3+1,none⟩ (.slice (some ⟨gu,0,none⟩) (M7 is s0).length cu)) w7.heap.size q.2.2 q.1.nj/\q.1.nm.size<=maxLen):=λq hq=>by
    obtain⟨q1,q2,q3⟩:=a8 q hq;exact⟨V1 (q1.up b3) b0 (g6 ▸ gr),V1 (q2.up b3) b0 (g6 ▸ gr),q3⟩
   have h9:=V1 j3 b0 (g6 ▸ gr);have i0:=V1 (g5.up b3) b0 (g6 ▸ gr);have m2:=(kY.up b3 j2).kept gr (by simp;omega);have m3:Up w7 (wi.setCell ⟨g,p*3+1,none⟩ (.slice (some ⟨gu,0,none⟩) (M7 is s0).length cu)):=(b2.trans (b3.mono b2.size)).setCell (p:=⟨g,p*3+1,none⟩) l9.1 _;clear st gr b0 d9 j3 g5 kY a8 b1 f9 r1 f1 Mk e3 g7 b3 b2;go_wp2_with fail;go_roundw
   case rel=>exact⟨k+1,.slice (some ⟨gu,0,none⟩) (M7 is s0).length cu,by omega,by go_num,by rw[HI.out];exact Hst,by rw[HI.out];exact h9,⟨_,_,_,rfl⟩,HL.out,m2,i0,m3⟩
   case measure=>simp[intOf];omega
  ·obtain rfl:k=tg.length:=by omega
   rw[List.take_length] at d9 e8
   have hW:Bq wr w7.heap.size (.slice (some ⟨g,0,none⟩) b.bs.length c8) (qs.set p ((U1 tg a0,.slice (some ⟨gh,0,none⟩) nh ch,d8):Bv)):=JW d9 rfl (by rw[List.length_set,h5]) (λq hq=>by
    rcases List.mem_or_eq_of_mem_set hq with h|rfl
    ·exact a8 q h
    ·exact⟨e8,(a8 _ (A7 Hqv.out)).2.1,Hxn.out⟩)
   have g0:(qs.set p ((U1 tg a0,.slice (some ⟨gh,0,none⟩) nh ch,d8):Bv)).map (·.1)=b.bs.set p (U1 tg a0):=by rw[List.map_set,y3]
   have b4:∀y∈b.bs.set p (U1 tg a0),y∈b.bs∨y=U1 tg a0:=λy hy=>List.mem_or_eq_of_mem_set hy;have g1:L6 wr w7.heap.size (.agg #[.slice a7 b.tg.length c7,.slice (some ⟨g,0,none⟩) b.bs.length c8]) ⟨b.tg,b.bs.set p (U1 tg a0)⟩:=⟨_,_,_,rfl,g5,hW,g0⟩
   have e4:=g1.bk ⟨h0.1,λy hy=>by
    rcases b4 y hy with h|rfl
    ·exact h0.2 y h
    ·exact⟨λs hs=>by
      rcases IH _ _ s hs with h|h
      ·exact i6.1 s h
      ·exact j9 s h,i6.2⟩⟩
   have Hcopy:Hid (∀(v:Value)(w:World),Q6 w v ⟨b.tg,b.bs.set p (U1 tg a0)⟩->Calls prog 75 #[v] w λe w'=>(∃v',e=.returned v'/\L6 w' w.heap.size v' ⟨b.tg,b.bs.set p (U1 tg a0)⟩)/\Up w w'):=λv w h=>BN _ v w h (by show b.tg.length<=100;omega) (by show (b.bs.set p (U1 tg a0)).length<=100;rw[List.length_set];omega) (λy hy=>by
    rcases b4 y hy with h|rfl
    ·have:=s3 y h;omega
    ·have h1:=IG a0.has tg;show (T7 a0.has tg).length<=100/\a0.nj.length<=100
     omega)
   have Hch:Hid (Bd b p (U1 tg)=⟨b.tg,b.bs.set p (U1 tg a0)⟩):=Ih HX0.out;rw[Hch.out] at HA6 HA0;clear b4 g0 hW g1 g5 e8 a8 d9 Hqv HX0;generalize (⟨b.tg,b.bs.set p (U1 tg a0)⟩:Bk)=b' at *;have kA:=i7.up b2 (by omega);have kR:=i8.up b2 (by omega);have kX:=i9.up b2 (by omega);have hk:=j0.up b2;have hB:=D5 j1 b2;have b5:Up w5 wr:=D5 f7 b2;clear i7 i8 i9 j0 j1;obtain⟨e0,e1⟩:=kA.c2';go_wp2_with fail;refine (Ge b _ _ hk).mono ?_;rintro e wa ⟨⟨ss,ok,rfl,g3⟩,e6⟩;have kR:=kR.up e6 kR.2.2;have kX:=kX.up e6 kX.2.2;have kY:=kY.up e6 kY.2.2;have e4:=e4.up e6;have hB:=D5 hB e6;have b5:=D5 b5 e6;clear e0 e1 e6 kA hk;cases ok
   ·have HA:Hid (AL b nm tg 0 b'):=HA0.out Hpt.out Htk.out (.inl ⟨ss,g3⟩);obtain⟨⟨z0,z1⟩,-⟩:=kY.c2;go_wp2_with fail;refine (Hcopy.out _ _ e4).mono ?_;rintro e m4 ⟨⟨v',rfl,hV⟩,b7⟩;obtain⟨k4,k5,k6,k7,k8,rfl,-⟩:=hV.parts;have b6:=kR.up b7 kR.2.2;have g2:=kR.2.2;have e5:=D5 hB b7;clear z0 z1;obtain⟨⟨y0,y1⟩,f0,f1⟩:=b6.c2;go_wp2_with fail;refine O0 results84 underlying26 rfl M5 b6 rfl rfl ?_;exact⟨⟨_,_,_,rfl,HA.out,((L6.set (L6.set hV g2) g2).low (by have:=hB.size;omega))⟩,K6 e5 (Nat.le_succ _) _ _⟩
   ·obtain⟨⟨z0,z1⟩,-⟩:=kY.c2;go_wp2_with fail;refine (Ge b' _ _ e4).mono ?_;rintro e wb ⟨⟨j8,m5,rfl,d4⟩,e7⟩;have kR:=kR.up e7 kR.2.2;have kX:=kX.up e7 kX.2.2;have kY:=kY.up e7 kY.2.2;have e4:=e4.up e7;have hB:=D5 hB e7;have b5:=D5 b5 e7;clear z0 z1 e7;cases m5
    ·have HA:Hid (AL b nm tg 6 b):=HA6.out Hpt.out Htk.out ⟨ss,g3⟩ ⟨j8,d4⟩;obtain⟨⟨y0,y1⟩,f0,f1⟩:=kR.c2;obtain⟨⟨z0,z1⟩,-⟩:=kX.c2;go_wp2_with fail;refine O0 results84 underlying26 rfl M5 kR rfl rfl ?_;exact⟨⟨_,_,_,rfl,HA.out,Hback.out _ b5⟩,K6 hB (Nat.le_succ _) _ _⟩
    ·have HA:Hid (AL b nm tg 0 b'):=HA0.out Hpt.out Htk.out (.inr ⟨j8,d4⟩);obtain⟨⟨z0,z1⟩,-⟩:=kY.c2;go_wp2_with fail;refine (Hcopy.out _ _ e4).mono ?_;rintro e m4 ⟨⟨v',rfl,hV⟩,b7⟩;obtain⟨k4,k5,k6,k7,k8,rfl,-⟩:=hV.parts;have b6:=kR.up b7 kR.2.2;have g2:=kR.2.2;have e5:=D5 hB b7;clear z0 z1;obtain⟨⟨y0,y1⟩,f0,f1⟩:=b6.c2;go_wp2_with fail;refine O0 results84 underlying26 rfl M5 b6 rfl rfl ?_;exact⟨⟨_,_,_,rfl,HA.out,((L6.set (L6.set hV g2) g2).low (by have:=hB.size;omega))⟩,K6 e5 (Nat.le_succ _) _ _⟩
end Go.Proofs.YtmonodehegcfhaaGreatDoor
