/- The specification's ShareAsk. -/
import Derived.Test.YtmfjakieahkacaaGreatDoorJ17
import Derived.Test.YtmfjakieahkacaaGreatDoorJ14
namespace Go.Proofs.YtmfjakieahkacaaGreatDoor
open Go.RowKit
theorem E5.txt{w:World}{base:Nat}{u:Value}{ss:List ByteArray}(h:E5 w base u ss)(hn:NN u):Fv w u ss:=by
 rcases h.lst with⟨h0,_⟩|h1
 ·obtain⟨g,n,c,rfl⟩:=hn;cases h0
 ·exact h1
def Cr(b:Bk)(nm:ByteArray)(tg:List ByteArray)(cd:Int)(b':Bk):Prop :=
 (I1 b=false/\cd=1/\b'=S7)∨
 (I1 b=true/\D2 (I9 b.bs) nm=false/\cd=3/\b'=b)∨
 (I1 b=true/\D2 (I9 b.bs) nm=true/\pB (J9 tg (O6 b nm))=false/\cd=2/\b'=b)∨
 (I1 b=true/\D2 (I9 b.bs) nm=true/\pB (J9 tg (O6 b nm))=true/\T4 b.bs (I3 b nm:Int) tg/\cd=5/\b'=b)∨
 (I1 b=true/\D2 (I9 b.bs) nm=true/\pB (J9 tg (O6 b nm))=true/\¬T4 b.bs (I3 b nm:Int) tg/\(∃ss,U4 b ss true)/\(∃ss,U4 (X8 b (I3 b nm) (N6 tg)) ss false)/\cd=6/\b'=b)∨
 (I1 b=true/\D2 (I9 b.bs) nm=true/\pB (J9 tg (O6 b nm))=true/\¬T4 b.bs (I3 b nm:Int) tg/\((∃ss,U4 b ss false)∨∃ss,U4 (X8 b (I3 b nm) (N6 tg)) ss true)/\cd=0/\b'=X8 b (I3 b nm) (N6 tg))
set_option maxRecDepth 20000 in
set_option maxHeartbeats 4000000 in
theorem JZ(b:Bk)(v nv:Value)(nm:ByteArray)(tg:List ByteArray)(w:World)(h:K0 w v b)(hN:Ls w nv tg)(hnn:tg.length<=1048576):
  Calls Tryz.prog 6 #[v,.string nm,nv] w λe w'=>(∃v' cd b',e=.returned (.tuple #[v',.int .i64 cd])/\Cr b nm tg cd b'/\O5 w' w.heap.size v' b')/\Below w.heap.size w w':=by
 have hsz:=h.szb;obtain⟨a1,c1,a2,c2,rfl,t1,-⟩:=h.parts;obtain⟨a9,c9,rfl,-,hNz,-⟩:=id hN;obtain⟨ii,hi,iz0,iz1,iz2⟩:=info_parts Cq;obtain⟨W1,hW1,kA,kR,hB1,hs1⟩:=cbE2 w [.slice a1 (b).tg.length c1,.slice a2 (b).bs.length c2] 26 [.slice none 0 0,.slice none 0 0] 26;go_enter Tryz.func6,Tryz.ntmps6;go_upto_region 1 with fail;try rw[hW1]
 clear hW1;have hk:=h.up hB1;have hN:=hN.up hB1;have t1:=t1.up hB1;clear h;obtain⟨e0,e1⟩:=kA.c2';go_wp2_with fail;refine (CY b _ _ hk).mono ?_;rintro e w2 ⟨rfl,hb2⟩;have hz2:=hb2.size;have kA:=kA.up hb2 (by omega);have kR:=kR.up hb2 (by omega);have hk:=hk.up hb2;have hN:=hN.up hb2;have t1:=t1.up hb2;have hB:=D1 hB1 hb2;clear e0 e1 hB1 hb2;cases hok:I1 b
 ·obtain⟨⟨y0,y1⟩,f0,f1⟩:=kR.c2;have HA:Hid (Cr b nm tg 1 S7):=.inl ⟨hok,rfl,rfl⟩;go_wp2_with fail;refine S3 Tryz.results6 Tryz.underlying26 rfl L9 kR rfl rfl ?_;exact⟨⟨_,_,_,rfl,HA.out,FF _ _⟩,I7 hB (Nat.le_succ _) _ _⟩
 obtain⟨e0,e1⟩:=kA.c2';go_wp2_with fail;refine (Ga b _ _ hk (Bj hok)).mono ?_;rintro e w3 ⟨⟨xv,rfl,hX⟩,hb3⟩;obtain⟨a3,c3,a4,c4,ps,rfl,x1,x2,x3⟩:=hX.parts;have hz3:=hb3.size;have kA:=kA.up hb3 (by omega);have kR:=kR.up hb3 (by omega);have hk:=hk.up hb3;have hN:=hN.up hb3;have t1:=t1.up hb3;have hB:=D1 hB hb3;clear e0 e1 hb3 hX;go_upto_region 4 with fail;obtain⟨W4,hW4,kX,hb4,hs4⟩:=cbE1 w3 [.slice a3 b.tg.length c3,.slice a4 b.bs.length c4] 26;rw[hW4];clear hW4;have kA:=kA.up hb4 (by omega);have kR:=kR.up hb4 (by omega);have hk:=hk.up hb4;have hN:=hN.up hb4;have t1:=t1.up hb4;have hB:=D1 hB hb4;have X1:=x1;have X2:=x2;have hL:=hb4;clear hb4 x1 x2;obtain⟨e0,e1⟩:=kA.c2';go_wp2_with fail;refine (FG b _ nm _ hk).mono ?_;rintro e w5 ⟨rfl,hb5⟩;have hz5:=hb5.size;have kA:=kA.up hb5 (by omega);have kR:=kR.up hb5 (by omega);have kX:=kX.up hb5 (by omega);have hk:=hk.up hb5;have hN:=hN.up hb5;have hB:=D1 hB hb5;have hL:=D1 hL hb5;have HOK:Hid (I1 b=true):=hok;clear e0 e1 hb5 t1
 have back:∀(W:World),Below w5.heap.size w5 W->O5 ((W.setCell ⟨w.heap.size+1,0,none⟩ (.slice a3 b.tg.length c3)).setCell ⟨w.heap.size+1,1,none⟩ (.slice a4 b.bs.length c4)) w.heap.size (.agg #[.slice a3 b.tg.length c3,.slice a4 b.bs.length c4]) b:=λW hb=>by
  have hl:=D1 hL hb;exact ((O5.set (O5.set ⟨_,_,ps,rfl,X1.up hl,X2.up hl,x3⟩ (by omega)) (by omega)).low (by omega))
 have Hback:Hid (∀(W:World),Below w5.heap.size w5 W->O5 ((W.setCell ⟨w.heap.size+1,0,none⟩ (.slice a3 b.tg.length c3)).setCell ⟨w.heap.size+1,1,none⟩ (.slice a4 b.bs.length c4)) w.heap.size (.agg #[.slice a3 b.tg.length c3,.slice a4 b.bs.length c4]) b):=back;clear back;cases hm:D2 (I9 b.bs) nm
 ·have HA:Hid (Cr b nm tg 3 b):=.inr (.inl ⟨hok,hm,rfl,rfl⟩);rw[BH hm];obtain⟨⟨y0,y1⟩,f0,f1⟩:=kR.c2;obtain⟨⟨z0,z1⟩,-⟩:=kX.c2;go_wp2_with fail;refine S3 Tryz.results6 Tryz.underlying26 rfl L9 kR rfl rfl ?_;exact⟨⟨_,_,_,rfl,HA.out,Hback.out _ (A4 _ _)⟩,I7 hB (Nat.le_succ _) _ _⟩
 obtain⟨hidx,hlt⟩:=Dv hm;rw[hidx];have HA2:Hid (pB (J9 tg (O6 b nm))=false->Cr b nm tg 2 b):=λh=>.inr (.inr (.inl ⟨hok,hm,h,rfl,rfl⟩));have HA5:Hid (pB (J9 tg (O6 b nm))=true->T4 b.bs (I3 b nm:Int) tg->Cr b nm tg 5 b):=λh h2=>.inr (.inr (.inr (.inl ⟨hok,hm,h,h2,rfl,rfl⟩)));have HA6:Hid (pB (J9 tg (O6 b nm))=true->¬T4 b.bs (I3 b nm:Int) tg->(∃ss,U4 b ss true)->(∃ss,U4 (X8 b (I3 b nm) (N6 tg)) ss false)->Cr b nm tg 6 b):=λh h2 h3 h4=>.inr (.inr (.inr (.inr (.inl ⟨hok,hm,h,h2,h3,h4,rfl,rfl⟩))));have HA0:Hid (pB (J9 tg (O6 b nm))=true->¬T4 b.bs (I3 b nm:Int) tg->((∃ss,U4 b ss false)∨∃ss,U4 (X8 b (I3 b nm) (N6 tg)) ss true)->Cr b nm tg 0 (X8 b (I3 b nm) (N6 tg))):=λh h2 h3=>.inr (.inr (.inr (.inr (.inr ⟨hok,hm,h,h2,h3,rfl,rfl⟩))));have Hna:Hid (O6 b nm=(b.bs[I3 b nm]).nd):=BO (A0 hlt);generalize I3 b nm=p at *;obtain⟨s1,s2,s3⟩:=Br (Bj hok);obtain⟨s4,s5⟩:=s3 b.bs[p] (by simp);have hsx:=hsz.2 b.bs[p] (by simp);obtain⟨-,hpos⟩:=hk.bsOf.at;obtain⟨bb,o,rfl,hS,hbl⟩:=hpos (by omega);obtain⟨a5,d5,a6,d6,-,-,q5,-,l6,-⟩:=(hS.at hlt).cells;have HX0:Hid (b.bs[p]?=some b.bs[p]):=A0 hlt;generalize b.bs[p]=x0 at *;obtain⟨e0,e1⟩:=kA.c2';go_wp2_with fail;refine (Cx tg x0.nd _ _ _ hN l6).mono ?_;rintro e w6 ⟨rfl,md,hmd⟩;have hb6:Below w5.heap.size w5 w6:=by rw[hmd];exact M3 (A4 _ _) md
 have hz6:=hb6.size;have kA:=kA.up hb6 (by omega);have kR:=kR.up hb6 (by omega);have kX:=kX.up hb6 (by omega);have hN:=hN.up hb6;have hk:=hk.up hb6;have hB:=D1 hB hb6;clear hmd e0 e1 q5 l6 hS hpos;cases hpt:pB (J9 tg x0.nd)
 ·have HA:Hid (Cr b nm tg 2 b):=HA2.out (by rw[Hna.out];exact hpt);obtain⟨⟨y0,y1⟩,f0,f1⟩:=kR.c2;obtain⟨⟨z0,z1⟩,-⟩:=kX.c2;go_wp2_with fail;refine S3 Tryz.results6 Tryz.underlying26 rfl L9 kR rfl rfl ?_;exact⟨⟨_,_,_,rfl,HA.out,Hback.out _ hb6⟩,I7 hB (Nat.le_succ _) _ _⟩
 have Hpt:Hid (pB (J9 tg (O6 b nm))=true):=by show _=_;rw[Hna.out];exact hpt
 have Hpart:Hid (J9 tg x0.nd):=O7.1 hpt;clear hpt HA2;obtain⟨e0,e1⟩:=kA.c2';go_wp2_with fail;refine (QV b _ _ p tg _ hk hN).mono ?_;rintro e w7 ⟨rfl,hb7⟩;have hz7:=hb7.size;have kA:=kA.up hb7 (by omega);have kR:=kR.up hb7 (by omega);have kX:=kX.up hb7 (by omega);have hN:=hN.up hb7;have hk:=hk.up hb7;have hB:=D1 hB hb7;have hb57:=D1 hb6 hb7;clear e0 e1 hb6 hb7;cases htk:pB (T4 b.bs (p:Int) tg)
 case true =>
  have HA:Hid (Cr b nm tg 5 b):=HA5.out Hpt.out (O7.1 htk);obtain⟨⟨y0,y1⟩,f0,f1⟩:=kR.c2;obtain⟨⟨z0,z1⟩,-⟩:=kX.c2;go_wp2_with fail;refine S3 Tryz.results6 Tryz.underlying26 rfl L9 kR rfl rfl ?_;exact⟨⟨_,_,_,rfl,HA.out,Hback.out _ hb57⟩,I7 hB (Nat.le_succ _) _ _⟩
 have Htk:Hid (¬T4 b.bs (p:Int) tg):=Bd.1 htk;clear htk HA5;obtain⟨e0,e1⟩:=kA.c2';go_wp2_with fail;refine (Fg b _ _ hk (by omega) (by omega) (λy hy=>by have:=s3 y hy;omega)).mono ?_;rintro e w8 ⟨⟨tu,bu,qs,rfl,y1,y2,y3,-,ynn⟩,hb8⟩;have kA0:=kA;have kR0:=kR;have kX0:=kX;have hk0:=hk;have hN0:=hN;have hB0:=hB;obtain⟨a7,c7,rfl⟩:=y1.lst.shape;have hqs:qs.length=b.bs.length:=by rw[← y3,B5]
 obtain⟨g,c8,hgp⟩:=T7 y2.1 (by omega);rw[hqs] at hgp;subst hgp;have hz8:=hb8.size;have kA:=kA.up hb8 (by omega);have kR:=kR.up hb8 (by omega);have kX:=kX.up hb8 (by omega);have hN:=hN.up hb8;have hk:=hk.up hb8;have hB:=D1 hB hb8;have hb58:=D1 hb57 hb8;have hb78:=hb8;have kA7:=kA0;have kR7:=kR0;have kX7:=kX0;have hk7:=hk0;have hN7:=hN0;have hB7:=hB0;have hg8:=y2.1.lt g rfl;have hb57k:=hb57;clear e0 e1 hb57 hb8;go_upto_region 12 with fail;obtain⟨W9,hW9,kY,hb9,hs9⟩:=cbE1 w8 [.slice a7 b.tg.length c7,.slice (some ⟨g,0,none⟩) b.bs.length c8] 26;rw[hW9];clear hW9
 obtain⟨⟨x0',hv0,nv0⟩,hpv,hpx⟩:∃pv:Bv,qs[p]?=some pv/\pv.1=x0:=by
  have h:=HX0.out;rw[← y3,A9,B6] at h;exact h
 obtain rfl:x0'=x0:=hpx;have hx8:=y2.2 _ (A6 hpv);have Hnn0:Hid (NN hv0):=ynn _ (A6 hpv);have Hqv:Hid (qs[p]?=some (x0',hv0,nv0)):=hpv;have row8:=y2.1;rw[hqs] at row8
 have hset0:qs.set p (x0',hv0,nv0)=qs:=List.ext_getElem? λj=>by
  rw[List.getElem?_set];by_cases e:p=j
  ·subst e;rw[if_pos rfl,if_pos (by omega),hpv]
  ·rw[if_neg e]
 have hb79:Below w7.heap.size w7 W9:=hb78.trans (hb9.mono hz8);have hgo:(Value.slice (some ⟨g,0,none⟩) b.bs.length c8).ownBlock=some g:=rfl;have hpn:=Z5 Hpart.out;obtain⟨-,-,hposN⟩:=hN7.inv;have Hxn:Hid (x0'.nm.size<=maxLen):=hx8.2.2;clear kA kR kX hN hk hB hpv ynn;go_wp2_with fail
 go_loopw [11] (λi w'=>∃(k:Nat)(hv:Value),k<=tg.length/\i=.int .i64 k/\w'.ownsRow w7.heap.size 49 3 (.slice (some ⟨g,0,none⟩) b.bs.length c8) b.bs.length (I8 (qs.set p ((⟨x0'.nm,U1 x0'.has (tg.take k),x0'.nd⟩,hv,nv0):Bv)))/\E5 w' w7.heap.size hv (U1 x0'.has (tg.take k))/\NN hv/\
   (∀q∈qs,E5 w' w7.heap.size q.2.1 q.1.has/\E5 w' w7.heap.size q.2.2 q.1.nd/\q.1.nm.size<=maxLen)/\CB w' w8.heap.size [.slice a7 b.tg.length c7,.slice (some ⟨g,0,none⟩) b.bs.length c8]/\E5 w' w7.heap.size (.slice a7 b.tg.length c7) b.tg/\Below w7.heap.size w7 w') (λi _=>tg.length-(intOf i).toNat)
 case atStart=>exact⟨0,hv0,by omega,rfl,by rw[show (⟨x0'.nm,U1 x0'.has (tg.take 0),x0'.nd⟩:Ba)=x0' from rfl,hset0];exact P8 row8 hb9,hx8.1.up hb9,Hnn0.out,λq hq=>by
   obtain⟨q1,q2,q3⟩:=y2.2 q hq;exact⟨q1.up hb9,q2.up hb9,q3⟩,kY,y1.up hb9,hb79⟩
 case round =>
  clear kY hb9 hb79 row8 hx8 y1 y2 hset0 hs9;obtain⟨k,hv,hk,rfl,row,hoh,hnn,hlists,kY,hot,hBk⟩:=hrel;obtain⟨gh,nh,ch,rfl⟩:=hnn;by_cases hp:k<tg.length
  ·obtain⟨tb,tof,rfl,hST,htl⟩:=hposN (by omega);have cT:=(hBk.cell (p:=⟨tb,tof+k,none⟩) htl).trans (hST.cell hp);have HI:Hid (U1 x0'.has (tg.take (k+1))=S4 (U1 x0'.has (tg.take k)) tg[k]):=QO _ _ _ hp;have hil:(U1 x0'.has (tg.take k)).length<=1000:=B3 (Hf _ _) (by rw[B8];omega);generalize tg[k]=s0 at *;have hT:=hoh.txt ⟨_,_,_,rfl⟩;generalize U1 x0'.has (tg.take k)=is at *;have hset:(qs.set p ((⟨x0'.nm,is,x0'.nd⟩,.slice (some ⟨gh,0,none⟩) nh ch,nv0):Bv))[p]?=some (⟨x0'.nm,is,x0'.nd⟩,.slice (some ⟨gh,0,none⟩) nh ch,nv0):=by rw[List.getElem?_set,if_pos rfl,if_pos (by omega)]
   have r1:=(row.cellAt (p*3+1) (by omega)).trans (U5 _ p _ hset 1 _ rfl);obtain⟨⟨z0,z1⟩,-⟩:=kY.c2;have hyl:=kY.2.2;have hgl:=(row.lt g rfl).2;have htl2:=A1 htl hBk.size;have mk:∀W,Below wr.heap.size wr W->World.cell? W ⟨w8.heap.size,1,none⟩=some (.slice (some ⟨g,0,none⟩) b.bs.length c8)/\World.cell? W ⟨g,p*3+1,none⟩=some (.slice (some ⟨gh,0,none⟩) nh ch)/\World.cell? W ⟨tb,tof+k,none⟩=some (.string s0):=λW hb=>⟨(hb.cell (p:=⟨w8.heap.size,1,none⟩) hyl).trans z1,(hb.cell (p:=⟨g,p*3+1,none⟩) hgl).trans r1,(hb.cell (p:=⟨tb,tof+k,none⟩) htl2).trans cT⟩;have Mk:Hid (∀W,Below wr.heap.size wr W->World.cell? W ⟨w8.heap.size,1,none⟩=some (.slice (some ⟨g,0,none⟩) b.bs.length c8)/\World.cell? W ⟨g,p*3+1,none⟩=some (.slice (some ⟨gh,0,none⟩) nh ch)/\World.cell? W ⟨tb,tof+k,none⟩=some (.string s0)):=mk;have hbd:Below wr.heap.size wr wr.drew:=(A4 _ _).drew;have hS1:=mk _ hbd;clear mk z0 z1 r1 cT;go_wp2_with fail;refine M4 16 (λw'=>World.cell? w' ⟨w8.heap.size,1,none⟩=some (.slice (some ⟨g,0,none⟩) b.bs.length c8)/\World.cell? w' ⟨g,p*3+1,none⟩=some (.slice (some ⟨gh,0,none⟩) nh ch)/\World.cell? w' ⟨tb,tof+k,none⟩=some (.string s0)) (by kernel_rfl) ?_;refine E6 0 rfl hS1 ?_;refine E6 1 rfl hS1 ?_;refine E6 2 rfl hS1 ?_;refine E6 3 rfl hS1 ?_;refine E6 4 rfl hS1 ?_;refine E6 5 rfl hS1 ?_;refine E6 6 rfl hS1 ?_;refine E6 7 rfl hS1 ?_;refine E6 8 rfl hS1 ?_;refine E6 9 rfl hS1 ?_;refine E6 10 rfl hS1 ?_;refine E6 11 rfl hS1 ?_;refine E6 12 rfl hS1 ?_;refine K4 13 rfl (λK hK=>?_);go_simp;go_wp2_with (go_at_call 22;refine (Pq is _ s0 _ (hT.up hbd) hil).mono ?_;rintro e wi ⟨⟨u,rfl,hTu,hor⟩,hbi⟩;have hbi:=D1 hbd hbi;have hSi:=Mk.out _ hbi)
   obtain⟨gu,cu,hgu,-⟩:=id hTu;subst hgu
   have hou:E5 wi w7.heap.size (.slice (some ⟨gu,0,none⟩) (S4 is s0).length cu) (S4 is s0):=by
    rcases hor with⟨h1,h2⟩|h
    ·rw[h1,h2];exact hoh.up hbi
    ·exact N3 h (by have:=hBk.size;simpa using this)
   have rowi:=P8 row hbi;have f1:=rowi.frozenAt (p*3+1);have r1:=hSi.2.1;clear hor hTu hT hoh;refine K9 hK hSi ?_;clear hK K;refine K4 14 rfl (λK hK=>?_);go_simp;refine K9 hK hSi ?_;clear hK K;refine E6 15 rfl hSi ?_;refine K4 16 rfl (λK hK=>?_);go_simp;refine Cj hK ?_;clear hK K;refine N2 (by kernel_rfl) ?_ _;have st:=rowi.stored (p*3+1) (.slice (some ⟨gu,0,none⟩) (S4 is s0).length cu);rw[Fh _ p _ _ ⟨x0'.nm,S4 is s0,x0'.nd⟩ hset rfl,List.set_set] at st;have gr:=st.2;have Hst:=st.1
   have HL:Hid (∀q∈qs,E5 (wi.setCell ⟨g,p*3+1,none⟩ (.slice (some ⟨gu,0,none⟩) (S4 is s0).length cu)) w7.heap.size q.2.1 q.1.has/\E5 (wi.setCell ⟨g,p*3+1,none⟩ (.slice (some ⟨gu,0,none⟩) (S4 is s0).length cu)) w7.heap.size q.2.2 q.1.nd/\q.1.nm.size<=maxLen):=λq hq=>by
    obtain⟨q1,q2,q3⟩:=hlists q hq;exact⟨X6 (q1.up hbi) rowi (hgo ▸ gr),X6 (q2.up hbi) rowi (hgo ▸ gr),q3⟩
   have hou2:=X6 hou rowi (hgo ▸ gr);have hot2:=X6 (hot.up hbi) rowi (hgo ▸ gr);have kY2:=(kY.up hbi hyl).kept gr (by simp;omega);have hB2:Below w7.heap.size w7 (wi.setCell ⟨g,p*3+1,none⟩ (.slice (some ⟨gu,0,none⟩) (S4 is s0).length cu)):=(hBk.trans (hbi.mono hBk.size)).setCell (p:=⟨g,p*3+1,none⟩) hg8.1 _;clear st gr rowi row hou hot kY hlists hS1 hSi r1 f1 Mk hset hbd hbi hBk;go_wp2_with fail;go_roundw
   case rel=>exact⟨k+1,.slice (some ⟨gu,0,none⟩) (S4 is s0).length cu,by omega,by go_num,by rw[HI.out];exact Hst,by rw[HI.out];exact hou2,⟨_,_,_,rfl⟩,HL.out,kY2,hot2,hB2⟩
   case measure=>simp[intOf];omega
  ·obtain rfl:k=tg.length:=by omega
   rw[List.take_length] at row hoh
   have hW:Bp wr w7.heap.size (.slice (some ⟨g,0,none⟩) b.bs.length c8) (qs.set p ((N6 tg x0',.slice (some ⟨gh,0,none⟩) nh ch,nv0):Bv)):=IU row rfl (by rw[List.length_set,hqs]) (λq hq=>by
    rcases List.mem_or_eq_of_mem_set hq with h|rfl
    ·exact hlists q h
    ·exact⟨hoh,(hlists _ (A6 Hqv.out)).2.1,Hxn.out⟩)
   have hmap:(qs.set p ((N6 tg x0',.slice (some ⟨gh,0,none⟩) nh ch,nv0):Bv)).map (·.1)=b.bs.set p (N6 tg x0'):=by rw[List.map_set,y3]
   have hmem':∀y∈b.bs.set p (N6 tg x0'),y∈b.bs∨y=N6 tg x0':=λy hy=>List.mem_or_eq_of_mem_set hy;have hbk':O5 wr w7.heap.size (.agg #[.slice a7 b.tg.length c7,.slice (some ⟨g,0,none⟩) b.bs.length c8]) ⟨b.tg,b.bs.set p (N6 tg x0')⟩:=⟨_,_,_,rfl,hot,hW,hmap⟩
   have hbv:=hbk'.bk ⟨hsz.1,λy hy=>by
    rcases hmem' y hy with h|rfl
    ·exact hsz.2 y h
    ·exact⟨λs hs=>by
      rcases DY _ _ s hs with h|h
      ·exact hsx.1 s h
      ·exact hNz s h,hsx.2⟩⟩
   have Hcopy:Hid (∀(v:Value)(w:World),K0 w v ⟨b.tg,b.bs.set p (N6 tg x0')⟩->Calls Tryz.prog 18 #[v] w λe w'=>(∃v',e=.returned v'/\O5 w' w.heap.size v' ⟨b.tg,b.bs.set p (N6 tg x0')⟩)/\Below w.heap.size w w'):=λv w h=>Gb _ v w h (by show b.tg.length<=100;omega) (by show (b.bs.set p (N6 tg x0')).length<=100;rw[List.length_set];omega) (λy hy=>by
    rcases hmem' y hy with h|rfl
    ·have:=s3 y h;omega
    ·have h1:=Hf x0'.has tg;show (U1 x0'.has tg).length<=100/\x0'.nd.length<=100
     omega)
   have Hch:Hid (X8 b p (N6 tg)=⟨b.tg,b.bs.set p (N6 tg x0')⟩):=Ck HX0.out;rw[Hch.out] at HA6 HA0;clear hmem' hmap hW hbk' hot hoh hlists row Hqv HX0;generalize (⟨b.tg,b.bs.set p (N6 tg x0')⟩:Bk)=b' at *;have kA:=kA7.up hBk (by omega);have kR:=kR7.up hBk (by omega);have kX:=kX7.up hBk (by omega);have hk:=hk7.up hBk;have hB:=D1 hB7 hBk;have hb5r:Below w5.heap.size w5 wr:=D1 hb57k hBk;clear kA7 kR7 kX7 hk7 hB7;obtain⟨e0,e1⟩:=kA.c2';go_wp2_with fail;refine (IX b _ _ hk).mono ?_;rintro e wa ⟨⟨ss,ok,rfl,hord⟩,hba⟩;have kR:=kR.up hba kR.2.2;have kX:=kX.up hba kX.2.2;have kY:=kY.up hba kY.2.2;have hbv:=hbv.up hba;have hB:=D1 hB hba;have hb5r:=D1 hb5r hba;clear e0 e1 hba kA hk;cases ok
   ·have HA:Hid (Cr b nm tg 0 b'):=HA0.out Hpt.out Htk.out (.inl ⟨ss,hord⟩);obtain⟨⟨z0,z1⟩,-⟩:=kY.c2;go_wp2_with fail;refine (Hcopy.out _ _ hbv).mono ?_;rintro e w12 ⟨⟨v',rfl,hV⟩,hb12⟩;obtain⟨a10,c10,a11,c11,qs',rfl,-⟩:=hV.parts;have kR12:=kR.up hb12 kR.2.2;have hrl:=kR.2.2;have hB12:=D1 hB hb12;clear z0 z1;obtain⟨⟨y0,y1⟩,f0,f1⟩:=kR12.c2;go_wp2_with fail;refine S3 Tryz.results6 Tryz.underlying26 rfl L9 kR12 rfl rfl ?_;exact⟨⟨_,_,_,rfl,HA.out,((O5.set (O5.set hV hrl) hrl).low (by have:=hB.size;omega))⟩,I7 hB12 (Nat.le_succ _) _ _⟩
   ·obtain⟨⟨z0,z1⟩,-⟩:=kY.c2;go_wp2_with fail;refine (IX b' _ _ hbv).mono ?_;rintro e wb ⟨⟨ss2,FJ,rfl,hord2⟩,hbb⟩;have kR:=kR.up hbb kR.2.2;have kX:=kX.up hbb kX.2.2;have kY:=kY.up hbb kY.2.2;have hbv:=hbv.up hbb;have hB:=D1 hB hbb;have hb5r:=D1 hb5r hbb;clear z0 z1 hbb;cases FJ
    ·have HA:Hid (Cr b nm tg 6 b):=HA6.out Hpt.out Htk.out ⟨ss,hord⟩ ⟨ss2,hord2⟩;obtain⟨⟨y0,y1⟩,f0,f1⟩:=kR.c2;obtain⟨⟨z0,z1⟩,-⟩:=kX.c2;go_wp2_with fail;refine S3 Tryz.results6 Tryz.underlying26 rfl L9 kR rfl rfl ?_;exact⟨⟨_,_,_,rfl,HA.out,Hback.out _ hb5r⟩,I7 hB (Nat.le_succ _) _ _⟩
    ·have HA:Hid (Cr b nm tg 0 b'):=HA0.out Hpt.out Htk.out (.inr ⟨ss2,hord2⟩);obtain⟨⟨z0,z1⟩,-⟩:=kY.c2;go_wp2_with fail;refine (Hcopy.out _ _ hbv).mono ?_;rintro e w12 ⟨⟨v',rfl,hV⟩,hb12⟩;obtain⟨a10,c10,a11,c11,qs',rfl,-⟩:=hV.parts;have kR12:=kR.up hb12 kR.2.2;have hrl:=kR.2.2;have hB12:=D1 hB hb12;clear z0 z1;obtain⟨⟨y0,y1⟩,f0,f1⟩:=kR12.c2;go_wp2_with fail;refine S3 Tryz.results6 Tryz.underlying26 rfl L9 kR12 rfl rfl ?_;exact⟨⟨_,_,_,rfl,HA.out,((O5.set (O5.set hV hrl) hrl).low (by have:=hB.size;omega))⟩,I7 hB12 (Nat.le_succ _) _ _⟩
end Go.Proofs.YtmfjakieahkacaaGreatDoor
