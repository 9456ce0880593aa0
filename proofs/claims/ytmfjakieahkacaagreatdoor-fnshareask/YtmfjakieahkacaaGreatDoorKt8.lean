/- The specification's ShareLess. -/
import Derived.Test.YtmfjakieahkacaaGreatDoorJ17
namespace Go.Proofs.YtmfjakieahkacaaGreatDoor
open Go.RowKit
set_option maxRecDepth 20000 in
set_option maxHeartbeats 4000000 in
theorem Pt(b:Bk)(v nv:Value)(nm:ByteArray)(nd:List ByteArray)(w:World)(h:K0 w v b)(hN:Ls w nv nd)(hnn:nd.length<=1048576):
  Calls Tryz.prog 113 #[v,.string nm,nv] w λe w'=>(∃v',e=.returned (.tuple #[v',.int .i64 (BC b nm nd)])/\O5 w' w.heap.size v' (AX b nm nd))/\Below w.heap.size w w':=by
 have hsz:=h.szb;obtain⟨a1,c1,a2,c2,rfl,t1,-⟩:=h.parts;obtain⟨a9,c9,rfl,-,hNz,-⟩:=id hN;obtain⟨ii,hi,iz0,iz1,iz2⟩:=info_parts Cq;obtain⟨W1,hW1,kA,kR,hB1,hs1⟩:=cbE2 w [.slice a1 (b).tg.length c1,.slice a2 (b).bs.length c2] 26 [.slice none 0 0,.slice none 0 0] 26;go_enter Tryz.func113,Tryz.ntmps113;go_upto_region 1 with fail;try rw[hW1]
 clear hW1;have hk:=h.up hB1;have hN:=hN.up hB1;have t1:=t1.up hB1;clear h;obtain⟨e0,e1⟩:=kA.c2';go_wp2_with fail;refine (CY b _ _ hk).mono ?_;rintro e w2 ⟨rfl,hb2⟩;have hz2:=hb2.size;have kA:=kA.up hb2 (by omega);have kR:=kR.up hb2 (by omega);have hk:=hk.up hb2;have hN:=hN.up hb2;have t1:=t1.up hb2;have hB:=D1 hB1 hb2;clear e0 e1 hB1 hb2;cases hok:I1 b
 ·obtain⟨⟨y0,y1⟩,f0,f1⟩:=kR.c2;have HC:Hid (BC b nm nd=1/\AX b nm nd=S7):=RC hok;go_wp2_with fail;refine S3 Tryz.results113 Tryz.underlying26 rfl L9 kR rfl rfl ?_;exact⟨⟨_,BZ HC.out.1.symm,by rw[HC.out.2];exact FF _ _⟩,I7 hB (Nat.le_succ _) _ _⟩
 obtain⟨e0,e1⟩:=kA.c2';go_wp2_with fail;refine (Ga b _ _ hk (Bj hok)).mono ?_;rintro e w3 ⟨⟨xv,rfl,hX⟩,hb3⟩;obtain⟨a3,c3,a4,c4,ps,rfl,x1,x2,x3⟩:=hX.parts;have hz3:=hb3.size;have kA:=kA.up hb3 (by omega);have kR:=kR.up hb3 (by omega);have hk:=hk.up hb3;have hN:=hN.up hb3;have t1:=t1.up hb3;have hB:=D1 hB hb3;clear e0 e1 hb3 hX;go_upto_region 4 with fail;obtain⟨W4,hW4,kX,hb4,hs4⟩:=cbE1 w3 [.slice a3 b.tg.length c3,.slice a4 b.bs.length c4] 26;rw[hW4];clear hW4;have kA:=kA.up hb4 (by omega);have kR:=kR.up hb4 (by omega);have hk:=hk.up hb4;have hN:=hN.up hb4;have t1:=t1.up hb4;have hB:=D1 hB hb4;have X1:=x1;have X2:=x2;have hL:=hb4;clear hb4 x1 x2;obtain⟨e0,e1⟩:=kA.c2';go_wp2_with fail;refine (FG b _ nm _ hk).mono ?_;rintro e w5 ⟨rfl,hb5⟩;have hz5:=hb5.size;have kA:=kA.up hb5 (by omega);have kR:=kR.up hb5 (by omega);have kX:=kX.up hb5 (by omega);have hk:=hk.up hb5;have hN:=hN.up hb5;have hB:=D1 hB hb5;have hL:=D1 hL hb5;have HOK:Hid (I1 b=true):=hok;clear e0 e1 hb5 t1
 have back:∀(W:World)(cd:Int),Below w5.heap.size w5 W->BC b nm nd=cd/\AX b nm nd=b->∃v',(Ending.returned (.tuple #[.agg #[.slice a3 b.tg.length c3,.slice a4 b.bs.length c4],.int .i64 cd])=Ending.returned (.tuple #[v',.int .i64 (BC b nm nd)]))/\
   O5 ((W.setCell ⟨w.heap.size+1,0,none⟩ (.slice a3 b.tg.length c3)).setCell ⟨w.heap.size+1,1,none⟩ (.slice a4 b.bs.length c4)) w.heap.size v' (AX b nm nd):=λW cd hb hc=>by
  have hl:=D1 hL hb;refine⟨_,BZ hc.1.symm,?_⟩;rw[hc.2];exact ((O5.set (O5.set ⟨_,_,ps,rfl,X1.up hl,X2.up hl,x3⟩ (by omega)) (by omega)).low (by omega))
 have Hback:Hid (∀(W:World)(cd:Int),Below w5.heap.size w5 W->BC b nm nd=cd/\AX b nm nd=b->∃v',(Ending.returned (.tuple #[.agg #[.slice a3 b.tg.length c3,.slice a4 b.bs.length c4],.int .i64 cd])=Ending.returned (.tuple #[v',.int .i64 (BC b nm nd)]))/\
   O5 ((W.setCell ⟨w.heap.size+1,0,none⟩ (.slice a3 b.tg.length c3)).setCell ⟨w.heap.size+1,1,none⟩ (.slice a4 b.bs.length c4)) w.heap.size v' (AX b nm nd)):=back
 clear back;cases hm:D2 (I9 b.bs) nm
 ·have HC:Hid (BC b nm nd=3/\AX b nm nd=b):=Nd hok hm;rw[BH hm];obtain⟨⟨y0,y1⟩,f0,f1⟩:=kR.c2;obtain⟨⟨z0,z1⟩,-⟩:=kX.c2;go_wp2_with fail;refine S3 Tryz.results113 Tryz.underlying26 rfl L9 kR rfl rfl ?_;exact⟨Hback.out _ _ (A4 _ _) HC.out,I7 hB (Nat.le_succ _) _ _⟩
 obtain⟨hidx,hlt⟩:=Dv hm;rw[hidx];have Hp2:Hid (pB (J9 nd (O6 b nm))=false->BC b nm nd=2/\AX b nm nd=b):=λh=>Pr hok hm h;have Hp0:Hid (pB (J9 nd (O6 b nm))=true->BC b nm nd=0/\AX b nm nd=X8 b (I3 b nm) (Cd nd)):=λh=>Ps hok hm h;have Hna:Hid (O6 b nm=(b.bs[I3 b nm]).nd):=BO (A0 hlt);generalize I3 b nm=p at *;obtain⟨s1,s2,s3⟩:=Br (Bj hok);obtain⟨s4,s5⟩:=s3 b.bs[p] (by simp);have hsx:=hsz.2 b.bs[p] (by simp);obtain⟨-,hpos⟩:=hk.bsOf.at;obtain⟨bb,o,rfl,hS,hbl⟩:=hpos (by omega);obtain⟨a5,d5,a6,d6,-,q4,q5,l5,l6,-⟩:=(hS.at hlt).cells;have HX0:Hid (b.bs[p]?=some b.bs[p]):=A0 hlt;generalize b.bs[p]=x0 at *;obtain⟨e0,e1⟩:=kA.c2';have hAl:=kA.2.2;go_wp2_with fail;refine (Cx nd x0.nd _ _ _ hN l6).mono ?_;rintro e w6 ⟨rfl,md,hmd⟩;have hb6:Below w5.heap.size w5 w6:=by rw[hmd];exact M3 (A4 _ _) md
 have hz6:=hb6.size;have kR:=kR.up hb6 (by omega);have kX:=kX.up hb6 (by omega);have hN:=hN.up hb6;have hB:=D1 hB hb6;have hL:=D1 hL hb6;clear hmd;cases hpt:pB (J9 nd x0.nd)
 ·have HC:Hid (BC b nm nd=2/\AX b nm nd=b):=Hp2.out (by rw[Hna.out];exact hpt);obtain⟨⟨y0,y1⟩,f0,f1⟩:=kR.c2;obtain⟨⟨z0,z1⟩,-⟩:=kX.c2;go_wp2_with fail;refine S3 Tryz.results113 Tryz.underlying26 rfl L9 kR rfl rfl ?_;exact⟨Hback.out _ _ hb6 HC.out,I7 hB (Nat.le_succ _) _ _⟩
 have HC:Hid (BC b nm nd=0/\AX b nm nd=X8 b p (Cd nd)):=Hp0.out (by rw[Hna.out];exact hpt);have Hpart:Hid (J9 nd x0.nd):=O7.1 hpt;clear Hback Hp0 Hp2 Hna hpt;have e1:=(hb6.cell (p:=⟨w.heap.size,1,none⟩) hAl).trans e1;have q4:=(hb6.cell (p:=⟨bb,o+p*3+1,none⟩) hbl).trans q4;have l5:=l5.up hb6;have hAl:=A1 hAl hz6;have hbl:=A1 hbl hz6;obtain⟨-,-,hpos5⟩:=l5.inv;clear e0 q5 l6 hk hS kA hb6 hpos;obtain⟨is,his,js0,js1,js2⟩:=info_parts Z0;have hown0:E5 (w6.alloc (.cells #[] 9)) w6.heap.size (.slice (some ⟨w6.heap.size,0,none⟩) 0 0) []:=BM w6;have hb0:Below w6.heap.size w6 (w6.alloc (.cells #[] 9)):=(A4 _ _).alloc (A3 _) _;go_wp2_with fail;go_loopw [10,11] (λu i w'=>∃k:Nat,k<=x0.has.length/\i=.int .i64 k/\E5 w' w6.heap.size u ((x0.has.take k).filter (D2 nd))/\Below w6.heap.size w6 w') (λ_ i _=>x0.has.length-(intOf i).toNat)
 case atStart=>exact⟨0,by omega,rfl,by simpa using hown0,hb0⟩
 case round =>
  clear hown0 hb0;obtain⟨k,hk,rfl,hown,hBk⟩:=hrel;have e1:=(hBk.cell (p:=⟨w.heap.size,1,none⟩) hAl).trans e1;have q4:=(hBk.cell (p:=⟨bb,o+p*3+1,none⟩) hbl).trans q4;by_cases hp:k<x0.has.length
  ·obtain⟨hb5,ho5,rfl,hS5,hl5⟩:=hpos5 (by omega);have c5:=(hBk.cell (p:=⟨hb5,ho5+k,none⟩) hl5).trans (hS5.cell hp);have HF:Hid ((x0.has.take (k+1)).filter (D2 nd)=(x0.has.take k).filter (D2 nd)++(if D2 nd x0.has[k]=true then [x0.has[k]] else [])):=QR hp;have hfl:((x0.has.take k).filter (D2 nd)).length<=8:=B3 (List.length_filter_le _ _) (by rw[B8];omega);generalize x0.has[k]=s0 at *;obtain⟨fs,hfs⟩:∃fs,(x0.has.take k).filter (D2 nd)=fs:=⟨_,rfl⟩;rw[hfs] at hown hfl HF;clear hfs;go_wp2_with fail;refine (Bi nd _ s0 _ (hN.up hBk)).mono ?_;rintro e w' ⟨rfl,hw⟩;obtain rfl:=hw.symm;clear hw;cases hms:D2 nd s0
   ·have HF2:Hid ((x0.has.take (k+1)).filter (D2 nd)=fs):=by show _=_;rw[HF.out,hms];simp
    go_wp2_with fail;go_roundw
    case rel=>exact⟨k+1,by omega,by go_num,by rw[HF2.out];exact hown,hBk⟩
    case measure=>simp[intOf];omega
   ·have HF2:Hid ((x0.has.take (k+1)).filter (D2 nd)=fs++[s0]):=by show _=_;rw[HF.out,hms];simp
    have hownA:=World.ownsRow.alloc hown (.cells #[.string s0] 9);have hbA:Below w6.heap.size w6 (wr.alloc (.cells #[.string s0] 9)):=hBk.alloc hBk.size _;go_wp2_with (at_builtin;refine wpList_append_own _ rfl _ _ 23 rfl w6.heap.size 9 is _ 1 16 Tryz.underlying23 his js0 js1 js2 rfl (by decide) _ _ _ rfl hownA ⟨wr.heap.size,0,none⟩ 1 1 [.string s0] rfl rfl (Z1 _ _ _) (CJ s0) (by unfold maxLen;omega) (by omega) hbA.size ?_)
    intro v' w9 hown9 hgr9 _;have hB9:=N5 hbA hownA hgr9 (A3 _);have hO9:E5 w9 w6.heap.size v' (fs++[s0]):=by unfold E5;simpa using hown9
    clear hownA hbA hgr9 hown9 hown e1 q4 c5;go_wp2_with fail;go_roundw
    case rel=>exact⟨k+1,by omega,by go_num,by rw[HF2.out];exact hO9,hB9⟩
    case measure=>simp[intOf];omega
  ·obtain rfl:k=x0.has.length:=by omega
   rw[List.take_length] at hown;obtain⟨ah,ch,hah⟩:=hown.lst.shape;subst hah;have hps:ps.length=b.bs.length:=by rw[← x3,B5]
   have hLr:=D1 hL hBk;have hrow:=(X2.up hLr).1;rw[hps] at hrow;obtain⟨g,cp,hgp⟩:=T7 hrow (by omega);obtain⟨rfl,-,rfl⟩:=Value.slice.inj hgp;have hg3:=X2.1.lt g rfl
   obtain⟨⟨x0',hv0,nv0⟩,hpv,hpx⟩:∃pv:Bv,ps[p]?=some pv/\pv.1=x0:=by
    have h:=HX0.out;rw[← x3,A9,B6] at h;exact h
   obtain rfl:x0'=x0:=hpx;have Hpv:Hid (ps[p]?=some (x0',hv0,nv0)):=hpv;have kX:=kX.up hBk (by omega);have kR:=kR.up hBk (by omega);have hzk:=hBk.size;obtain⟨⟨z0,z1⟩,-⟩:=kX.c2;have hS1:World.cell? wr.drew ⟨w3.heap.size,1,none⟩=some (.slice (some ⟨g,0,none⟩) b.bs.length c4):=z1;have hxl:w3.heap.size<wr.heap.size:=by omega
   have hbd:Below wr.heap.size wr wr.drew:=(A4 _ _).drew;clear z0 z1 hgp hpv;go_wp2_with fail;clear e1 q4;refine M4 7 (λw'=>World.cell? w' ⟨w3.heap.size,1,none⟩=some (.slice (some ⟨g,0,none⟩) b.bs.length c4)) (by kernel_rfl) ?_;refine E6 0 rfl hS1 ?_;refine E6 1 rfl hS1 ?_;refine E6 2 rfl hS1 ?_;refine E6 3 rfl hS1 ?_;refine K4 4 rfl (λK hK=>?_);go_simp;go_wp2_with (go_at_call 42;refine (CE nd _ _ ((hN.up hBk).up hbd) hnn).mono ?_;rintro e w8 ⟨⟨nu,rfl,hon,-⟩,hb8⟩;have hb8:=D1 hbd hb8;obtain⟨an,cn,rfl⟩:=hon.lst.shape;have hS8:World.cell? w8 ⟨w3.heap.size,1,none⟩=some (.slice (some ⟨g,0,none⟩) b.bs.length c4):=(hb8.cell (p:=⟨w3.heap.size,1,none⟩) hxl).trans hS1)
   refine K9 hK hS8 ?_;clear hK K;have hrow8:=P8 hrow hb8;have r2:=(hrow8.cellAt (p*3+2) (by omega)).trans (U5 ps p _ Hpv.out 2 _ rfl);have f2:=hrow8.frozenAt (p*3+2);refine K4 5 rfl (λK hK=>?_);go_simp;refine K9 hK hS8 ?_;clear hK K;refine E6 6 rfl hS8 ?_;refine K4 7 rfl (λK hK=>?_);go_simp;refine Cj hK ?_;clear hK K;refine N2 (by kernel_rfl) ?_ _;have st9:=hrow8.stored (p*3+2) (.slice an nd.length cn);rw[Hg ps p _ _ ⟨x0'.nm,x0'.has,nd⟩ Hpv.out rfl] at st9;have hL8:=D1 hLr hb8
   have Hlist:Hid (∀q∈ps,E5 w8 w2.heap.size q.2.1 q.1.has/\E5 w8 w2.heap.size q.2.2 q.1.nd/\q.1.nm.size<=maxLen):=λq hq=>by
    obtain⟨q1,q2,q3⟩:=X2.2 q hq;exact⟨q1.up hL8,q2.up hL8,q3⟩
   have t8:=X1.up hL8;have hh8:=hown.up hb8;have kX8:=kX.up hb8 (by omega);have kR8:=kR.up hb8 (by omega);have hB8:=D1 (D1 hB hBk) hb8;clear hS1 hS8 r2 f2 hown hrow kX kR X1 X2 hbd;have gne1:¬w3.heap.size=g:=by omega
   have gne2:¬w.heap.size+1=g:=by omega
   have hgo:(Value.slice (some ⟨g,0,none⟩) b.bs.length c4).ownBlock=some g:=rfl;have gr9:=st9.2;have row9:=st9.1;have kX9:=kX8.kept gr9 (by simpa using gne1);have kR9:=kR8.kept gr9 (by simpa using gne2);have t9:=X6 t8 hrow8 (hgo ▸ gr9);have hh9:=X6 hh8 hrow8 (hgo ▸ gr9);have nn9:=X6 hon hrow8 (hgo ▸ gr9)
   have Hlist9:Hid (∀q∈ps,E5 (w8.setCell ⟨g,p*3+2,none⟩ (.slice an nd.length cn)) w2.heap.size q.2.1 q.1.has/\E5 (w8.setCell ⟨g,p*3+2,none⟩ (.slice an nd.length cn)) w2.heap.size q.2.2 q.1.nd/\q.1.nm.size<=maxLen):=λq hq=>by
    obtain⟨q1,q2,q3⟩:=Hlist.out q hq;exact⟨X6 q1 hrow8 (hgo ▸ gr9),X6 q2 hrow8 (hgo ▸ gr9),q3⟩
   have hB9:Below w.heap.size w (w8.setCell ⟨g,p*3+2,none⟩ (.slice an nd.length cn)):=hB8.setCell (p:=⟨g,p*3+2,none⟩) (by show _<=g;omega) _;have hz8:=hb8.size;have hlow1:w2.heap.size<=w6.heap.size:=by omega
   have hlow2:w2.heap.size<=wr.heap.size:=by omega
   clear st9 gr9 hrow8 kX8 kR8 t8 hh8 hon hB8 Hlist hL8 hb8 hLr hL hB hN;generalize w8.setCell ⟨g,p*3+2,none⟩ (.slice an nd.length cn)=W9 at *;have hset:(ps.set p ((⟨x0'.nm,x0'.has,nd⟩,hv0,.slice an nd.length cn):Bv))[p]?=some (⟨x0'.nm,x0'.has,nd⟩,hv0,.slice an nd.length cn):=by rw[List.getElem?_set,if_pos rfl,if_pos (by omega)]
   have r1:=(row9.cellAt (p*3+1) (by omega)).trans (U5 _ p _ hset 1 _ rfl);have f1:=row9.frozenAt (p*3+1);have st10:=row9.stored (p*3+1) (.slice ah (x0'.has.filter (D2 nd)).length ch);rw[Fh _ p _ _ (Cd nd x0') hset rfl,List.set_set] at st10;have Hset:Hid ((ps.set p ((Cd nd x0',.slice ah (x0'.has.filter (D2 nd)).length ch,.slice an nd.length cn):Bv)).map (·.1)=b.bs.set p (Cd nd x0')):=by show _=_;rw[List.map_set,x3]
   obtain⟨⟨z0,z1⟩,-⟩:=kX9.c2;clear hset;go_upto_region 17 with fail;have gr10:=st10.2;have row10:=st10.1;have kX10:=kX9.kept gr10 (by simpa using gne1);have kR10:=kR9.kept gr10 (by simpa using gne2);have t10:=X6 t9 row9 (hgo ▸ gr10);have hh10:=N3 (X6 hh9 row9 (hgo ▸ gr10)) hlow1;have nn10:=N3 (X6 nn9 row9 (hgo ▸ gr10)) hlow2
   have hW10:=IU (qs:=ps.set p ((Cd nd x0',.slice ah (x0'.has.filter (D2 nd)).length ch,.slice an nd.length cn):Bv)) row10 rfl (by rw[List.length_set,hps]) (λq hq=>by
    rcases List.mem_or_eq_of_mem_set hq with h|rfl
    ·obtain⟨q1,q2,q3⟩:=Hlist9.out q h;exact⟨X6 q1 row9 (hgo ▸ gr10),X6 q2 row9 (hgo ▸ gr10),q3⟩
    ·exact⟨hh10,nn10,(Hlist9.out _ (A6 Hpv.out)).2.2⟩)
   have hB10:Below w.heap.size w (W9.setCell ⟨g,p*3+1,none⟩ (.slice ah (x0'.has.filter (D2 nd)).length ch)):=hB9.setCell (p:=⟨g,p*3+1,none⟩) (by show _<=g;omega) _;clear st10 gr10 row10 row9 kX9 kR9 t9 hh9 nn9 hh10 nn10 hB9 Hlist9 r1 f1 z0 z1;generalize W9.setCell ⟨g,p*3+1,none⟩ (.slice ah (x0'.has.filter (D2 nd)).length ch)=W10 at *;have hmem':∀y∈b.bs.set p (Cd nd x0'),y∈b.bs∨y=Cd nd x0':=λy hy=>List.mem_or_eq_of_mem_set hy;have hbk':O5 W10 w2.heap.size (.agg #[.slice a3 b.tg.length c3,.slice (some ⟨g,0,none⟩) b.bs.length c4]) ⟨b.tg,b.bs.set p (Cd nd x0')⟩:=⟨_,_,_,rfl,t10,hW10,Hset.out⟩
   have hbv:=hbk'.bk ⟨hsz.1,λy hy=>by
    rcases hmem' y hy with h|rfl
    ·exact hsz.2 y h
    ·exact⟨λs hs=>hsx.1 s (List.mem_filter.1 hs).1,hNz⟩⟩
   have hpn:=Z5 Hpart.out
   have Hcopy:Hid (∀(v:Value)(w:World),K0 w v ⟨b.tg,b.bs.set p (Cd nd x0')⟩->Calls Tryz.prog 18 #[v] w λe w'=>(∃v',e=.returned v'/\O5 w' w.heap.size v' ⟨b.tg,b.bs.set p (Cd nd x0')⟩)/\Below w.heap.size w w'):=λv w h=>Gb _ v w h (by show b.tg.length<=100;omega) (by show (b.bs.set p (Cd nd x0')).length<=100;rw[List.length_set];omega) (λy hy=>by
    rcases hmem' y hy with h|rfl
    ·have:=s3 y h;omega
    ·have h1:(x0'.has.filter (D2 nd)).length<=x0'.has.length:=List.length_filter_le _ _;show (x0'.has.filter (D2 nd)).length<=100/\nd.length<=100
     omega)
   have HC2:Hid (BC b nm nd=0/\AX b nm nd=⟨b.tg,b.bs.set p (Cd nd x0')⟩):=by show _/\_;rw[← Ck HX0.out];exact HC.out
   clear hmem' hpn Hset hW10 HC hbk' t10;generalize (⟨b.tg,b.bs.set p (Cd nd x0')⟩:Bk)=b' at *;obtain⟨⟨z0,z1⟩,-⟩:=kX10.c2;go_wp2_with fail;refine (Hcopy.out _ _ hbv).mono ?_;rintro e w12 ⟨⟨v',rfl,hV⟩,hb12⟩;obtain⟨a7,c7,a8,c8,qs',rfl,-⟩:=hV.parts;have kR12:=kR10.up hb12 kR10.2.2;have hrl:=kR10.2.2;have hB12:=D1 hB10 hb12;clear z0 z1;obtain⟨⟨y0,y1⟩,f0,f1⟩:=kR12.c2;go_wp2_with fail;refine S3 Tryz.results113 Tryz.underlying26 rfl L9 kR12 rfl rfl ?_;refine⟨⟨_,BZ HC2.out.1.symm,?_⟩,I7 hB12 (Nat.le_succ _) _ _⟩;rw[HC2.out.2];exact ((O5.set (O5.set hV hrl) hrl).low (by omega))
end Go.Proofs.YtmfjakieahkacaaGreatDoor
