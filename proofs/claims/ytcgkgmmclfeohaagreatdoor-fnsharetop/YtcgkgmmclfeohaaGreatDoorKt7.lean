/- The specification's ShareEnter. -/
import Derived.Test.YtcgkgmmclfeohaaGreatDoorJ21
namespace Go.Proofs.YtcgkgmmclfeohaaGreatDoor
open Go.Proofs.Tryz
open Go.RowKit
variable{o:Oper}
theorem Hg{P:Program}{ops:Array Oper}{a:Act}{w:World}{K:Act->World->Prop}{Q:Exit->Act->World->Prop}{E:Prop}
  (hg:o.guard=none) (s x:Operand) (t:TypeId) (hop:o.op=Op.call {callee:=Callee.builtin Builtin.append,args:=#[s,x],argTypes:=#[t,t]})
  (base:Nat) (e:TypeId) (i:TypeInfo) (size:Nat) (ht:P.underlying t=some (.slice e)) (hi:P.info? e=some i) (v:Value) (n:Nat) (xs:List Value) (hs:a.eval s=v) (hown:w.ownsRow base e size v n xs)
  (ad:Option Addr) (c:Nat) (hx:a.eval x=.slice ad 0 c) (hK:K (a.put o.dst v) w):if Region.wanted o (yielded ops a.tmps)=true then Oper.wp P o a w K Q else E:=by
 have hw:Region.wanted o (yielded ops a.tmps)=true:=by simp[Region.wanted,hg]
 rw[if_pos hw];have hr:=Dr (P:=P) base t o.type e i size ht hi v n xs hown ad c;unfold Oper.wp;simp[execOp,hop,resolve,invoke,builtin,hs,hx,hr,Result.andThen];exact hK
set_option maxRecDepth 20000 in
set_option maxHeartbeats 4000000 in
theorem Kb(b:Bk)(v nv:Value)(nm:BA)(nd:List BA)(w:World)(h:K6 w v b)(hN:Ls w nv nd)(hnm:nm.size<=maxLen)(hnn:nd.length<=1048576):
  Calls prog 6 #[v,.string nm,nv] w λe w'=>(∃v',e=.returned (.tuple #[v',.int .i64 (R8 b nm nd)])/\N4 w' w.heap.size v' (N9 b nm nd))/\Up w w':=by
 have i0:=h.szb;obtain⟨a1,c1,a2,c2,rfl,t1,-⟩:=h.parts;obtain⟨a9,c9,rfl,-,j6,-⟩:=id hN;obtain⟨ii,hi,i6,i7,i8⟩:=info_parts CR;obtain⟨W1,j7,kA,kR,h6,l0⟩:=cbE2 w [.slice a1 (b).tg.length c1,.slice a2 (b).bs.length c2] 26 [.slice none 0 0,.slice none 0 0] 26;go_in;go_upto_region 1 with fail;try rw[j7]
 clear j7;have hk:=h.up h6;have hN:=hN.up h6;have t1:=t1.up h6;clear h;obtain⟨e0,e1⟩:=kA.c2';go_wp2_with fail;refine (DF b _ _ hk).mono ?_;rintro e w2 ⟨rfl,f8⟩;have l4:=f8.size;have kA:=kA.up f8 (by omega);have kR:=kR.up f8 (by omega);have hk:=hk.up f8;have hN:=hN.up f8;have t1:=t1.up f8;have hB:=D4 h6 f8;clear e0 e1 h6 f8;cases hok:J6 b
 ·obtain⟨⟨y0,y1⟩,f0,f1⟩:=kR.c2;have HC:Hid (R8 b nm nd=1/\N9 b nm nd=Z7):=RA hok;go_wp2_with fail;refine U2 results6 underlying26 rfl M4 kR rfl rfl ?_;exact⟨⟨_,Cx HC.out.1.symm,by rw[HC.out.2];exact Jr _ _⟩,I4 hB (Nat.le_succ _) _ _⟩
 obtain⟨e0,e1⟩:=kA.c2';go_wp2_with fail;refine (Io b _ _ hk (Ad hok)).mono ?_;rintro e w3 ⟨⟨xv,rfl,hX⟩,f9⟩;obtain⟨a3,c3,a4,c4,ps,rfl,x1,x2,x3⟩:=hX.parts;have l5:=f9.size;have kA:=kA.up f9 (by omega);have kR:=kR.up f9 (by omega);have hk:=hk.up f9;have hN:=hN.up f9;have t1:=t1.up f9;have hB:=D4 hB f9;clear e0 e1 f9 hX;go_upto_region 4 with fail;obtain⟨W4,j8,kX,e7,l1⟩:=cbE1 w3 [.slice a3 b.tg.length c3,.slice a4 b.bs.length c4] 26;rw[j8];clear j8;have kA:=kA.up e7 (by omega);have kR:=kR.up e7 (by omega);have hk:=hk.up e7;have hN:=hN.up e7;have t1:=t1.up e7;have hB:=D4 hB e7;have X1:=x1;have X2:=x2;have hL:=e7;clear e7 x1 x2;go_wp2_with fail;refine (DX nm _ hnm).mono ?_;rintro e w' ⟨rfl,hw⟩;obtain rfl:=hw.symm;clear hw;have HOK:Hid (J6 b=true):=hok
 have i1:∀(W:World)(cd:Int),Up W4 W->R8 b nm nd=cd/\N9 b nm nd=b->∃v',(Ending.returned (.tuple #[.agg #[.slice a3 b.tg.length c3,.slice a4 b.bs.length c4],.int .i64 cd])=Ending.returned (.tuple #[v',.int .i64 (R8 b nm nd)]))/\
   N4 ((W.setCell ⟨w.heap.size+1,0,none⟩ (.slice a3 b.tg.length c3)).setCell ⟨w.heap.size+1,1,none⟩ (.slice a4 b.bs.length c4)) w.heap.size v' (N9 b nm nd):=λW cd hb hc=>by
  have hl:=D4 hL hb;refine⟨_,Cx hc.1.symm,?_⟩;rw[hc.2];exact ((N4.set (N4.set ⟨_,_,ps,rfl,X1.up hl,X2.up hl,x3⟩ (by omega)) (by omega)).low (by omega))
 have Hback:Hid (∀(W:World)(cd:Int),Up W4 W->R8 b nm nd=cd/\N9 b nm nd=b->∃v',(Ending.returned (.tuple #[.agg #[.slice a3 b.tg.length c3,.slice a4 b.bs.length c4],.int .i64 cd])=Ending.returned (.tuple #[v',.int .i64 (R8 b nm nd)]))/\
   N4 ((W.setCell ⟨w.heap.size+1,0,none⟩ (.slice a3 b.tg.length c3)).setCell ⟨w.heap.size+1,1,none⟩ (.slice a4 b.bs.length c4)) w.heap.size v' (N9 b nm nd)):=i1
 clear i1;cases hnb:U0 nm
 ·have HC:Hid (R8 b nm nd=2/\N9 b nm nd=b):=Ij hok (by rw[hnb];rfl);obtain⟨⟨y0,y1⟩,f0,f1⟩:=kR.c2;obtain⟨⟨z0,z1⟩,-⟩:=kX.c2;go_wp2_with fail;refine U2 results6 underlying26 rfl M4 kR rfl rfl ?_;exact⟨Hback.out _ _ (A4 _ _) HC.out,I4 hB (Nat.le_succ _) _ _⟩
 obtain⟨e0,e1⟩:=kA.c2';go_wp2_with fail;refine (De nd b.tg _ _ _ hN t1).mono ?_;rintro e w5 ⟨rfl,md,k1⟩;have e3:Up W4 w5:=by rw[k1];exact N0 (A4 _ _) md
 have l6:=e3.size;have kA:=kA.up e3 (by omega);have kR:=kR.up e3 (by omega);have kX:=kX.up e3 (by omega);have hk:=hk.up e3;have hN:=hN.up e3;have hB:=D4 hB e3;clear k1 e0 e1;cases hpt:pB (J3 nd b.tg)
 ·have HC:Hid (R8 b nm nd=2/\N9 b nm nd=b):=Ij hok (by rw[hnb,hpt];rfl);obtain⟨⟨y0,y1⟩,f0,f1⟩:=kR.c2;obtain⟨⟨z0,z1⟩,-⟩:=kX.c2;go_wp2_with fail;refine U2 results6 underlying26 rfl M4 kR rfl rfl ?_;exact⟨Hback.out _ _ e3 HC.out,I4 hB (Nat.le_succ _) _ _⟩
 have h2:(U0 nm&&pB (J3 nd b.tg))=true:=by rw[hnb,hpt];rfl
 have H2:Hid ((U0 nm&&pB (J3 nd b.tg))=true):=h2;have Hpart:Hid (J3 nd b.tg):=U9.1 hpt;clear h2 hpt hnb;obtain⟨e0,e1⟩:=kA.c2';go_wp2_with fail;refine (GY b _ nm _ hk).mono ?_;rintro e w6 ⟨rfl,g0⟩;have g1:=D4 e3 g0;have l7:=g0.size;have kA:=kA.up g0 (by omega);have kR:=kR.up g0 (by omega);have kX:=kX.up g0 (by omega);have hN:=hN.up g0;have hB:=D4 hB g0;clear e0 e1 e3 g0 hk;cases hm:D7 (I3 b.bs) nm
 case true =>
  have HC:Hid (R8 b nm nd=3/\N9 b nm nd=b):=IG HOK.out H2.out hm;obtain⟨j2,-⟩:=BI hm;rw[j2];obtain⟨⟨y0,y1⟩,f0,f1⟩:=kR.c2;obtain⟨⟨z0,z1⟩,-⟩:=kX.c2;go_wp2_with fail;refine U2 results6 underlying26 rfl M4 kR rfl rfl ?_;exact⟨Hback.out _ _ g1 HC.out,I4 hB (Nat.le_succ _) _ _⟩
 rw[Cd hm];have Hm:Hid (D7 (I3 b.bs) nm=false):=hm;clear hm;by_cases h5:5<=b.bs.length
 ·have HC:Hid (R8 b nm nd=4/\N9 b nm nd=b):=Jo HOK.out H2.out Hm.out h5;obtain⟨e0,e1⟩:=kA.c2';obtain⟨⟨y0,y1⟩,f0,f1⟩:=kR.c2;obtain⟨⟨z0,z1⟩,-⟩:=kX.c2;go_wp2_with fail;refine U2 results6 underlying26 rfl M4 kR rfl rfl ?_;exact⟨Hback.out _ _ g1 HC.out,I4 hB (Nat.le_succ _) _ _⟩
 have HC:Hid (R8 b nm nd=0/\N9 b nm nd=⟨b.tg,b.bs.take (U3 b nm)++⟨nm,[],nd⟩::b.bs.drop (U3 b nm)⟩):=Kt HOK.out H2.out Hm.out h5;clear Hback;have i9:=D4 hL g1;have k6:ps.length=b.bs.length:=by rw[← x3,B5]
 obtain⟨e0,e1⟩:=kA.c2';obtain⟨⟨z0,z1⟩,-⟩:=kX.c2;have k7:=(X2.up i9).bs x3 i0.2;obtain⟨-,j3⟩:=k7.at;have d3:=(X2.up i9).1;rw[k6] at d3;have Hrow:Hid (w6.ownsRow w2.heap.size 57 3 (.slice a4 b.bs.length c4) b.bs.length (E4 ps)):=d3;clear d3;go_wp2_with fail;go_loop [9] (λi=>∃k:Nat,k<=b.bs.length/\i=.int .i64 k/\VP b nm k) (λi=>b.bs.length-(intOf i).toNat)
 case atStart=>exact⟨0,by omega,rfl,λj x hj=>by omega⟩
 case round =>
  obtain⟨k,hk,rfl,h8⟩:=hrel;have Hlow:Hid (VP b nm k):=h8;clear h8;by_cases hp:k<b.bs.length
  case' pos =>
   obtain⟨g,o,rfl,hS,k2⟩:=j3 (by omega);obtain⟨_,_,_,_,q3,-,-,-,-,-⟩:=(hS.at hp).cells;cases hl:Op.bytesLess (b.bs[k]).nm.toList nm.toList
   case true =>
    have Hl:Hid (VP b nm (k+1)):=λj x hj hx=>by
     by_cases e:j=k
     ·subst e;rw[A0 hp] at hx;obtain rfl:=A5 hx;exact hl
     ·exact Hlow.out j x (by omega) hx
    go_wp2_with fail;go_round
    case rel=>exact⟨k+1,by omega,by go_num,Hl.out⟩
    case measure=>simp[intOf];omega
   have HI:Hid (U3 b nm=k):=Ya hk Hlow.out (λx hx=>by
    rw[A0 hp] at hx;obtain rfl:=A5 hx;exact hl)
   go_wp2_with fail;clear q3 hl hS;obtain⟨gx,cx,h9⟩:=U5 Hrow.out (by omega);obtain⟨j9,-,rfl⟩:=Value.slice.inj h9;obtain⟨rfl,rfl,-⟩:=Addr.mk.inj (A5 j9);clear h9 j9
  case' neg =>
   have HI:Hid (U3 b nm=k):=Ya hk Hlow.out (λx hx=>by
    have:=(A2.1 hx).1;omega)
   go_wp2_with fail;rcases Hrow.out.2 with⟨hnil,hn0⟩|⟨g,cx,curx,h9,-⟩
   case inl =>
    obtain⟨rfl,-,rfl⟩:=Value.slice.inj hnil;clear hnil;have k8:k=0:=by omega
    have g2:ps=[]:=C5.1 (by omega);rw[hn0] at z1;have b0:World.cell? w6.drew ⟨w3.heap.size,1,none⟩=some (.slice none 0 0):=z1;clear z0 z1 e0 e1;refine T9 18 (λw'=>World.cell? w' ⟨w3.heap.size,1,none⟩=some (.slice none 0 0)) (by kernel_rfl) ?_;refine I2 1 rfl b0 ?_;refine I2 2 rfl b0 ?_;refine I2 3 rfl b0 ?_;refine I2 4 rfl b0 ?_;refine I2 6 rfl b0 ?_;refine I2 7 rfl b0 ?_;refine I2 12 rfl b0 ?_;refine I2 13 rfl b0 ?_;refine I2 14 rfl b0 ?_;refine I2 15 rfl b0 ?_;have b4:(w6.drew.alloc (.cells #[] 57)).ownsRow w6.heap.size 57 3 (.slice (some ⟨w6.heap.size,0,none⟩) 0 0) 0 []:=C0 w6.drew #[] 0 (A3 _) (by unfold maxLen;omega) rfl;have e8:Up w6 (w6.drew.alloc (.cells #[] 57)):=((A4 w6.heap.size w6).drew).alloc (A3 _) _;have g3:w3.heap.size<w6.heap.size:=by omega
    have mk:∀W,Up w6 W->World.cell? W ⟨w3.heap.size,1,none⟩=some (.slice none 0 0):=λW hb=>(hb.cell (p:=⟨w3.heap.size,1,none⟩) g3).trans b0;have h1:=mk _ e8;refine T0 0 rfl (λK hK=>?_);go_simp;refine Y1 hK h1 ?_;clear hK K;have b8:=b4;have e4:=e8;have h3:=h1;have k0:w6.drew.alloc (.cells #[] 57)=(w6.alloc (.cells #[] 57)).drew:=rfl;rw[k0] at b8 e4 h3;clear k0 b4 e8 h1;generalize (w6.alloc (.cells #[] 57)).drew=w7 at *;refine T0 5 rfl (λK hK=>?_);refine Hg rfl _ _ 24 rfl w6.heap.size 57 ii 3 underlying24 hi _ _ _ rfl b8 none 0 rfl ?_;refine Y1 hK h3 ?_;clear hK K;refine T0 8 rfl (λK hK=>?_);go_simp;go_wp2_with (go_at_call 30;refine (Dj nd _ _ (hN.up e4) hnn).mono ?_;rintro e w8 ⟨⟨nu,rfl,h0,-⟩,i5⟩;have c8:=D4 e4 i5;obtain⟨an,cn,rfl⟩:=h0.lst.shape;have g4:=mk _ c8)
    refine Y1 hK g4 ?_;clear hK K;refine I2 9 rfl g4 ?_;have a0:=(P0 b8 i5).alloc (.cells #[.string nm,.slice none 0 0,.slice an nd.length cn] 57);have b5:Up w6 (w8.alloc (.cells #[.string nm,.slice none 0 0,.slice an nd.length cn] 57)):=c8.alloc c8.size _;have i2:=mk _ b5;refine T0 10 rfl (λK hK=>?_);go_simp;refine Y1 hK i2 ?_;clear hK K;refine T0 11 rfl (λK hK=>?_);refine O3 rfl _ _ 24 rfl w6.heap.size 57 ii _ 3 64 underlying24 hi i6 i7 i8 rfl (by decide) _ _ _ rfl a0 ⟨w8.heap.size,0,none⟩ 1 1 [.string nm,.slice none 0 0,.slice an nd.length cn] rfl rfl (λj u hj=>Qv _ _ _ _ _ hj) (by simp[Value.oneCell']) (by unfold maxLen;omega) (by omega) b5.size ?_;intro v2 w9 hown9 hgr9;have e5:=O6 b5 a0 hgr9 (A3 _);have g5:G3 w8 w6.heap.size (.slice an nd.length cn) nd:=N1 h0 (by have:=e4.size;omega);have d4:=Aa (g5.up ((A4 w8.heap.size w8).alloc (A3 _) (.cells #[.string nm,.slice none 0 0,.slice an nd.length cn] 57))) a0 hgr9;have h4:=mk _ e5;clear hgr9 a0 b5 i2 g4 h0;refine Y1 hK h4 ?_;clear hK K;refine T0 16 rfl (λK hK=>?_);refine Hg rfl _ _ 24 rfl w6.heap.size 57 ii 3 underlying24 hi _ _ _ rfl hown9 none 0 rfl ?_;have b1:=e5;have b9:=d4;have d0:=h4
    have b6:w9.ownsRow w6.heap.size 57 3 v2 (ps.take k++((⟨nm,[],nd⟩,.slice none 0 0,.slice an nd.length cn):Bv)::ps.drop k).length (E4 (ps.take k++((⟨nm,[],nd⟩,.slice none 0 0,.slice an nd.length cn):Bv)::ps.drop k)):=by
     have e1:0+1=(ps.take k++((⟨nm,[],nd⟩,.slice none 0 0,.slice an nd.length cn):Bv)::ps.drop k).length:=by rw[g2];simp
     have e2:[]++[.string nm,.slice none 0 0,.slice an nd.length cn]=E4 (ps.take k++((⟨nm,[],nd⟩,.slice none 0 0,.slice an nd.length cn):Bv)::ps.drop k):=by rw[g2];simp[E4,P6]
     rw[← e1,← e2];exact hown9
    have Hn0:Hid (b.bs.length=0):=hn0;clear hown9 d4 h4 e5 hn0 k8 g2;generalize w9=w10 at *;refine Y1 hK d0 ?_;clear hK K
    have HM:Hid ((ps.take k++((⟨nm,[],nd⟩,.slice none 0 0,.slice an nd.length cn):Bv)::ps.drop k).map (·.1)=b.bs.take k++⟨nm,[],nd⟩::b.bs.drop k):=by
     show _=_
     rw[← x3,List.map_append,List.map_cons,List.map_take,List.map_drop]
    have Hmem:Hid (∀q∈ps.take k++((⟨nm,[],nd⟩,.slice none 0 0,.slice an nd.length cn):Bv)::ps.drop k,q∈ps∨q=((⟨nm,[],nd⟩,.slice none 0 0,.slice an nd.length cn):Bv)):=λq hq=>by
     rcases C9.1 hq with h|h
     ·exact .inl (List.mem_of_mem_take h)
     ·rcases List.mem_cons.1 h with h|h
      ·exact .inr h
      ·exact .inl (List.mem_of_mem_drop h)
    have g6:(ps.take k++((⟨nm,[],nd⟩,.slice none 0 0,.slice an nd.length cn):Bv)::ps.drop k).length=b.bs.length+1:=by simp;omega
    generalize (ps.take k++((⟨nm,[],nd⟩,.slice none 0 0,.slice an nd.length cn):Bv)::ps.drop k)=qs at *;have HlN:Hid (b.bs.length+1=qs.length):=g6.symm;rw[g6] at b6;clear g6;obtain⟨a7,a8,rfl⟩:=L9 b6;have d1:=kX.up b1 (by omega);have d5:=kR.up b1 (by omega);obtain⟨⟨j0,j1⟩,m0,m1⟩:=d1.c2;refine I2 17 rfl d0 ?_;refine T0 18 rfl (λK hK=>?_);go_simp;refine GU hK ?_;clear hK K;refine Y2 (by kernel_rfl) ?_ _;clear b0 h3 d0 j0 j1 m0 m1 mk;have g7:CB (w10.setCell ⟨w3.heap.size,1,none⟩ (.slice a7 (b.bs.length+1) a8)) w3.heap.size [.slice a3 b.tg.length c3,.slice a7 (b.bs.length+1) a8]:=d1.set (j:=1) (by simp);have d2:CB (w10.setCell ⟨w3.heap.size,1,none⟩ (.slice a7 (b.bs.length+1) a8)) (w.heap.size+1) [.slice none 0 0,.slice none 0 0]:=d5.other (by omega);have b7:Up w3 (w10.setCell ⟨w3.heap.size,1,none⟩ (.slice a7 (b.bs.length+1) a8)):=(i9.trans (b1.mono (by omega))).setCell (p:=⟨w3.heap.size,1,none⟩) (A3 _) _;have g8:Up w (w10.setCell ⟨w3.heap.size,1,none⟩ (.slice a7 (b.bs.length+1) a8)):=(D4 hB b1).setCell (p:=⟨w3.heap.size,1,none⟩) (by show _<=w3.heap.size;omega) _;have b2:(w10.setCell ⟨w3.heap.size,1,none⟩ (.slice a7 (b.bs.length+1) a8)).ownsRow w6.heap.size 57 3 (.slice a7 (b.bs.length+1) a8) (b.bs.length+1) (E4 qs):=J0 b6 (E6 (F4 _ _) _) g3;have c7:G3 (w10.setCell ⟨w3.heap.size,1,none⟩ (.slice a7 (b.bs.length+1) a8)) w6.heap.size (.slice an nd.length cn) nd:=J0 b9 (E6 (F4 _ _) _) g3;have i3:=X1.up b7
    have d6:BM (w10.setCell ⟨w3.heap.size,1,none⟩ (.slice a7 (b.bs.length+1) a8)) w2.heap.size (.slice a7 (b.bs.length+1) a8) qs:=Ky (N1 b2 (by omega)) rfl HlN.out (λq hq=>by
     rcases Hmem.out q hq with h|rfl
     ·obtain⟨q1,q2,q3⟩:=X2.2 q h;exact⟨q1.up b7,q2.up b7,q3⟩
     ·exact⟨B9 _ _ _ _,N1 c7 (by omega),hnm⟩)
    clear d1 d5 b6 b9 b2 c7 X1 X2 b7 b1 hB;generalize w10.setCell ⟨w3.heap.size,1,none⟩ (.slice a7 (b.bs.length+1) a8)=W11 at *;have d7:N4 W11 w2.heap.size (.agg #[.slice a3 b.tg.length c3,.slice a7 (b.bs.length+1) a8]) ⟨b.tg,b.bs.take k++⟨nm,[],nd⟩::b.bs.drop k⟩:=⟨_,_,qs,rfl,i3,d6,HM.out⟩
    have b3:∀y∈b.bs.take k++(⟨nm,[],nd⟩:Ba)::b.bs.drop k,y∈b.bs∨y=⟨nm,[],nd⟩:=λq hq=>by
     rcases C9.1 hq with h|h
     ·exact .inl (List.mem_of_mem_take h)
     ·rcases List.mem_cons.1 h with h|h
      ·exact .inr h
      ·exact .inl (List.mem_of_mem_drop h)
    have j4:=d7.bk ⟨i0.1,λy hy=>by
     rcases b3 y hy with h|rfl
     ·exact i0.2 y h
     ·exact⟨λs hs=>by simp at hs,j6⟩⟩
    obtain⟨s1,s2,s3⟩:=Ai (Ad HOK.out);have j5:=Ac Hpart.out
    have Hcopy:Hid (∀(v:Value)(w:World),K6 w v ⟨b.tg,b.bs.take k++⟨nm,[],nd⟩::b.bs.drop k⟩->Calls prog 26 #[v] w λe w'=>(∃v',e=.returned v'/\N4 w' w.heap.size v' ⟨b.tg,b.bs.take k++⟨nm,[],nd⟩::b.bs.drop k⟩)/\Up w w'):=λv w h=>Ip _ v w h (by show b.tg.length<=100;omega) (by show (b.bs.take k++(⟨nm,[],nd⟩:Ba)::b.bs.drop k).length<=100;simp;omega) (λy hy=>by
     rcases b3 y hy with h|rfl
     ·have:=s3 y h;omega
     ·simp;omega)
    have HC2:Hid (R8 b nm nd=0/\N9 b nm nd=⟨b.tg,b.bs.take k++⟨nm,[],nd⟩::b.bs.drop k⟩):=by show _/\_;rw[← HI.out];exact HC.out
    clear b3 s1 s2 s3 j5 HM Hmem d6 i3 HC HI d7;generalize (⟨b.tg,b.bs.take k++⟨nm,[],nd⟩::b.bs.drop k⟩:Bk)=b' at *;obtain⟨⟨z0,z1⟩,-⟩:=g7.c2;go_wp2_with fail;refine (Hcopy.out _ _ j4).mono ?_;rintro e k9 ⟨⟨v',rfl,hV⟩,d9⟩;obtain⟨a5,c5,a6,c6,k3,rfl,-⟩:=hV.parts;have d8:=d2.up d9 d2.2.2;have i4:=d2.2.2;have g9:=D4 g8 d9;clear z0 z1;obtain⟨⟨y0,y1⟩,f0,f1⟩:=d8.c2;go_wp2_with fail;refine U2 results6 underlying26 rfl M4 d8 rfl rfl ?_;refine⟨⟨_,Cx HC2.out.1.symm,?_⟩,I4 g9 (Nat.le_succ _) _ _⟩;rw[HC2.out.2];exact ((N4.set (N4.set hV i4) i4).low (by omega))
   case' inr =>
    obtain⟨rfl,-,rfl⟩:=Value.slice.inj h9;clear h9
  all_goals
   have e6:=Hrow.out;obtain⟨l2,k4⟩:=GW e6;have k2:=e6.lt g rfl;unfold maxLen at k4;have l8:k<=c4:=by omega
   have l9:¬(b.bs.length:Int)<(k:Int):=by omega
   obtain⟨o2,l3,k5⟩:∃o2:Nat,(if c4=k then some (⟨g,0,none⟩:Addr) else some ⟨g,k*3,none⟩)=some ⟨g,o2,none⟩/\(b.bs.length-k≠0->o2=k*3):=by
    by_cases h7:c4=k
    ·exact⟨0,by rw[if_pos h7],λh=>by omega⟩
    ·exact⟨k*3,by rw[if_neg h7],λ_=>rfl⟩
   have b0:World.cell? w6.drew ⟨w3.heap.size,1,none⟩=some (.slice (some ⟨g,0,none⟩) b.bs.length c4):=z1;clear z0 z1 e0 e1;refine T9 18 (λw'=>World.cell? w' ⟨w3.heap.size,1,none⟩=some (.slice (some ⟨g,0,none⟩) b.bs.length c4)) (by kernel_rfl) ?_;refine I2 1 rfl b0 ?_;refine I2 2 rfl b0 ?_;refine I2 3 rfl b0 ?_;refine I2 4 rfl b0 ?_;refine I2 6 rfl b0 ?_;refine I2 7 rfl b0 ?_;refine I2 12 rfl b0 ?_;refine I2 13 rfl b0 ?_;refine I2 14 rfl b0 ?_;refine I2 15 rfl b0 ?_;have b4:(w6.drew.alloc (.cells #[] 57)).ownsRow w6.heap.size 57 3 (.slice (some ⟨w6.heap.size,0,none⟩) 0 0) 0 []:=C0 w6.drew #[] 0 (A3 _) (by unfold maxLen;omega) rfl;have e8:Up w6 (w6.drew.alloc (.cells #[] 57)):=((A4 w6.heap.size w6).drew).alloc (A3 _) _;have g3:w3.heap.size<w6.heap.size:=by omega
   have mk:∀W,Up w6 W->World.cell? W ⟨w3.heap.size,1,none⟩=some (.slice (some ⟨g,0,none⟩) b.bs.length c4):=λW hb=>(hb.cell (p:=⟨w3.heap.size,1,none⟩) g3).trans b0;have h1:=mk _ e8;refine T0 0 rfl (λK hK=>?_);go_simp;refine Y1 hK h1 ?_;clear hK K;have e9:=Cg (P0 e6 e8) 0 (ps.take k) (Ox ps k);have f2:=X2.one (ps.take k) (λq hq=>List.mem_of_mem_take hq);have f3:=X2.one (ps.drop k) (λq hq=>List.mem_of_mem_drop hq);have f4:(E4 (ps.take k)).length=k*3:=by rw[R7,B8];omega
   have f5:(E4 (ps.drop k)).length=(b.bs.length-k)*3:=by rw[R7,A8];omega
   refine T0 5 rfl (λK hK=>?_);refine O3 rfl _ _ 24 rfl w6.heap.size 57 ii _ 3 64 underlying24 hi i6 i7 i8 rfl (by decide) _ 0 [] rfl b4 ⟨g,0,none⟩ k c4 (E4 (ps.take k)) rfl f4 e9 f2 (by unfold maxLen;omega) (by omega) e8.size ?_;intro v1 w7 b8 hgr7;have e4:=O6 e8 b4 hgr7 (A3 _);have h3:=mk _ e4;clear hgr7 b4 e9 f2 h1;refine Y1 hK h3 ?_;clear hK K;refine T0 8 rfl (λK hK=>?_);go_simp;go_wp2_with (go_at_call 30;refine (Dj nd _ _ (hN.up e4) hnn).mono ?_;rintro e w8 ⟨⟨nu,rfl,h0,-⟩,i5⟩;have c8:=D4 e4 i5;obtain⟨an,cn,rfl⟩:=h0.lst.shape;have g4:=mk _ c8)
   refine Y1 hK g4 ?_;clear hK K;refine I2 9 rfl g4 ?_;have a0:=(P0 b8 i5).alloc (.cells #[.string nm,.slice none 0 0,.slice an nd.length cn] 57);have b5:Up w6 (w8.alloc (.cells #[.string nm,.slice none 0 0,.slice an nd.length cn] 57)):=c8.alloc c8.size _;have i2:=mk _ b5;refine T0 10 rfl (λK hK=>?_);go_simp;refine Y1 hK i2 ?_;clear hK K;refine T0 11 rfl (λK hK=>?_);refine O3 rfl _ _ 24 rfl w6.heap.size 57 ii _ 3 64 underlying24 hi i6 i7 i8 rfl (by decide) _ _ _ rfl a0 ⟨w8.heap.size,0,none⟩ 1 1 [.string nm,.slice none 0 0,.slice an nd.length cn] rfl rfl (λj u hj=>Qv _ _ _ _ _ hj) (by simp[Value.oneCell']) (by unfold maxLen;omega) (by omega) b5.size ?_;intro v2 w9 hown9 hgr9;have e5:=O6 b5 a0 hgr9 (A3 _);have g5:G3 w8 w6.heap.size (.slice an nd.length cn) nd:=N1 h0 (by have:=e4.size;omega);have d4:=Aa (g5.up ((A4 w8.heap.size w8).alloc (A3 _) (.cells #[.string nm,.slice none 0 0,.slice an nd.length cn] 57))) a0 hgr9;have h4:=mk _ e5;clear hgr9 a0 b5 i2 g4 h0;refine Y1 hK h4 ?_;clear hK K;have f6:=P0 e6 e5
   have f7:∀(j:Nat)(u:Value),(E4 (ps.drop k))[j]?=some u->w9.cell? ((⟨g,o2,none⟩:Addr).add j)=some u:=λj u hu=>by
    have hj:=(A2.1 hu).1;rw[k5 (by omega)];exact Cg f6 k (ps.drop k) (IR ps k) j u hu
   refine T0 16 rfl (λK hK=>?_);refine O3 rfl _ _ 24 rfl w6.heap.size 57 ii _ 3 64 underlying24 hi i6 i7 i8 rfl (by decide) _ _ _ rfl hown9 ⟨g,o2,none⟩ (b.bs.length-k) _ (E4 (ps.drop k)) rfl f5 f7 f3 (by unfold maxLen;omega) (by omega) e5.size ?_;intro v3 w10 hown10 hgr10;have b1:=O6 e5 hown9 hgr10 (A3 _);have b9:=Aa d4 hown9 hgr10;have d0:=mk _ b1
   have b6:w10.ownsRow w6.heap.size 57 3 v3 (ps.take k++((⟨nm,[],nd⟩,.slice none 0 0,.slice an nd.length cn):Bv)::ps.drop k).length (E4 (ps.take k++((⟨nm,[],nd⟩,.slice none 0 0,.slice an nd.length cn):Bv)::ps.drop k)):=by
    have e1:0+k+1+(b.bs.length-k)=(ps.take k++((⟨nm,[],nd⟩,.slice none 0 0,.slice an nd.length cn):Bv)::ps.drop k).length:=by simp;omega
    have e2:[]++E4 (ps.take k)++[.string nm,.slice none 0 0,.slice an nd.length cn]++E4 (ps.drop k)=E4 (ps.take k++((⟨nm,[],nd⟩,.slice none 0 0,.slice an nd.length cn):Bv)::ps.drop k):=by rw[AP,E4];simp[P6]
    rw[← e1,← e2];exact hown10
   clear hgr10 hown10 f6 f7 hown9 d4 h4 f3 f4 f5 e5;refine Y1 hK d0 ?_;clear hK K
   have HM:Hid ((ps.take k++((⟨nm,[],nd⟩,.slice none 0 0,.slice an nd.length cn):Bv)::ps.drop k).map (·.1)=b.bs.take k++⟨nm,[],nd⟩::b.bs.drop k):=by
    show _=_
    rw[← x3,List.map_append,List.map_cons,List.map_take,List.map_drop]
   have Hmem:Hid (∀q∈ps.take k++((⟨nm,[],nd⟩,.slice none 0 0,.slice an nd.length cn):Bv)::ps.drop k,q∈ps∨q=((⟨nm,[],nd⟩,.slice none 0 0,.slice an nd.length cn):Bv)):=λq hq=>by
    rcases C9.1 hq with h|h
    ·exact .inl (List.mem_of_mem_take h)
    ·rcases List.mem_cons.1 h with h|h
     ·exact .inr h
     ·exact .inl (List.mem_of_mem_drop h)
   have g6:(ps.take k++((⟨nm,[],nd⟩,.slice none 0 0,.slice an nd.length cn):Bv)::ps.drop k).length=b.bs.length+1:=by simp;omega
   generalize (ps.take k++((⟨nm,[],nd⟩,.slice none 0 0,.slice an nd.length cn):Bv)::ps.drop k)=qs at *;have HlN:Hid (b.bs.length+1=qs.length):=g6.symm;rw[g6] at b6;clear g6;obtain⟨a7,a8,rfl⟩:=L9 b6;have d1:=kX.up b1 (by omega);have d5:=kR.up b1 (by omega);obtain⟨⟨j0,j1⟩,m0,m1⟩:=d1.c2;refine I2 17 rfl d0 ?_;refine T0 18 rfl (λK hK=>?_);go_simp;refine GU hK ?_;clear hK K;refine Y2 (by kernel_rfl) ?_ _;clear b0 h3 d0 j0 j1 m0 m1 mk;have g7:CB (w10.setCell ⟨w3.heap.size,1,none⟩ (.slice a7 (b.bs.length+1) a8)) w3.heap.size [.slice a3 b.tg.length c3,.slice a7 (b.bs.length+1) a8]:=d1.set (j:=1) (by simp);have d2:CB (w10.setCell ⟨w3.heap.size,1,none⟩ (.slice a7 (b.bs.length+1) a8)) (w.heap.size+1) [.slice none 0 0,.slice none 0 0]:=d5.other (by omega);have b7:Up w3 (w10.setCell ⟨w3.heap.size,1,none⟩ (.slice a7 (b.bs.length+1) a8)):=(i9.trans (b1.mono (by omega))).setCell (p:=⟨w3.heap.size,1,none⟩) (A3 _) _;have g8:Up w (w10.setCell ⟨w3.heap.size,1,none⟩ (.slice a7 (b.bs.length+1) a8)):=(D4 hB b1).setCell (p:=⟨w3.heap.size,1,none⟩) (by show _<=w3.heap.size;omega) _;have b2:(w10.setCell ⟨w3.heap.size,1,none⟩ (.slice a7 (b.bs.length+1) a8)).ownsRow w6.heap.size 57 3 (.slice a7 (b.bs.length+1) a8) (b.bs.length+1) (E4 qs):=J0 b6 (E6 (F4 _ _) _) g3;have c7:G3 (w10.setCell ⟨w3.heap.size,1,none⟩ (.slice a7 (b.bs.length+1) a8)) w6.heap.size (.slice an nd.length cn) nd:=J0 b9 (E6 (F4 _ _) _) g3;have i3:=X1.up b7
   have d6:BM (w10.setCell ⟨w3.heap.size,1,none⟩ (.slice a7 (b.bs.length+1) a8)) w2.heap.size (.slice a7 (b.bs.length+1) a8) qs:=Ky (N1 b2 (by omega)) rfl HlN.out (λq hq=>by
    rcases Hmem.out q hq with h|rfl
    ·obtain⟨q1,q2,q3⟩:=X2.2 q h;exact⟨q1.up b7,q2.up b7,q3⟩
    ·exact⟨B9 _ _ _ _,N1 c7 (by omega),hnm⟩)
   clear d1 d5 b6 b9 b2 c7 X1 X2 b7 b1 hB;generalize w10.setCell ⟨w3.heap.size,1,none⟩ (.slice a7 (b.bs.length+1) a8)=W11 at *;have d7:N4 W11 w2.heap.size (.agg #[.slice a3 b.tg.length c3,.slice a7 (b.bs.length+1) a8]) ⟨b.tg,b.bs.take k++⟨nm,[],nd⟩::b.bs.drop k⟩:=⟨_,_,qs,rfl,i3,d6,HM.out⟩
   have b3:∀y∈b.bs.take k++(⟨nm,[],nd⟩:Ba)::b.bs.drop k,y∈b.bs∨y=⟨nm,[],nd⟩:=λq hq=>by
    rcases C9.1 hq with h|h
    ·exact .inl (List.mem_of_mem_take h)
    ·rcases List.mem_cons.1 h with h|h
     ·exact .inr h
     ·exact .inl (List.mem_of_mem_drop h)
   have j4:=d7.bk ⟨i0.1,λy hy=>by
    rcases b3 y hy with h|rfl
    ·exact i0.2 y h
    ·exact⟨λs hs=>by simp at hs,j6⟩⟩
   obtain⟨s1,s2,s3⟩:=Ai (Ad HOK.out);have j5:=Ac Hpart.out
   have Hcopy:Hid (∀(v:Value)(w:World),K6 w v ⟨b.tg,b.bs.take k++⟨nm,[],nd⟩::b.bs.drop k⟩->Calls prog 26 #[v] w λe w'=>(∃v',e=.returned v'/\N4 w' w.heap.size v' ⟨b.tg,b.bs.take k++⟨nm,[],nd⟩::b.bs.drop k⟩)/\Up w w'):=λv w h=>Ip _ v w h (by show b.tg.length<=100;omega) (by show (b.bs.take k++(⟨nm,[],nd⟩:Ba)::b.bs.drop k).length<=100;simp;omega) (λy hy=>by
    rcases b3 y hy with h|rfl
    ·have:=s3 y h;omega
    ·simp;omega)
   have HC2:Hid (R8 b nm nd=0/\N9 b nm nd=⟨b.tg,b.bs.take k++⟨nm,[],nd⟩::b.bs.drop k⟩):=by show _/\_;rw[← HI.out];exact HC.out
   clear b3 s1 s2 s3 j5 HM Hmem d6 i3 HC HI d7;generalize (⟨b.tg,b.bs.take k++⟨nm,[],nd⟩::b.bs.drop k⟩:Bk)=b' at *;obtain⟨⟨z0,z1⟩,-⟩:=g7.c2;go_wp2_with fail;refine (Hcopy.out _ _ j4).mono ?_;rintro e k9 ⟨⟨v',rfl,hV⟩,d9⟩;obtain⟨a5,c5,a6,c6,k3,rfl,-⟩:=hV.parts;have d8:=d2.up d9 d2.2.2;have i4:=d2.2.2;have g9:=D4 g8 d9;clear z0 z1;obtain⟨⟨y0,y1⟩,f0,f1⟩:=d8.c2;go_wp2_with fail;refine U2 results6 underlying26 rfl M4 d8 rfl rfl ?_;refine⟨⟨_,Cx HC2.out.1.symm,?_⟩,I4 g9 (Nat.le_succ _) _ _⟩;rw[HC2.out.2];exact ((N4.set (N4.set hV i4) i4).low (by omega))
end Go.Proofs.YtcgkgmmclfeohaaGreatDoor
