/- The specification's ShareEnter. -/
import Derived.Test.YtmonodehegcfhaaGreatDoorJ19
namespace Go.Proofs.YtmonodehegcfhaaGreatDoor
open Go.Proofs.Tryz
open Go.RowKit
variable{o:Oper}
theorem Gf{P:Program}{ops:Array Oper}{a:Act}{w:World}{K:Act->World->Prop}{Q:Exit->Act->World->Prop}{E:Prop}
  (hg:o.guard=none) (s x:Operand) (t:TypeId) (hop:o.op=Op.call {callee:=Callee.builtin Builtin.append,args:=#[s,x],argTypes:=#[t,t]})
  (base:Nat) (e:TypeId) (i:TypeInfo) (size:Nat) (ht:P.underlying t=some (.slice e)) (hi:P.info? e=some i) (v:Value) (n:Nat) (xs:List Value) (hs:a.eval s=v) (hown:w.ownsRow base e size v n xs)
  (ad:Option Addr) (c:Nat) (hx:a.eval x=.slice ad 0 c) (hK:K (a.put o.dst v) w):if Region.wanted o (yielded ops a.tmps)=true then Oper.wp P o a w K Q else E:=by
 have hw:Region.wanted o (yielded ops a.tmps)=true:=by simp[Region.wanted,hg]
 rw[if_pos hw];have hr:=BI (P:=P) base t o.type e i size ht hi v n xs hown ad c;unfold Oper.wp;simp[execOp,hop,resolve,invoke,builtin,hs,hx,hr,Result.andThen];exact hK
set_option maxRecDepth 20000 in
set_option maxHeartbeats 4000000 in
theorem NZ(b:Bk)(v nv:Value)(nm:BA)(nj:List BA)(w:World)(h:Q6 w v b)(hN:Ls w nv nj)(hnm:nm.size<=maxLen)(hnn:nj.length<=1048576):
  Calls prog 30 #[v,.string nm,nv] w λe w'=>(∃v',e=.returned (.tuple #[v',.int .i64 (N6 b nm nj)])/\L6 w' w.heap.size v' (K3 b nm nj))/\Up w w':=by
 have h9:=h.szb;obtain⟨a1,c1,a2,c2,rfl,t1,-⟩:=h.parts;obtain⟨a9,c9,rfl,-,j5,-⟩:=id hN;obtain⟨ii,hi,i5,i6,i7⟩:=info_parts Cs;obtain⟨W1,j6,kA,kR,h4,k9⟩:=cbE2 w [.slice a1 (b).tg.length c1,.slice a2 (b).bs.length c2] 26 [.slice none 0 0,.slice none 0 0] 26;go_in;go_upto_region 1 with fail;try rw[j6]
 clear j6;have hk:=h.up h4;have hN:=hN.up h4;have t1:=t1.up h4;clear h;obtain⟨e0,e1⟩:=kA.c2';go_wp2_with fail;refine (Cc b _ _ hk).mono ?_;rintro e w2 ⟨rfl,f7⟩;have l3:=f7.size;have kA:=kA.up f7 (by omega);have kR:=kR.up f7 (by omega);have hk:=hk.up f7;have hN:=hN.up f7;have t1:=t1.up f7;have hB:=D5 h4 f7;clear e0 e1 h4 f7;cases hok:K4 b
 ·obtain⟨⟨y0,y1⟩,f0,f1⟩:=kR.c2;have HC:Hid (N6 b nm nj=1/\K3 b nm nj=S2):=Lg hok;go_wp2_with fail;refine O0 results30 underlying26 rfl M5 kR rfl rfl ?_;exact⟨⟨_,BQ HC.out.1.symm,by rw[HC.out.2];exact IJ _ _⟩,K6 hB (Nat.le_succ _) _ _⟩
 obtain⟨e0,e1⟩:=kA.c2';go_wp2_with fail;refine (GD b _ _ hk (Ab hok)).mono ?_;rintro e w3 ⟨⟨xv,rfl,hX⟩,f8⟩;obtain⟨a3,c3,a4,c4,ps,rfl,x1,x2,x3⟩:=hX.parts;have l4:=f8.size;have kA:=kA.up f8 (by omega);have kR:=kR.up f8 (by omega);have hk:=hk.up f8;have hN:=hN.up f8;have t1:=t1.up f8;have hB:=D5 hB f8;clear e0 e1 f8 hX;go_upto_region 4 with fail;obtain⟨W4,j7,kX,e6,l0⟩:=cbE1 w3 [.slice a3 b.tg.length c3,.slice a4 b.bs.length c4] 26;rw[j7];clear j7;have kA:=kA.up e6 (by omega);have kR:=kR.up e6 (by omega);have hk:=hk.up e6;have hN:=hN.up e6;have t1:=t1.up e6;have hB:=D5 hB e6;have X1:=x1;have X2:=x2;have hL:=e6;clear e6 x1 x2;go_wp2_with fail;refine (Dg nm _ hnm).mono ?_;rintro e w' ⟨rfl,hw⟩;obtain rfl:=hw.symm;clear hw;have HOK:Hid (K4 b=true):=hok
 have i0:∀(W:World)(cd:Int),Up W4 W->N6 b nm nj=cd/\K3 b nm nj=b->∃v',(Ending.returned (.tuple #[.agg #[.slice a3 b.tg.length c3,.slice a4 b.bs.length c4],.int .i64 cd])=Ending.returned (.tuple #[v',.int .i64 (N6 b nm nj)]))/\
   L6 ((W.setCell ⟨w.heap.size+1,0,none⟩ (.slice a3 b.tg.length c3)).setCell ⟨w.heap.size+1,1,none⟩ (.slice a4 b.bs.length c4)) w.heap.size v' (K3 b nm nj):=λW cd hb hc=>by
  have hl:=D5 hL hb;refine⟨_,BQ hc.1.symm,?_⟩;rw[hc.2];exact ((L6.set (L6.set ⟨_,_,ps,rfl,X1.up hl,X2.up hl,x3⟩ (by omega)) (by omega)).low (by omega))
 have Hback:Hid (∀(W:World)(cd:Int),Up W4 W->N6 b nm nj=cd/\K3 b nm nj=b->∃v',(Ending.returned (.tuple #[.agg #[.slice a3 b.tg.length c3,.slice a4 b.bs.length c4],.int .i64 cd])=Ending.returned (.tuple #[v',.int .i64 (N6 b nm nj)]))/\
   L6 ((W.setCell ⟨w.heap.size+1,0,none⟩ (.slice a3 b.tg.length c3)).setCell ⟨w.heap.size+1,1,none⟩ (.slice a4 b.bs.length c4)) w.heap.size v' (K3 b nm nj)):=i0
 clear i0;cases hnb:G0 nm
 ·have HC:Hid (N6 b nm nj=2/\K3 b nm nj=b):=Gx hok (by rw[hnb];rfl);obtain⟨⟨y0,y1⟩,f0,f1⟩:=kR.c2;obtain⟨⟨z0,z1⟩,-⟩:=kX.c2;go_wp2_with fail;refine O0 results30 underlying26 rfl M5 kR rfl rfl ?_;exact⟨Hback.out _ _ (A5 _ _) HC.out,K6 hB (Nat.le_succ _) _ _⟩
 obtain⟨e0,e1⟩:=kA.c2';go_wp2_with fail;refine (CC nj b.tg _ _ _ hN t1).mono ?_;rintro e w5 ⟨rfl,md,k0⟩;have d9:Up W4 w5:=by rw[k0];exact G4 (A5 _ _) md
 have l5:=d9.size;have kA:=kA.up d9 (by omega);have kR:=kR.up d9 (by omega);have kX:=kX.up d9 (by omega);have hk:=hk.up d9;have hN:=hN.up d9;have hB:=D5 hB d9;clear k0 e0 e1;cases hpt:pB (I4 nj b.tg)
 ·have HC:Hid (N6 b nm nj=2/\K3 b nm nj=b):=Gx hok (by rw[hnb,hpt];rfl);obtain⟨⟨y0,y1⟩,f0,f1⟩:=kR.c2;obtain⟨⟨z0,z1⟩,-⟩:=kX.c2;go_wp2_with fail;refine O0 results30 underlying26 rfl M5 kR rfl rfl ?_;exact⟨Hback.out _ _ d9 HC.out,K6 hB (Nat.le_succ _) _ _⟩
 have h2:(G0 nm&&pB (I4 nj b.tg))=true:=by rw[hnb,hpt];rfl
 have H2:Hid ((G0 nm&&pB (I4 nj b.tg))=true):=h2;have Hpart:Hid (I4 nj b.tg):=K5.1 hpt;clear h2 hpt hnb;obtain⟨e0,e1⟩:=kA.c2';go_wp2_with fail;refine (EE b _ nm _ hk).mono ?_;rintro e w6 ⟨rfl,f9⟩;have g0:=D5 d9 f9;have l6:=f9.size;have kA:=kA.up f9 (by omega);have kR:=kR.up f9 (by omega);have kX:=kX.up f9 (by omega);have hN:=hN.up f9;have hB:=D5 hB f9;clear e0 e1 d9 f9 hk;cases hm:E3 (G7 b.bs) nm
 case true =>
  have HC:Hid (N6 b nm nj=3/\K3 b nm nj=b):=GW HOK.out H2.out hm;obtain⟨i9,-⟩:=Dx hm;rw[i9];obtain⟨⟨y0,y1⟩,f0,f1⟩:=kR.c2;obtain⟨⟨z0,z1⟩,-⟩:=kX.c2;go_wp2_with fail;refine O0 results30 underlying26 rfl M5 kR rfl rfl ?_;exact⟨Hback.out _ _ g0 HC.out,K6 hB (Nat.le_succ _) _ _⟩
 rw[AN hm];have Hm:Hid (E3 (G7 b.bs) nm=false):=hm;clear hm;by_cases h5:5<=b.bs.length
 ·have HC:Hid (N6 b nm nj=4/\K3 b nm nj=b):=IF HOK.out H2.out Hm.out h5;obtain⟨e0,e1⟩:=kA.c2';obtain⟨⟨y0,y1⟩,f0,f1⟩:=kR.c2;obtain⟨⟨z0,z1⟩,-⟩:=kX.c2;go_wp2_with fail;refine O0 results30 underlying26 rfl M5 kR rfl rfl ?_;exact⟨Hback.out _ _ g0 HC.out,K6 hB (Nat.le_succ _) _ _⟩
 have HC:Hid (N6 b nm nj=0/\K3 b nm nj=⟨b.tg,b.bs.take (U3 b nm)++⟨nm,[],nj⟩::b.bs.drop (U3 b nm)⟩):=JU HOK.out H2.out Hm.out h5;clear Hback;have i8:=D5 hL g0;have k5:ps.length=b.bs.length:=by rw[← x3,B5]
 obtain⟨e0,e1⟩:=kA.c2';obtain⟨⟨z0,z1⟩,-⟩:=kX.c2;have k6:=(X2.up i8).bs x3 h9.2;obtain⟨-,j2⟩:=k6.at;have d2:=(X2.up i8).1;rw[k5] at d2;have Hrow:Hid (w6.ownsRow w2.heap.size 115 3 (.slice a4 b.bs.length c4) b.bs.length (E8 ps)):=d2;clear d2;go_wp2_with fail;go_loop [9] (λi=>∃k:Nat,k<=b.bs.length/\i=.int .i64 k/\Sn b nm k) (λi=>b.bs.length-(intOf i).toNat)
 case atStart=>exact⟨0,by omega,rfl,λj x hj=>by omega⟩
 case round =>
  obtain⟨k,hk,rfl,h6⟩:=hrel;have Hlow:Hid (Sn b nm k):=h6;clear h6;by_cases hp:k<b.bs.length
  case' pos =>
   obtain⟨g,o,rfl,hS,k1⟩:=j2 (by omega);obtain⟨_,_,_,_,q3,-,-,-,-,-⟩:=(hS.at hp).cells;cases hl:Op.bytesLess (b.bs[k]).nm.toList nm.toList
   case true =>
    have Hl:Hid (Sn b nm (k+1)):=λj x hj hx=>by
     by_cases e:j=k
     ·subst e;rw[A0 hp] at hx;obtain rfl:=A6 hx;exact hl
     ·exact Hlow.out j x (by omega) hx
    go_wp2_with fail;go_round
    case rel=>exact⟨k+1,by omega,by go_num,Hl.out⟩
    case measure=>simp[intOf];omega
   have HI:Hid (U3 b nm=k):=TZ hk Hlow.out (λx hx=>by
    rw[A0 hp] at hx;obtain rfl:=A6 hx;exact hl)
   go_wp2_with fail;clear q3 hl hS;obtain⟨gx,cx,h8⟩:=I6 Hrow.out (by omega);obtain⟨j8,-,rfl⟩:=Value.slice.inj h8;obtain⟨rfl,rfl,-⟩:=Addr.mk.inj (A6 j8);clear h8 j8
  case' neg =>
   have HI:Hid (U3 b nm=k):=TZ hk Hlow.out (λx hx=>by
    have:=(A3.1 hx).1;omega)
   go_wp2_with fail;rcases Hrow.out.2 with⟨hnil,hn0⟩|⟨g,cx,curx,h8,-⟩
   case inl =>
    obtain⟨rfl,-,rfl⟩:=Value.slice.inj hnil;clear hnil;have k7:k=0:=by omega
    have g1:ps=[]:=C4.1 (by omega);rw[hn0] at z1;have b0:World.cell? w6.drew ⟨w3.heap.size,1,none⟩=some (.slice none 0 0):=z1;clear z0 z1 e0 e1;refine F5 18 (λw'=>World.cell? w' ⟨w3.heap.size,1,none⟩=some (.slice none 0 0)) (by kernel_rfl) ?_;refine D6 1 rfl b0 ?_;refine D6 2 rfl b0 ?_;refine D6 3 rfl b0 ?_;refine D6 4 rfl b0 ?_;refine D6 6 rfl b0 ?_;refine D6 7 rfl b0 ?_;refine D6 12 rfl b0 ?_;refine D6 13 rfl b0 ?_;refine D6 14 rfl b0 ?_;refine D6 15 rfl b0 ?_;have b4:(w6.drew.alloc (.cells #[] 115)).ownsRow w6.heap.size 115 3 (.slice (some ⟨w6.heap.size,0,none⟩) 0 0) 0 []:=C0 w6.drew #[] 0 (A4 _) (by unfold maxLen;omega) rfl;have e7:Up w6 (w6.drew.alloc (.cells #[] 115)):=((A5 w6.heap.size w6).drew).alloc (A4 _) _;have g2:w3.heap.size<w6.heap.size:=by omega
    have mk:∀W,Up w6 W->World.cell? W ⟨w3.heap.size,1,none⟩=some (.slice none 0 0):=λW hb=>(hb.cell (p:=⟨w3.heap.size,1,none⟩) g2).trans b0;have h0:=mk _ e7;refine E7 0 rfl (λK hK=>?_);go_simp;refine E6 hK h0 ?_;clear hK K;have b8:=b4;have e3:=e7;have h1:=h0;have j9:w6.drew.alloc (.cells #[] 115)=(w6.alloc (.cells #[] 115)).drew:=rfl;rw[j9] at b8 e3 h1;clear j9 b4 e7 h0;generalize (w6.alloc (.cells #[] 115)).drew=w7 at *;refine E7 5 rfl (λK hK=>?_);refine Gf rfl _ _ 24 rfl w6.heap.size 115 ii 3 underlying24 hi _ _ _ rfl b8 none 0 rfl ?_;refine E6 hK h1 ?_;clear hK K;refine E7 8 rfl (λK hK=>?_);go_simp;go_wp2_with (go_at_call 66;refine (Bj nj _ _ (hN.up e3) hnn).mono ?_;rintro e w8 ⟨⟨nu,rfl,g9,-⟩,i4⟩;have c7:=D5 e3 i4;obtain⟨an,cn,rfl⟩:=g9.lst.shape;have g3:=mk _ c7)
    refine E6 hK g3 ?_;clear hK K;refine D6 9 rfl g3 ?_;have a0:=(E4 b8 i4).alloc (.cells #[.string nm,.slice none 0 0,.slice an nj.length cn] 115);have b5:Up w6 (w8.alloc (.cells #[.string nm,.slice none 0 0,.slice an nj.length cn] 115)):=c7.alloc c7.size _;have i1:=mk _ b5;refine E7 10 rfl (λK hK=>?_);go_simp;refine E6 hK i1 ?_;clear hK K;refine E7 11 rfl (λK hK=>?_);refine J0 rfl _ _ 24 rfl w6.heap.size 115 ii _ 3 64 underlying24 hi i5 i6 i7 rfl (by decide) _ _ _ rfl a0 ⟨w8.heap.size,0,none⟩ 1 1 [.string nm,.slice none 0 0,.slice an nj.length cn] rfl rfl (λj u hj=>Gu _ _ _ _ _ hj) (by simp[Value.oneCell']) (by unfold maxLen;omega) (by omega) b5.size ?_;intro v2 w9 hown9 hgr9;have e4:=M1 b5 a0 hgr9 (A4 _);have g4:F7 w8 w6.heap.size (.slice an nj.length cn) nj:=I8 g9 (by have:=e3.size;omega);have d3:=V1 (g4.up ((A5 w8.heap.size w8).alloc (A4 _) (.cells #[.string nm,.slice none 0 0,.slice an nj.length cn] 115))) a0 hgr9;have h3:=mk _ e4;clear hgr9 a0 b5 i1 g3 g9;refine E6 hK h3 ?_;clear hK K;refine E7 16 rfl (λK hK=>?_);refine Gf rfl _ _ 24 rfl w6.heap.size 115 ii 3 underlying24 hi _ _ _ rfl hown9 none 0 rfl ?_;have b1:=e4;have b9:=d3;have c8:=h3
    have b6:w9.ownsRow w6.heap.size 115 3 v2 (ps.take k++((⟨nm,[],nj⟩,.slice none 0 0,.slice an nj.length cn):Bv)::ps.drop k).length (E8 (ps.take k++((⟨nm,[],nj⟩,.slice none 0 0,.slice an nj.length cn):Bv)::ps.drop k)):=by
     have e1:0+1=(ps.take k++((⟨nm,[],nj⟩,.slice none 0 0,.slice an nj.length cn):Bv)::ps.drop k).length:=by rw[g1];simp
     have e2:[]++[.string nm,.slice none 0 0,.slice an nj.length cn]=E8 (ps.take k++((⟨nm,[],nj⟩,.slice none 0 0,.slice an nj.length cn):Bv)::ps.drop k):=by rw[g1];simp[E8,O3]
     rw[← e1,← e2];exact hown9
    have Hn0:Hid (b.bs.length=0):=hn0;clear hown9 d3 h3 e4 hn0 k7 g1;generalize w9=w10 at *;refine E6 hK c8 ?_;clear hK K
    have HM:Hid ((ps.take k++((⟨nm,[],nj⟩,.slice none 0 0,.slice an nj.length cn):Bv)::ps.drop k).map (·.1)=b.bs.take k++⟨nm,[],nj⟩::b.bs.drop k):=by
     show _=_
     rw[← x3,List.map_append,List.map_cons,List.map_take,List.map_drop]
    have Hmem:Hid (∀q∈ps.take k++((⟨nm,[],nj⟩,.slice none 0 0,.slice an nj.length cn):Bv)::ps.drop k,q∈ps∨q=((⟨nm,[],nj⟩,.slice none 0 0,.slice an nj.length cn):Bv)):=λq hq=>by
     rcases D0.1 hq with h|h
     ·exact .inl (List.mem_of_mem_take h)
     ·rcases List.mem_cons.1 h with h|h
      ·exact .inr h
      ·exact .inl (List.mem_of_mem_drop h)
    have g5:(ps.take k++((⟨nm,[],nj⟩,.slice none 0 0,.slice an nj.length cn):Bv)::ps.drop k).length=b.bs.length+1:=by simp;omega
    generalize (ps.take k++((⟨nm,[],nj⟩,.slice none 0 0,.slice an nj.length cn):Bv)::ps.drop k)=qs at *;have HlN:Hid (b.bs.length+1=qs.length):=g5.symm;rw[g5] at b6;clear g5;obtain⟨a7,a8,rfl⟩:=I7 b6;have d0:=kX.up b1 (by omega);have d4:=kR.up b1 (by omega);obtain⟨⟨j0,j1⟩,m0,m1⟩:=d0.c2;refine D6 17 rfl c8 ?_;refine E7 18 rfl (λK hK=>?_);go_simp;refine Bf hK ?_;clear hK K;refine F0 (by kernel_rfl) ?_ _;clear b0 h1 c8 j0 j1 m0 m1 mk;have g6:CB (w10.setCell ⟨w3.heap.size,1,none⟩ (.slice a7 (b.bs.length+1) a8)) w3.heap.size [.slice a3 b.tg.length c3,.slice a7 (b.bs.length+1) a8]:=d0.set (j:=1) (by simp);have d1:CB (w10.setCell ⟨w3.heap.size,1,none⟩ (.slice a7 (b.bs.length+1) a8)) (w.heap.size+1) [.slice none 0 0,.slice none 0 0]:=d4.other (by omega);have b7:Up w3 (w10.setCell ⟨w3.heap.size,1,none⟩ (.slice a7 (b.bs.length+1) a8)):=(i8.trans (b1.mono (by omega))).setCell (p:=⟨w3.heap.size,1,none⟩) (A4 _) _;have g7:Up w (w10.setCell ⟨w3.heap.size,1,none⟩ (.slice a7 (b.bs.length+1) a8)):=(D5 hB b1).setCell (p:=⟨w3.heap.size,1,none⟩) (by show _<=w3.heap.size;omega) _;have b2:(w10.setCell ⟨w3.heap.size,1,none⟩ (.slice a7 (b.bs.length+1) a8)).ownsRow w6.heap.size 115 3 (.slice a7 (b.bs.length+1) a8) (b.bs.length+1) (E8 qs):=F2 b6 (E1 (E2 _ _) _) g2;have c0:F7 (w10.setCell ⟨w3.heap.size,1,none⟩ (.slice a7 (b.bs.length+1) a8)) w6.heap.size (.slice an nj.length cn) nj:=F2 b9 (E1 (E2 _ _) _) g2;have i2:=X1.up b7
    have d5:Bq (w10.setCell ⟨w3.heap.size,1,none⟩ (.slice a7 (b.bs.length+1) a8)) w2.heap.size (.slice a7 (b.bs.length+1) a8) qs:=JW (I8 b2 (by omega)) rfl HlN.out (λq hq=>by
     rcases Hmem.out q hq with h|rfl
     ·obtain⟨q1,q2,q3⟩:=X2.2 q h;exact⟨q1.up b7,q2.up b7,q3⟩
     ·exact⟨B9 _ _ _ _,I8 c0 (by omega),hnm⟩)
    clear d0 d4 b6 b9 b2 c0 X1 X2 b7 b1 hB;generalize w10.setCell ⟨w3.heap.size,1,none⟩ (.slice a7 (b.bs.length+1) a8)=W11 at *;have d6:L6 W11 w2.heap.size (.agg #[.slice a3 b.tg.length c3,.slice a7 (b.bs.length+1) a8]) ⟨b.tg,b.bs.take k++⟨nm,[],nj⟩::b.bs.drop k⟩:=⟨_,_,qs,rfl,i2,d5,HM.out⟩
    have b3:∀y∈b.bs.take k++(⟨nm,[],nj⟩:Ba)::b.bs.drop k,y∈b.bs∨y=⟨nm,[],nj⟩:=λq hq=>by
     rcases D0.1 hq with h|h
     ·exact .inl (List.mem_of_mem_take h)
     ·rcases List.mem_cons.1 h with h|h
      ·exact .inr h
      ·exact .inl (List.mem_of_mem_drop h)
    have j3:=d6.bk ⟨h9.1,λy hy=>by
     rcases b3 y hy with h|rfl
     ·exact h9.2 y h
     ·exact⟨λs hs=>by simp at hs,j5⟩⟩
    obtain⟨s1,s2,s3⟩:=An (Ab HOK.out);have j4:=V8 Hpart.out
    have Hcopy:Hid (∀(v:Value)(w:World),Q6 w v ⟨b.tg,b.bs.take k++⟨nm,[],nj⟩::b.bs.drop k⟩->Calls prog 75 #[v] w λe w'=>(∃v',e=.returned v'/\L6 w' w.heap.size v' ⟨b.tg,b.bs.take k++⟨nm,[],nj⟩::b.bs.drop k⟩)/\Up w w'):=λv w h=>BN _ v w h (by show b.tg.length<=100;omega) (by show (b.bs.take k++(⟨nm,[],nj⟩:Ba)::b.bs.drop k).length<=100;simp;omega) (λy hy=>by
     rcases b3 y hy with h|rfl
     ·have:=s3 y h;omega
     ·simp;omega)
    have HC2:Hid (N6 b nm nj=0/\K3 b nm nj=⟨b.tg,b.bs.take k++⟨nm,[],nj⟩::b.bs.drop k⟩):=by show _/\_;rw[← HI.out];exact HC.out
    clear b3 s1 s2 s3 j4 HM Hmem d5 i2 HC HI d6;generalize (⟨b.tg,b.bs.take k++⟨nm,[],nj⟩::b.bs.drop k⟩:Bk)=b' at *;obtain⟨⟨z0,z1⟩,-⟩:=g6.c2;go_wp2_with fail;refine (Hcopy.out _ _ j3).mono ?_;rintro e k8 ⟨⟨v',rfl,hV⟩,d8⟩;obtain⟨a5,c5,a6,c6,k2,rfl,-⟩:=hV.parts;have d7:=d1.up d8 d1.2.2;have i3:=d1.2.2;have g8:=D5 g7 d8;clear z0 z1;obtain⟨⟨y0,y1⟩,f0,f1⟩:=d7.c2;go_wp2_with fail;refine O0 results30 underlying26 rfl M5 d7 rfl rfl ?_;refine⟨⟨_,BQ HC2.out.1.symm,?_⟩,K6 g8 (Nat.le_succ _) _ _⟩;rw[HC2.out.2];exact ((L6.set (L6.set hV i3) i3).low (by omega))
   case' inr =>
    obtain⟨rfl,-,rfl⟩:=Value.slice.inj h8;clear h8
  all_goals
   have e5:=Hrow.out;obtain⟨l1,k3⟩:=BP e5;have k1:=e5.lt g rfl;unfold maxLen at k3;have l7:k<=c4:=by omega
   have l8:¬(b.bs.length:Int)<(k:Int):=by omega
   obtain⟨o2,l2,k4⟩:∃o2:Nat,(if c4=k then some (⟨g,0,none⟩:Addr) else some ⟨g,k*3,none⟩)=some ⟨g,o2,none⟩/\(b.bs.length-k≠0->o2=k*3):=by
    by_cases h7:c4=k
    ·exact⟨0,by rw[if_pos h7],λh=>by omega⟩
    ·exact⟨k*3,by rw[if_neg h7],λ_=>rfl⟩
   have b0:World.cell? w6.drew ⟨w3.heap.size,1,none⟩=some (.slice (some ⟨g,0,none⟩) b.bs.length c4):=z1;clear z0 z1 e0 e1;refine F5 18 (λw'=>World.cell? w' ⟨w3.heap.size,1,none⟩=some (.slice (some ⟨g,0,none⟩) b.bs.length c4)) (by kernel_rfl) ?_;refine D6 1 rfl b0 ?_;refine D6 2 rfl b0 ?_;refine D6 3 rfl b0 ?_;refine D6 4 rfl b0 ?_;refine D6 6 rfl b0 ?_;refine D6 7 rfl b0 ?_;refine D6 12 rfl b0 ?_;refine D6 13 rfl b0 ?_;refine D6 14 rfl b0 ?_;refine D6 15 rfl b0 ?_;have b4:(w6.drew.alloc (.cells #[] 115)).ownsRow w6.heap.size 115 3 (.slice (some ⟨w6.heap.size,0,none⟩) 0 0) 0 []:=C0 w6.drew #[] 0 (A4 _) (by unfold maxLen;omega) rfl;have e7:Up w6 (w6.drew.alloc (.cells #[] 115)):=((A5 w6.heap.size w6).drew).alloc (A4 _) _;have g2:w3.heap.size<w6.heap.size:=by omega
   have mk:∀W,Up w6 W->World.cell? W ⟨w3.heap.size,1,none⟩=some (.slice (some ⟨g,0,none⟩) b.bs.length c4):=λW hb=>(hb.cell (p:=⟨w3.heap.size,1,none⟩) g2).trans b0;have h0:=mk _ e7;refine E7 0 rfl (λK hK=>?_);go_simp;refine E6 hK h0 ?_;clear hK K;have e8:=Cu (E4 e5 e7) 0 (ps.take k) (MC ps k);have e9:=X2.one (ps.take k) (λq hq=>List.mem_of_mem_take hq);have f2:=X2.one (ps.drop k) (λq hq=>List.mem_of_mem_drop hq);have f3:(E8 (ps.take k)).length=k*3:=by rw[R6,B8];omega
   have f4:(E8 (ps.drop k)).length=(b.bs.length-k)*3:=by rw[R6,A9];omega
   refine E7 5 rfl (λK hK=>?_);refine J0 rfl _ _ 24 rfl w6.heap.size 115 ii _ 3 64 underlying24 hi i5 i6 i7 rfl (by decide) _ 0 [] rfl b4 ⟨g,0,none⟩ k c4 (E8 (ps.take k)) rfl f3 e8 e9 (by unfold maxLen;omega) (by omega) e7.size ?_;intro v1 w7 b8 hgr7;have e3:=M1 e7 b4 hgr7 (A4 _);have h1:=mk _ e3;clear hgr7 b4 e8 e9 h0;refine E6 hK h1 ?_;clear hK K;refine E7 8 rfl (λK hK=>?_);go_simp;go_wp2_with (go_at_call 66;refine (Bj nj _ _ (hN.up e3) hnn).mono ?_;rintro e w8 ⟨⟨nu,rfl,g9,-⟩,i4⟩;have c7:=D5 e3 i4;obtain⟨an,cn,rfl⟩:=g9.lst.shape;have g3:=mk _ c7)
   refine E6 hK g3 ?_;clear hK K;refine D6 9 rfl g3 ?_;have a0:=(E4 b8 i4).alloc (.cells #[.string nm,.slice none 0 0,.slice an nj.length cn] 115);have b5:Up w6 (w8.alloc (.cells #[.string nm,.slice none 0 0,.slice an nj.length cn] 115)):=c7.alloc c7.size _;have i1:=mk _ b5;refine E7 10 rfl (λK hK=>?_);go_simp;refine E6 hK i1 ?_;clear hK K;refine E7 11 rfl (λK hK=>?_);refine J0 rfl _ _ 24 rfl w6.heap.size 115 ii _ 3 64 underlying24 hi i5 i6 i7 rfl (by decide) _ _ _ rfl a0 ⟨w8.heap.size,0,none⟩ 1 1 [.string nm,.slice none 0 0,.slice an nj.length cn] rfl rfl (λj u hj=>Gu _ _ _ _ _ hj) (by simp[Value.oneCell']) (by unfold maxLen;omega) (by omega) b5.size ?_;intro v2 w9 hown9 hgr9;have e4:=M1 b5 a0 hgr9 (A4 _);have g4:F7 w8 w6.heap.size (.slice an nj.length cn) nj:=I8 g9 (by have:=e3.size;omega);have d3:=V1 (g4.up ((A5 w8.heap.size w8).alloc (A4 _) (.cells #[.string nm,.slice none 0 0,.slice an nj.length cn] 115))) a0 hgr9;have h3:=mk _ e4;clear hgr9 a0 b5 i1 g3 g9;refine E6 hK h3 ?_;clear hK K;have f5:=E4 e5 e4
   have f6:∀(j:Nat)(u:Value),(E8 (ps.drop k))[j]?=some u->w9.cell? ((⟨g,o2,none⟩:Addr).add j)=some u:=λj u hu=>by
    have hj:=(A3.1 hu).1;rw[k4 (by omega)];exact Cu f5 k (ps.drop k) (Kt ps k) j u hu
   refine E7 16 rfl (λK hK=>?_);refine J0 rfl _ _ 24 rfl w6.heap.size 115 ii _ 3 64 underlying24 hi i5 i6 i7 rfl (by decide) _ _ _ rfl hown9 ⟨g,o2,none⟩ (b.bs.length-k) _ (E8 (ps.drop k)) rfl f4 f6 f2 (by unfold maxLen;omega) (by omega) e4.size ?_;intro v3 w10 hown10 hgr10;have b1:=M1 e4 hown9 hgr10 (A4 _);have b9:=V1 d3 hown9 hgr10;have c8:=mk _ b1
   have b6:w10.ownsRow w6.heap.size 115 3 v3 (ps.take k++((⟨nm,[],nj⟩,.slice none 0 0,.slice an nj.length cn):Bv)::ps.drop k).length (E8 (ps.take k++((⟨nm,[],nj⟩,.slice none 0 0,.slice an nj.length cn):Bv)::ps.drop k)):=by
    have e1:0+k+1+(b.bs.length-k)=(ps.take k++((⟨nm,[],nj⟩,.slice none 0 0,.slice an nj.length cn):Bv)::ps.drop k).length:=by simp;omega
    have e2:[]++E8 (ps.take k)++[.string nm,.slice none 0 0,.slice an nj.length cn]++E8 (ps.drop k)=E8 (ps.take k++((⟨nm,[],nj⟩,.slice none 0 0,.slice an nj.length cn):Bv)::ps.drop k):=by rw[Bt,E8];simp[O3]
    rw[← e1,← e2];exact hown10
   clear hgr10 hown10 f5 f6 hown9 d3 h3 f2 f3 f4 e4;refine E6 hK c8 ?_;clear hK K
   have HM:Hid ((ps.take k++((⟨nm,[],nj⟩,.slice none 0 0,.slice an nj.length cn):Bv)::ps.drop k).map (·.1)=b.bs.take k++⟨nm,[],nj⟩::b.bs.drop k):=by
    show _=_
    rw[← x3,List.map_append,List.map_cons,List.map_take,List.map_drop]
   have Hmem:Hid (∀q∈ps.take k++((⟨nm,[],nj⟩,.slice none 0 0,.slice an nj.length cn):Bv)::ps.drop k,q∈ps∨q=((⟨nm,[],nj⟩,.slice none 0 0,.slice an nj.length cn):Bv)):=λq hq=>by
    rcases D0.1 hq with h|h
    ·exact .inl (List.mem_of_mem_take h)
    ·rcases List.mem_cons.1 h with h|h
     ·exact .inr h
     ·exact .inl (List.mem_of_mem_drop h)
   have g5:(ps.take k++((⟨nm,[],nj⟩,.slice none 0 0,.slice an nj.length cn):Bv)::ps.drop k).length=b.bs.length+1:=by simp;omega
   generalize (ps.take k++((⟨nm,[],nj⟩,.slice none 0 0,.slice an nj.length cn):Bv)::ps.drop k)=qs at *;have HlN:Hid (b.bs.length+1=qs.length):=g5.symm;rw[g5] at b6;clear g5;obtain⟨a7,a8,rfl⟩:=I7 b6;have d0:=kX.up b1 (by omega);have d4:=kR.up b1 (by omega);obtain⟨⟨j0,j1⟩,m0,m1⟩:=d0.c2;refine D6 17 rfl c8 ?_;refine E7 18 rfl (λK hK=>?_);go_simp;refine Bf hK ?_;clear hK K;refine F0 (by kernel_rfl) ?_ _;clear b0 h1 c8 j0 j1 m0 m1 mk;have g6:CB (w10.setCell ⟨w3.heap.size,1,none⟩ (.slice a7 (b.bs.length+1) a8)) w3.heap.size [.slice a3 b.tg.length c3,.slice a7 (b.bs.length+1) a8]:=d0.set (j:=1) (by simp);have d1:CB (w10.setCell ⟨w3.heap.size,1,none⟩ (.slice a7 (b.bs.length+1) a8)) (w.heap.size+1) [.slice none 0 0,.slice none 0 0]:=d4.other (by omega);have b7:Up w3 (w10.setCell ⟨w3.heap.size,1,none⟩ (.slice a7 (b.bs.length+1) a8)):=(i8.trans (b1.mono (by omega))).setCell (p:=⟨w3.heap.size,1,none⟩) (A4 _) _;have g7:Up w (w10.setCell ⟨w3.heap.size,1,none⟩ (.slice a7 (b.bs.length+1) a8)):=(D5 hB b1).setCell (p:=⟨w3.heap.size,1,none⟩) (by show _<=w3.heap.size;omega) _;have b2:(w10.setCell ⟨w3.heap.size,1,none⟩ (.slice a7 (b.bs.length+1) a8)).ownsRow w6.heap.size 115 3 (.slice a7 (b.bs.length+1) a8) (b.bs.length+1) (E8 qs):=F2 b6 (E1 (E2 _ _) _) g2;have c0:F7 (w10.setCell ⟨w3.heap.size,1,none⟩ (.slice a7 (b.bs.length+1) a8)) w6.heap.size (.slice an nj.length cn) nj:=F2 b9 (E1 (E2 _ _) _) g2;have i2:=X1.up b7
   have d5:Bq (w10.setCell ⟨w3.heap.size,1,none⟩ (.slice a7 (b.bs.length+1) a8)) w2.heap.size (.slice a7 (b.bs.length+1) a8) qs:=JW (I8 b2 (by omega)) rfl HlN.out (λq hq=>by
    rcases Hmem.out q hq with h|rfl
    ·obtain⟨q1,q2,q3⟩:=X2.2 q h;exact⟨q1.up b7,q2.up b7,q3⟩
    ·exact⟨B9 _ _ _ _,I8 c0 (by omega),hnm⟩)
   clear d0 d4 b6 b9 b2 c0 X1 X2 b7 b1 hB;generalize w10.setCell ⟨w3.heap.size,1,none⟩ (.slice a7 (b.bs.length+1) a8)=W11 at *;have d6:L6 W11 w2.heap.size (.agg #[.slice a3 b.tg.length c3,.slice a7 (b.bs.length+1) a8]) ⟨b.tg,b.bs.take k++⟨nm,[],nj⟩::b.bs.drop k⟩:=⟨_,_,qs,rfl,i2,d5,HM.out⟩
   have b3:∀y∈b.bs.take k++(⟨nm,[],nj⟩:Ba)::b.bs.drop k,y∈b.bs∨y=⟨nm,[],nj⟩:=λq hq=>by
    rcases D0.1 hq with h|h
    ·exact .inl (List.mem_of_mem_take h)
    ·rcases List.mem_cons.1 h with h|h
     ·exact .inr h
     ·exact .inl (List.mem_of_mem_drop h)
   have j3:=d6.bk ⟨h9.1,λy hy=>by
    rcases b3 y hy with h|rfl
    ·exact h9.2 y h
    ·exact⟨λs hs=>by simp at hs,j5⟩⟩
   obtain⟨s1,s2,s3⟩:=An (Ab HOK.out);have j4:=V8 Hpart.out
   have Hcopy:Hid (∀(v:Value)(w:World),Q6 w v ⟨b.tg,b.bs.take k++⟨nm,[],nj⟩::b.bs.drop k⟩->Calls prog 75 #[v] w λe w'=>(∃v',e=.returned v'/\L6 w' w.heap.size v' ⟨b.tg,b.bs.take k++⟨nm,[],nj⟩::b.bs.drop k⟩)/\Up w w'):=λv w h=>BN _ v w h (by show b.tg.length<=100;omega) (by show (b.bs.take k++(⟨nm,[],nj⟩:Ba)::b.bs.drop k).length<=100;simp;omega) (λy hy=>by
    rcases b3 y hy with h|rfl
    ·have:=s3 y h;omega
    ·simp;omega)
   have HC2:Hid (N6 b nm nj=0/\K3 b nm nj=⟨b.tg,b.bs.take k++⟨nm,[],nj⟩::b.bs.drop k⟩):=by show _/\_;rw[← HI.out];exact HC.out
   clear b3 s1 s2 s3 j4 HM Hmem d5 i2 HC HI d6;generalize (⟨b.tg,b.bs.take k++⟨nm,[],nj⟩::b.bs.drop k⟩:Bk)=b' at *;obtain⟨⟨z0,z1⟩,-⟩:=g6.c2;go_wp2_with fail;refine (Hcopy.out _ _ j3).mono ?_;rintro e k8 ⟨⟨v',rfl,hV⟩,d8⟩;obtain⟨a5,c5,a6,c6,k2,rfl,-⟩:=hV.parts;have d7:=d1.up d8 d1.2.2;have i3:=d1.2.2;have g8:=D5 g7 d8;clear z0 z1;obtain⟨⟨y0,y1⟩,f0,f1⟩:=d7.c2;go_wp2_with fail;refine O0 results30 underlying26 rfl M5 d7 rfl rfl ?_;refine⟨⟨_,BQ HC2.out.1.symm,?_⟩,K6 g8 (Nat.le_succ _) _ _⟩;rw[HC2.out.2];exact ((L6.set (L6.set hV i3) i3).low (by omega))
end Go.Proofs.YtmonodehegcfhaaGreatDoor
