/- The specification's ShareEnter. -/
import Derived.Test.YtmfjakieahkacaaGreatDoorJ17
namespace Go.Proofs.YtmfjakieahkacaaGreatDoor
open Go.RowKit
theorem FH{P:Program}{ops:Array Oper}{o:Oper}{a:Act}{w:World}{K:Act->World->Prop}{Q:Exit->Act->World->Prop}{E:Prop}
  (hg:o.guard=none) (s x:Operand) (t:TypeId) (hop:o.op=Op.call {callee:=Callee.builtin Builtin.append,args:=#[s,x],argTypes:=#[t,t]})
  (base:Nat) (e:TypeId) (i:TypeInfo) (size:Nat) (ht:P.underlying t=some (.slice e)) (hi:P.info? e=some i) (v:Value) (n:Nat) (xs:List Value) (hs:a.eval s=v) (hown:w.ownsRow base e size v n xs)
  (ad:Option Addr) (c:Nat) (hx:a.eval x=.slice ad 0 c) (hK:K (a.put o.dst v) w):if Region.wanted o (yielded ops a.tmps)=true then Oper.wp P o a w K Q else E:=by
 have hw:Region.wanted o (yielded ops a.tmps)=true:=by simp[Region.wanted,hg]
 rw[if_pos hw];have hr:=BL (P:=P) base t o.type e i size ht hi v n xs hown ad c;unfold Oper.wp;simp[execOp,hop,resolve,invoke,builtin,hs,hx,hr,Result.andThen];exact hK
set_option maxRecDepth 20000 in
set_option maxHeartbeats 4000000 in
theorem NT(b:Bk)(v nv:Value)(nm:ByteArray)(nd:List ByteArray)(w:World)(h:K0 w v b)(hN:Ls w nv nd)(hnm:nm.size<=maxLen)(hnn:nd.length<=1048576):
  Calls Tryz.prog 112 #[v,.string nm,nv] w λe w'=>(∃v',e=.returned (.tuple #[v',.int .i64 (U8 b nm nd)])/\O5 w' w.heap.size v' (S8 b nm nd))/\Below w.heap.size w w':=by
 have hsz:=h.szb;obtain⟨a1,c1,a2,c2,rfl,t1,-⟩:=h.parts;obtain⟨a9,c9,rfl,-,hNz,-⟩:=id hN;obtain⟨ii,hi,iz0,iz1,iz2⟩:=info_parts Cq;obtain⟨W1,hW1,kA,kR,hB1,hs1⟩:=cbE2 w [.slice a1 (b).tg.length c1,.slice a2 (b).bs.length c2] 26 [.slice none 0 0,.slice none 0 0] 26;go_enter Tryz.func112,Tryz.ntmps112;go_upto_region 1 with fail;try rw[hW1]
 clear hW1;have hk:=h.up hB1;have hN:=hN.up hB1;have t1:=t1.up hB1;clear h;obtain⟨e0,e1⟩:=kA.c2';go_wp2_with fail;refine (CY b _ _ hk).mono ?_;rintro e w2 ⟨rfl,hb2⟩;have hz2:=hb2.size;have kA:=kA.up hb2 (by omega);have kR:=kR.up hb2 (by omega);have hk:=hk.up hb2;have hN:=hN.up hb2;have t1:=t1.up hb2;have hB:=D1 hB1 hb2;clear e0 e1 hB1 hb2;cases hok:I1 b
 ·obtain⟨⟨y0,y1⟩,f0,f1⟩:=kR.c2;have HC:Hid (U8 b nm nd=1/\S8 b nm nd=S7):=Pe hok;go_wp2_with fail;refine S3 Tryz.results112 Tryz.underlying26 rfl L9 kR rfl rfl ?_;exact⟨⟨_,BZ HC.out.1.symm,by rw[HC.out.2];exact FF _ _⟩,I7 hB (Nat.le_succ _) _ _⟩
 obtain⟨e0,e1⟩:=kA.c2';go_wp2_with fail;refine (Ga b _ _ hk (Bj hok)).mono ?_;rintro e w3 ⟨⟨xv,rfl,hX⟩,hb3⟩;obtain⟨a3,c3,a4,c4,ps,rfl,x1,x2,x3⟩:=hX.parts;have hz3:=hb3.size;have kA:=kA.up hb3 (by omega);have kR:=kR.up hb3 (by omega);have hk:=hk.up hb3;have hN:=hN.up hb3;have t1:=t1.up hb3;have hB:=D1 hB hb3;clear e0 e1 hb3 hX;go_upto_region 4 with fail;obtain⟨W4,hW4,kX,hb4,hs4⟩:=cbE1 w3 [.slice a3 b.tg.length c3,.slice a4 b.bs.length c4] 26;rw[hW4];clear hW4;have kA:=kA.up hb4 (by omega);have kR:=kR.up hb4 (by omega);have hk:=hk.up hb4;have hN:=hN.up hb4;have t1:=t1.up hb4;have hB:=D1 hB hb4;have X1:=x1;have X2:=x2;have hL:=hb4;clear hb4 x1 x2;go_wp2_with fail;refine (Dh nm _ hnm).mono ?_;rintro e w' ⟨rfl,hw⟩;obtain rfl:=hw.symm;clear hw;have HOK:Hid (I1 b=true):=hok
 have back:∀(W:World)(cd:Int),Below W4.heap.size W4 W->U8 b nm nd=cd/\S8 b nm nd=b->∃v',(Ending.returned (.tuple #[.agg #[.slice a3 b.tg.length c3,.slice a4 b.bs.length c4],.int .i64 cd])=Ending.returned (.tuple #[v',.int .i64 (U8 b nm nd)]))/\
   O5 ((W.setCell ⟨w.heap.size+1,0,none⟩ (.slice a3 b.tg.length c3)).setCell ⟨w.heap.size+1,1,none⟩ (.slice a4 b.bs.length c4)) w.heap.size v' (S8 b nm nd):=λW cd hb hc=>by
  have hl:=D1 hL hb;refine⟨_,BZ hc.1.symm,?_⟩;rw[hc.2];exact ((O5.set (O5.set ⟨_,_,ps,rfl,X1.up hl,X2.up hl,x3⟩ (by omega)) (by omega)).low (by omega))
 have Hback:Hid (∀(W:World)(cd:Int),Below W4.heap.size W4 W->U8 b nm nd=cd/\S8 b nm nd=b->∃v',(Ending.returned (.tuple #[.agg #[.slice a3 b.tg.length c3,.slice a4 b.bs.length c4],.int .i64 cd])=Ending.returned (.tuple #[v',.int .i64 (U8 b nm nd)]))/\
   O5 ((W.setCell ⟨w.heap.size+1,0,none⟩ (.slice a3 b.tg.length c3)).setCell ⟨w.heap.size+1,1,none⟩ (.slice a4 b.bs.length c4)) w.heap.size v' (S8 b nm nd)):=back
 clear back;cases hnb:U9 nm
 ·have HC:Hid (U8 b nm nd=2/\S8 b nm nd=b):=IM hok (by rw[hnb];rfl);obtain⟨⟨y0,y1⟩,f0,f1⟩:=kR.c2;obtain⟨⟨z0,z1⟩,-⟩:=kX.c2;go_wp2_with fail;refine S3 Tryz.results112 Tryz.underlying26 rfl L9 kR rfl rfl ?_;exact⟨Hback.out _ _ (A4 _ _) HC.out,I7 hB (Nat.le_succ _) _ _⟩
 obtain⟨e0,e1⟩:=kA.c2';go_wp2_with fail;refine (Cx nd b.tg _ _ _ hN t1).mono ?_;rintro e w5 ⟨rfl,md,hmd⟩;have hb5:Below W4.heap.size W4 w5:=by rw[hmd];exact M3 (A4 _ _) md
 have hz5:=hb5.size;have kA:=kA.up hb5 (by omega);have kR:=kR.up hb5 (by omega);have kX:=kX.up hb5 (by omega);have hk:=hk.up hb5;have hN:=hN.up hb5;have hB:=D1 hB hb5;clear hmd e0 e1;cases hpt:pB (J9 nd b.tg)
 ·have HC:Hid (U8 b nm nd=2/\S8 b nm nd=b):=IM hok (by rw[hnb,hpt];rfl);obtain⟨⟨y0,y1⟩,f0,f1⟩:=kR.c2;obtain⟨⟨z0,z1⟩,-⟩:=kX.c2;go_wp2_with fail;refine S3 Tryz.results112 Tryz.underlying26 rfl L9 kR rfl rfl ?_;exact⟨Hback.out _ _ hb5 HC.out,I7 hB (Nat.le_succ _) _ _⟩
 have h2:(U9 nm&&pB (J9 nd b.tg))=true:=by rw[hnb,hpt];rfl
 have H2:Hid ((U9 nm&&pB (J9 nd b.tg))=true):=h2;have Hpart:Hid (J9 nd b.tg):=O7.1 hpt;clear h2 hpt hnb;obtain⟨e0,e1⟩:=kA.c2';go_wp2_with fail;refine (FG b _ nm _ hk).mono ?_;rintro e w6 ⟨rfl,hb6⟩;have hb6':=D1 hb5 hb6;have hz6:=hb6.size;have kA:=kA.up hb6 (by omega);have kR:=kR.up hb6 (by omega);have kX:=kX.up hb6 (by omega);have hN:=hN.up hb6;have hB:=D1 hB hb6;clear e0 e1 hb5 hb6 hk;cases hm:D2 (I9 b.bs) nm
 case true =>
  have HC:Hid (U8 b nm nd=3/\S8 b nm nd=b):=JY HOK.out H2.out hm;obtain⟨hidx,-⟩:=Dv hm;rw[hidx];obtain⟨⟨y0,y1⟩,f0,f1⟩:=kR.c2;obtain⟨⟨z0,z1⟩,-⟩:=kX.c2;go_wp2_with fail;refine S3 Tryz.results112 Tryz.underlying26 rfl L9 kR rfl rfl ?_;exact⟨Hback.out _ _ hb6' HC.out,I7 hB (Nat.le_succ _) _ _⟩
 rw[BH hm];have Hm:Hid (D2 (I9 b.bs) nm=false):=hm;clear hm;by_cases h5:5<=b.bs.length
 ·have HC:Hid (U8 b nm nd=4/\S8 b nm nd=b):=KW HOK.out H2.out Hm.out h5;obtain⟨e0,e1⟩:=kA.c2';obtain⟨⟨y0,y1⟩,f0,f1⟩:=kR.c2;obtain⟨⟨z0,z1⟩,-⟩:=kX.c2;go_wp2_with fail;refine S3 Tryz.results112 Tryz.underlying26 rfl L9 kR rfl rfl ?_;exact⟨Hback.out _ _ hb6' HC.out,I7 hB (Nat.le_succ _) _ _⟩
 have HC:Hid (U8 b nm nd=0/\S8 b nm nd=⟨b.tg,b.bs.take (KV b nm)++⟨nm,[],nd⟩::b.bs.drop (KV b nm)⟩):=MU HOK.out H2.out Hm.out h5;clear Hback;have hL6:=D1 hL hb6';have hps:ps.length=b.bs.length:=by rw[← x3,B5]
 obtain⟨e0,e1⟩:=kA.c2';obtain⟨⟨z0,z1⟩,-⟩:=kX.c2;have hBs:=(X2.up hL6).bs x3 hsz.2;obtain⟨-,hpos⟩:=hBs.at;have hrow0:=(X2.up hL6).1;rw[hps] at hrow0;have Hrow:Hid (w6.ownsRow w2.heap.size 49 3 (.slice a4 b.bs.length c4) b.bs.length (I8 ps)):=hrow0;clear hrow0;go_wp2_with fail;go_loop [9] (λi=>∃k:Nat,k<=b.bs.length/\i=.int .i64 k/\SW b nm k) (λi=>b.bs.length-(intOf i).toNat)
 case atStart=>exact⟨0,by omega,rfl,λj x hj=>by omega⟩
 case round =>
  obtain⟨k,hk,rfl,hlow⟩:=hrel;have Hlow:Hid (SW b nm k):=hlow;clear hlow;by_cases hp:k<b.bs.length
  case' pos =>
   obtain⟨g,o,rfl,hS,hgl⟩:=hpos (by omega);obtain⟨_,_,_,_,q3,-,-,-,-,-⟩:=(hS.at hp).cells;cases hl:Op.bytesLess (b.bs[k]).nm.toList nm.toList
   case true =>
    have Hl:Hid (SW b nm (k+1)):=λj x hj hx=>by
     by_cases e:j=k
     ·subst e;rw[A0 hp] at hx;obtain rfl:=A5 hx;exact hl
     ·exact Hlow.out j x (by omega) hx
    go_wp2_with fail;go_round
    case rel=>exact⟨k+1,by omega,by go_num,Hl.out⟩
    case measure=>simp[intOf];omega
   have HI:Hid (KV b nm=k):=UP hk Hlow.out (λx hx=>by
    rw[A0 hp] at hx;obtain rfl:=A5 hx;exact hl)
   go_wp2_with fail;clear q3 hl hS;obtain⟨gx,cx,hgx⟩:=T7 Hrow.out (by omega);obtain⟨hga,-,rfl⟩:=Value.slice.inj hgx;obtain⟨rfl,rfl,-⟩:=Addr.mk.inj (A5 hga);clear hgx hga
  case' neg =>
   have HI:Hid (KV b nm=k):=UP hk Hlow.out (λx hx=>by
    have:=(A2.1 hx).1;omega)
   go_wp2_with fail;rcases Hrow.out.2 with⟨hnil,hn0⟩|⟨g,cx,curx,hgx,-⟩
   case inl =>
    obtain⟨rfl,-,rfl⟩:=Value.slice.inj hnil;clear hnil;have hk0:k=0:=by omega
    have hps0:ps=[]:=C4.1 (by omega);rw[hn0] at z1;have hS1:World.cell? w6.drew ⟨w3.heap.size,1,none⟩=some (.slice none 0 0):=z1;clear z0 z1 e0 e1;refine M4 18 (λw'=>World.cell? w' ⟨w3.heap.size,1,none⟩=some (.slice none 0 0)) (by kernel_rfl) ?_;refine E6 1 rfl hS1 ?_;refine E6 2 rfl hS1 ?_;refine E6 3 rfl hS1 ?_;refine E6 4 rfl hS1 ?_;refine E6 6 rfl hS1 ?_;refine E6 7 rfl hS1 ?_;refine E6 12 rfl hS1 ?_;refine E6 13 rfl hS1 ?_;refine E6 14 rfl hS1 ?_;refine E6 15 rfl hS1 ?_;have hown0:(w6.drew.alloc (.cells #[] 49)).ownsRow w6.heap.size 49 3 (.slice (some ⟨w6.heap.size,0,none⟩) 0 0) 0 []:=C0 w6.drew #[] 0 (A3 _) (by unfold maxLen;omega) rfl;have hb0:Below w6.heap.size w6 (w6.drew.alloc (.cells #[] 49)):=((A4 w6.heap.size w6).drew).alloc (A3 _) _;have hxl:w3.heap.size<w6.heap.size:=by omega
    have mk:∀W,Below w6.heap.size w6 W->World.cell? W ⟨w3.heap.size,1,none⟩=some (.slice none 0 0):=λW hb=>(hb.cell (p:=⟨w3.heap.size,1,none⟩) hxl).trans hS1;have hSl:=mk _ hb0;refine K4 0 rfl (λK hK=>?_);go_simp;refine K9 hK hSl ?_;clear hK K;have hown7:=hown0;have hb7:=hb0;have hS7:=hSl;have hww:w6.drew.alloc (.cells #[] 49)=(w6.alloc (.cells #[] 49)).drew:=rfl;rw[hww] at hown7 hb7 hS7;clear hww hown0 hb0 hSl;generalize (w6.alloc (.cells #[] 49)).drew=w7 at *;refine K4 5 rfl (λK hK=>?_);refine FH rfl _ _ 24 rfl w6.heap.size 49 ii 3 Tryz.underlying24 hi _ _ _ rfl hown7 none 0 rfl ?_;refine K9 hK hS7 ?_;clear hK K;refine K4 8 rfl (λK hK=>?_);go_simp;go_wp2_with (go_at_call 42;refine (CE nd _ _ (hN.up hb7) hnn).mono ?_;rintro e w8 ⟨⟨nu,rfl,hon,-⟩,hb8⟩;have hb68:=D1 hb7 hb8;obtain⟨an,cn,rfl⟩:=hon.lst.shape;have hS8:=mk _ hb68)
    refine K9 hK hS8 ?_;clear hK K;refine E6 9 rfl hS8 ?_;have hown8:=(P8 hown7 hb8).alloc (.cells #[.string nm,.slice none 0 0,.slice an nd.length cn] 49);have hb8a:Below w6.heap.size w6 (w8.alloc (.cells #[.string nm,.slice none 0 0,.slice an nd.length cn] 49)):=hb68.alloc hb68.size _;have hSA:=mk _ hb8a;refine K4 10 rfl (λK hK=>?_);go_simp;refine K9 hK hSA ?_;clear hK K;refine K4 11 rfl (λK hK=>?_);refine O0 rfl _ _ 24 rfl w6.heap.size 49 ii _ 3 64 Tryz.underlying24 hi iz0 iz1 iz2 rfl (by decide) _ _ _ rfl hown8 ⟨w8.heap.size,0,none⟩ 1 1 [.string nm,.slice none 0 0,.slice an nd.length cn] rfl rfl (λj u hj=>Fd _ _ _ _ _ hj) (by simp[Value.oneCell']) (by unfold maxLen;omega) (by omega) hb8a.size ?_;intro v2 w9 hown9 hgr9;have hb9:=N5 hb8a hown8 hgr9 (A3 _);have hon8:E5 w8 w6.heap.size (.slice an nd.length cn) nd:=N3 hon (by have:=hb7.size;omega);have hon9:=X6 (hon8.up ((A4 w8.heap.size w8).alloc (A3 _) (.cells #[.string nm,.slice none 0 0,.slice an nd.length cn] 49))) hown8 hgr9;have hS9:=mk _ hb9;clear hgr9 hown8 hb8a hSA hS8 hon;refine K9 hK hS9 ?_;clear hK K;refine K4 16 rfl (λK hK=>?_);refine FH rfl _ _ 24 rfl w6.heap.size 49 ii 3 Tryz.underlying24 hi _ _ _ rfl hown9 none 0 rfl ?_;have hb10:=hb9;have hon10:=hon9;have hS10:=hS9
    have hW10:w9.ownsRow w6.heap.size 49 3 v2 (ps.take k++((⟨nm,[],nd⟩,.slice none 0 0,.slice an nd.length cn):Bv)::ps.drop k).length (I8 (ps.take k++((⟨nm,[],nd⟩,.slice none 0 0,.slice an nd.length cn):Bv)::ps.drop k)):=by
     have e1:0+1=(ps.take k++((⟨nm,[],nd⟩,.slice none 0 0,.slice an nd.length cn):Bv)::ps.drop k).length:=by rw[hps0];simp
     have e2:[]++[.string nm,.slice none 0 0,.slice an nd.length cn]=I8 (ps.take k++((⟨nm,[],nd⟩,.slice none 0 0,.slice an nd.length cn):Bv)::ps.drop k):=by rw[hps0];simp[I8,Ch]
     rw[← e1,← e2];exact hown9
    have Hn0:Hid (b.bs.length=0):=hn0;clear hown9 hon9 hS9 hb9 hn0 hk0 hps0;generalize w9=w10 at *;refine K9 hK hS10 ?_;clear hK K
    have HM:Hid ((ps.take k++((⟨nm,[],nd⟩,.slice none 0 0,.slice an nd.length cn):Bv)::ps.drop k).map (·.1)=b.bs.take k++⟨nm,[],nd⟩::b.bs.drop k):=by
     show _=_
     rw[← x3,List.map_append,List.map_cons,List.map_take,List.map_drop]
    have Hmem:Hid (∀q∈ps.take k++((⟨nm,[],nd⟩,.slice none 0 0,.slice an nd.length cn):Bv)::ps.drop k,q∈ps∨q=((⟨nm,[],nd⟩,.slice none 0 0,.slice an nd.length cn):Bv)):=λq hq=>by
     rcases C6.1 hq with h|h
     ·exact .inl (List.mem_of_mem_take h)
     ·rcases List.mem_cons.1 h with h|h
      ·exact .inr h
      ·exact .inl (List.mem_of_mem_drop h)
    have hlN:(ps.take k++((⟨nm,[],nd⟩,.slice none 0 0,.slice an nd.length cn):Bv)::ps.drop k).length=b.bs.length+1:=by simp;omega
    generalize (ps.take k++((⟨nm,[],nd⟩,.slice none 0 0,.slice an nd.length cn):Bv)::ps.drop k)=qs at *;have HlN:Hid (b.bs.length+1=qs.length):=hlN.symm;rw[hlN] at hW10;clear hlN;obtain⟨a10,c10,rfl⟩:=K3 hW10;have kX10:=kX.up hb10 (by omega);have kR10:=kR.up hb10 (by omega);obtain⟨⟨j0,j1⟩,m0,m1⟩:=kX10.c2;refine E6 17 rfl hS10 ?_;refine K4 18 rfl (λK hK=>?_);go_simp;refine Cj hK ?_;clear hK K;refine N2 (by kernel_rfl) ?_ _;clear hS1 hS7 hS10 j0 j1 m0 m1 mk;have kX11:CB (w10.setCell ⟨w3.heap.size,1,none⟩ (.slice a10 (b.bs.length+1) c10)) w3.heap.size [.slice a3 b.tg.length c3,.slice a10 (b.bs.length+1) c10]:=kX10.set (j:=1) (by simp);have kR11:CB (w10.setCell ⟨w3.heap.size,1,none⟩ (.slice a10 (b.bs.length+1) c10)) (w.heap.size+1) [.slice none 0 0,.slice none 0 0]:=kR10.other (by omega);have hL11:Below w3.heap.size w3 (w10.setCell ⟨w3.heap.size,1,none⟩ (.slice a10 (b.bs.length+1) c10)):=(hL6.trans (hb10.mono (by omega))).setCell (p:=⟨w3.heap.size,1,none⟩) (A3 _) _;have hB11:Below w.heap.size w (w10.setCell ⟨w3.heap.size,1,none⟩ (.slice a10 (b.bs.length+1) c10)):=(D1 hB hb10).setCell (p:=⟨w3.heap.size,1,none⟩) (by show _<=w3.heap.size;omega) _;have hrow11:(w10.setCell ⟨w3.heap.size,1,none⟩ (.slice a10 (b.bs.length+1) c10)).ownsRow w6.heap.size 49 3 (.slice a10 (b.bs.length+1) c10) (b.bs.length+1) (I8 qs):=G9 hW10 (E3 (F7 _ _) _) hxl;have hon11:E5 (w10.setCell ⟨w3.heap.size,1,none⟩ (.slice a10 (b.bs.length+1) c10)) w6.heap.size (.slice an nd.length cn) nd:=G9 hon10 (E3 (F7 _ _) _) hxl;have x11:=X1.up hL11
    have hW11:Bp (w10.setCell ⟨w3.heap.size,1,none⟩ (.slice a10 (b.bs.length+1) c10)) w2.heap.size (.slice a10 (b.bs.length+1) c10) qs:=IU (N3 hrow11 (by omega)) rfl HlN.out (λq hq=>by
     rcases Hmem.out q hq with h|rfl
     ·obtain⟨q1,q2,q3⟩:=X2.2 q h;exact⟨q1.up hL11,q2.up hL11,q3⟩
     ·exact⟨B9 _ _ _ _,N3 hon11 (by omega),hnm⟩)
    clear kX10 kR10 hW10 hon10 hrow11 hon11 X1 X2 hL11 hb10 hB;generalize w10.setCell ⟨w3.heap.size,1,none⟩ (.slice a10 (b.bs.length+1) c10)=W11 at *;have hbk':O5 W11 w2.heap.size (.agg #[.slice a3 b.tg.length c3,.slice a10 (b.bs.length+1) c10]) ⟨b.tg,b.bs.take k++⟨nm,[],nd⟩::b.bs.drop k⟩:=⟨_,_,qs,rfl,x11,hW11,HM.out⟩
    have hmem':∀y∈b.bs.take k++(⟨nm,[],nd⟩:Ba)::b.bs.drop k,y∈b.bs∨y=⟨nm,[],nd⟩:=λq hq=>by
     rcases C6.1 hq with h|h
     ·exact .inl (List.mem_of_mem_take h)
     ·rcases List.mem_cons.1 h with h|h
      ·exact .inr h
      ·exact .inl (List.mem_of_mem_drop h)
    have hbv:=hbk'.bk ⟨hsz.1,λy hy=>by
     rcases hmem' y hy with h|rfl
     ·exact hsz.2 y h
     ·exact⟨λs hs=>by simp at hs,hNz⟩⟩
    obtain⟨s1,s2,s3⟩:=Br (Bj HOK.out);have hpn:=Z5 Hpart.out
    have Hcopy:Hid (∀(v:Value)(w:World),K0 w v ⟨b.tg,b.bs.take k++⟨nm,[],nd⟩::b.bs.drop k⟩->Calls Tryz.prog 18 #[v] w λe w'=>(∃v',e=.returned v'/\O5 w' w.heap.size v' ⟨b.tg,b.bs.take k++⟨nm,[],nd⟩::b.bs.drop k⟩)/\Below w.heap.size w w'):=λv w h=>Gb _ v w h (by show b.tg.length<=100;omega) (by show (b.bs.take k++(⟨nm,[],nd⟩:Ba)::b.bs.drop k).length<=100;simp;omega) (λy hy=>by
     rcases hmem' y hy with h|rfl
     ·have:=s3 y h;omega
     ·simp;omega)
    have HC2:Hid (U8 b nm nd=0/\S8 b nm nd=⟨b.tg,b.bs.take k++⟨nm,[],nd⟩::b.bs.drop k⟩):=by show _/\_;rw[← HI.out];exact HC.out
    clear hmem' s1 s2 s3 hpn HM Hmem hW11 x11 HC HI hbk';generalize (⟨b.tg,b.bs.take k++⟨nm,[],nd⟩::b.bs.drop k⟩:Bk)=b' at *;obtain⟨⟨z0,z1⟩,-⟩:=kX11.c2;go_wp2_with fail;refine (Hcopy.out _ _ hbv).mono ?_;rintro e w12 ⟨⟨v',rfl,hV⟩,hb12⟩;obtain⟨a5,c5,a6,c6,qs',rfl,-⟩:=hV.parts;have kR12:=kR11.up hb12 kR11.2.2;have hrl:=kR11.2.2;have hB12:=D1 hB11 hb12;clear z0 z1;obtain⟨⟨y0,y1⟩,f0,f1⟩:=kR12.c2;go_wp2_with fail;refine S3 Tryz.results112 Tryz.underlying26 rfl L9 kR12 rfl rfl ?_;refine⟨⟨_,BZ HC2.out.1.symm,?_⟩,I7 hB12 (Nat.le_succ _) _ _⟩;rw[HC2.out.2];exact ((O5.set (O5.set hV hrl) hrl).low (by omega))
   case' inr =>
    obtain⟨rfl,-,rfl⟩:=Value.slice.inj hgx;clear hgx
  all_goals
   have hrow:=Hrow.out;obtain⟨hc4,hc9⟩:=Pi hrow;have hgl:=hrow.lt g rfl;unfold maxLen at hc9;have hkc:k<=c4:=by omega
   have hw4:¬(b.bs.length:Int)<(k:Int):=by omega
   obtain⟨o2,ho2,hq2⟩:∃o2:Nat,(if c4=k then some (⟨g,0,none⟩:Addr) else some ⟨g,k*3,none⟩)=some ⟨g,o2,none⟩/\(b.bs.length-k≠0->o2=k*3):=by
    by_cases h7:c4=k
    ·exact⟨0,by rw[if_pos h7],λh=>by omega⟩
    ·exact⟨k*3,by rw[if_neg h7],λ_=>rfl⟩
   have hS1:World.cell? w6.drew ⟨w3.heap.size,1,none⟩=some (.slice (some ⟨g,0,none⟩) b.bs.length c4):=z1;clear z0 z1 e0 e1;refine M4 18 (λw'=>World.cell? w' ⟨w3.heap.size,1,none⟩=some (.slice (some ⟨g,0,none⟩) b.bs.length c4)) (by kernel_rfl) ?_;refine E6 1 rfl hS1 ?_;refine E6 2 rfl hS1 ?_;refine E6 3 rfl hS1 ?_;refine E6 4 rfl hS1 ?_;refine E6 6 rfl hS1 ?_;refine E6 7 rfl hS1 ?_;refine E6 12 rfl hS1 ?_;refine E6 13 rfl hS1 ?_;refine E6 14 rfl hS1 ?_;refine E6 15 rfl hS1 ?_;have hown0:(w6.drew.alloc (.cells #[] 49)).ownsRow w6.heap.size 49 3 (.slice (some ⟨w6.heap.size,0,none⟩) 0 0) 0 []:=C0 w6.drew #[] 0 (A3 _) (by unfold maxLen;omega) rfl;have hb0:Below w6.heap.size w6 (w6.drew.alloc (.cells #[] 49)):=((A4 w6.heap.size w6).drew).alloc (A3 _) _;have hxl:w3.heap.size<w6.heap.size:=by omega
   have mk:∀W,Below w6.heap.size w6 W->World.cell? W ⟨w3.heap.size,1,none⟩=some (.slice (some ⟨g,0,none⟩) b.bs.length c4):=λW hb=>(hb.cell (p:=⟨w3.heap.size,1,none⟩) hxl).trans hS1;have hSl:=mk _ hb0;refine K4 0 rfl (λK hK=>?_);go_simp;refine K9 hK hSl ?_;clear hK K;have hsrc1:=Fe (P8 hrow hb0) 0 (ps.take k) (Rx ps k);have hone1:=X2.one (ps.take k) (λq hq=>List.mem_of_mem_take hq);have hone2:=X2.one (ps.drop k) (λq hq=>List.mem_of_mem_drop hq);have hlen1:(I8 (ps.take k)).length=k*3:=by rw[Ci,B8];omega
   have hlen2:(I8 (ps.drop k)).length=(b.bs.length-k)*3:=by rw[Ci,List.length_drop];omega
   refine K4 5 rfl (λK hK=>?_);refine O0 rfl _ _ 24 rfl w6.heap.size 49 ii _ 3 64 Tryz.underlying24 hi iz0 iz1 iz2 rfl (by decide) _ 0 [] rfl hown0 ⟨g,0,none⟩ k c4 (I8 (ps.take k)) rfl hlen1 hsrc1 hone1 (by unfold maxLen;omega) (by omega) hb0.size ?_;intro v1 w7 hown7 hgr7;have hb7:=N5 hb0 hown0 hgr7 (A3 _);have hS7:=mk _ hb7;clear hgr7 hown0 hsrc1 hone1 hSl;refine K9 hK hS7 ?_;clear hK K;refine K4 8 rfl (λK hK=>?_);go_simp;go_wp2_with (go_at_call 42;refine (CE nd _ _ (hN.up hb7) hnn).mono ?_;rintro e w8 ⟨⟨nu,rfl,hon,-⟩,hb8⟩;have hb68:=D1 hb7 hb8;obtain⟨an,cn,rfl⟩:=hon.lst.shape;have hS8:=mk _ hb68)
   refine K9 hK hS8 ?_;clear hK K;refine E6 9 rfl hS8 ?_;have hown8:=(P8 hown7 hb8).alloc (.cells #[.string nm,.slice none 0 0,.slice an nd.length cn] 49);have hb8a:Below w6.heap.size w6 (w8.alloc (.cells #[.string nm,.slice none 0 0,.slice an nd.length cn] 49)):=hb68.alloc hb68.size _;have hSA:=mk _ hb8a;refine K4 10 rfl (λK hK=>?_);go_simp;refine K9 hK hSA ?_;clear hK K;refine K4 11 rfl (λK hK=>?_);refine O0 rfl _ _ 24 rfl w6.heap.size 49 ii _ 3 64 Tryz.underlying24 hi iz0 iz1 iz2 rfl (by decide) _ _ _ rfl hown8 ⟨w8.heap.size,0,none⟩ 1 1 [.string nm,.slice none 0 0,.slice an nd.length cn] rfl rfl (λj u hj=>Fd _ _ _ _ _ hj) (by simp[Value.oneCell']) (by unfold maxLen;omega) (by omega) hb8a.size ?_;intro v2 w9 hown9 hgr9;have hb9:=N5 hb8a hown8 hgr9 (A3 _);have hon8:E5 w8 w6.heap.size (.slice an nd.length cn) nd:=N3 hon (by have:=hb7.size;omega);have hon9:=X6 (hon8.up ((A4 w8.heap.size w8).alloc (A3 _) (.cells #[.string nm,.slice none 0 0,.slice an nd.length cn] 49))) hown8 hgr9;have hS9:=mk _ hb9;clear hgr9 hown8 hb8a hSA hS8 hon;refine K9 hK hS9 ?_;clear hK K;have hrow9:=P8 hrow hb9
   have hsrc2:∀(j:Nat)(u:Value),(I8 (ps.drop k))[j]?=some u->w9.cell? ((⟨g,o2,none⟩:Addr).add j)=some u:=λj u hu=>by
    have hj:=(A2.1 hu).1;rw[hq2 (by omega)];exact Fe hrow9 k (ps.drop k) (Ry ps k) j u hu
   refine K4 16 rfl (λK hK=>?_);refine O0 rfl _ _ 24 rfl w6.heap.size 49 ii _ 3 64 Tryz.underlying24 hi iz0 iz1 iz2 rfl (by decide) _ _ _ rfl hown9 ⟨g,o2,none⟩ (b.bs.length-k) _ (I8 (ps.drop k)) rfl hlen2 hsrc2 hone2 (by unfold maxLen;omega) (by omega) hb9.size ?_;intro v3 w10 hown10 hgr10;have hb10:=N5 hb9 hown9 hgr10 (A3 _);have hon10:=X6 hon9 hown9 hgr10;have hS10:=mk _ hb10
   have hW10:w10.ownsRow w6.heap.size 49 3 v3 (ps.take k++((⟨nm,[],nd⟩,.slice none 0 0,.slice an nd.length cn):Bv)::ps.drop k).length (I8 (ps.take k++((⟨nm,[],nd⟩,.slice none 0 0,.slice an nd.length cn):Bv)::ps.drop k)):=by
    have e1:0+k+1+(b.bs.length-k)=(ps.take k++((⟨nm,[],nd⟩,.slice none 0 0,.slice an nd.length cn):Bv)::ps.drop k).length:=by simp;omega
    have e2:[]++I8 (ps.take k)++[.string nm,.slice none 0 0,.slice an nd.length cn]++I8 (ps.drop k)=I8 (ps.take k++((⟨nm,[],nd⟩,.slice none 0 0,.slice an nd.length cn):Bv)::ps.drop k):=by rw[IR,I8];simp[Ch]
    rw[← e1,← e2];exact hown10
   clear hgr10 hown10 hrow9 hsrc2 hown9 hon9 hS9 hone2 hlen1 hlen2 hb9;refine K9 hK hS10 ?_;clear hK K
   have HM:Hid ((ps.take k++((⟨nm,[],nd⟩,.slice none 0 0,.slice an nd.length cn):Bv)::ps.drop k).map (·.1)=b.bs.take k++⟨nm,[],nd⟩::b.bs.drop k):=by
    show _=_
    rw[← x3,List.map_append,List.map_cons,List.map_take,List.map_drop]
   have Hmem:Hid (∀q∈ps.take k++((⟨nm,[],nd⟩,.slice none 0 0,.slice an nd.length cn):Bv)::ps.drop k,q∈ps∨q=((⟨nm,[],nd⟩,.slice none 0 0,.slice an nd.length cn):Bv)):=λq hq=>by
    rcases C6.1 hq with h|h
    ·exact .inl (List.mem_of_mem_take h)
    ·rcases List.mem_cons.1 h with h|h
     ·exact .inr h
     ·exact .inl (List.mem_of_mem_drop h)
   have hlN:(ps.take k++((⟨nm,[],nd⟩,.slice none 0 0,.slice an nd.length cn):Bv)::ps.drop k).length=b.bs.length+1:=by simp;omega
   generalize (ps.take k++((⟨nm,[],nd⟩,.slice none 0 0,.slice an nd.length cn):Bv)::ps.drop k)=qs at *;have HlN:Hid (b.bs.length+1=qs.length):=hlN.symm;rw[hlN] at hW10;clear hlN;obtain⟨a10,c10,rfl⟩:=K3 hW10;have kX10:=kX.up hb10 (by omega);have kR10:=kR.up hb10 (by omega);obtain⟨⟨j0,j1⟩,m0,m1⟩:=kX10.c2;refine E6 17 rfl hS10 ?_;refine K4 18 rfl (λK hK=>?_);go_simp;refine Cj hK ?_;clear hK K;refine N2 (by kernel_rfl) ?_ _;clear hS1 hS7 hS10 j0 j1 m0 m1 mk;have kX11:CB (w10.setCell ⟨w3.heap.size,1,none⟩ (.slice a10 (b.bs.length+1) c10)) w3.heap.size [.slice a3 b.tg.length c3,.slice a10 (b.bs.length+1) c10]:=kX10.set (j:=1) (by simp);have kR11:CB (w10.setCell ⟨w3.heap.size,1,none⟩ (.slice a10 (b.bs.length+1) c10)) (w.heap.size+1) [.slice none 0 0,.slice none 0 0]:=kR10.other (by omega);have hL11:Below w3.heap.size w3 (w10.setCell ⟨w3.heap.size,1,none⟩ (.slice a10 (b.bs.length+1) c10)):=(hL6.trans (hb10.mono (by omega))).setCell (p:=⟨w3.heap.size,1,none⟩) (A3 _) _;have hB11:Below w.heap.size w (w10.setCell ⟨w3.heap.size,1,none⟩ (.slice a10 (b.bs.length+1) c10)):=(D1 hB hb10).setCell (p:=⟨w3.heap.size,1,none⟩) (by show _<=w3.heap.size;omega) _;have hrow11:(w10.setCell ⟨w3.heap.size,1,none⟩ (.slice a10 (b.bs.length+1) c10)).ownsRow w6.heap.size 49 3 (.slice a10 (b.bs.length+1) c10) (b.bs.length+1) (I8 qs):=G9 hW10 (E3 (F7 _ _) _) hxl;have hon11:E5 (w10.setCell ⟨w3.heap.size,1,none⟩ (.slice a10 (b.bs.length+1) c10)) w6.heap.size (.slice an nd.length cn) nd:=G9 hon10 (E3 (F7 _ _) _) hxl;have x11:=X1.up hL11
   have hW11:Bp (w10.setCell ⟨w3.heap.size,1,none⟩ (.slice a10 (b.bs.length+1) c10)) w2.heap.size (.slice a10 (b.bs.length+1) c10) qs:=IU (N3 hrow11 (by omega)) rfl HlN.out (λq hq=>by
    rcases Hmem.out q hq with h|rfl
    ·obtain⟨q1,q2,q3⟩:=X2.2 q h;exact⟨q1.up hL11,q2.up hL11,q3⟩
    ·exact⟨B9 _ _ _ _,N3 hon11 (by omega),hnm⟩)
   clear kX10 kR10 hW10 hon10 hrow11 hon11 X1 X2 hL11 hb10 hB;generalize w10.setCell ⟨w3.heap.size,1,none⟩ (.slice a10 (b.bs.length+1) c10)=W11 at *;have hbk':O5 W11 w2.heap.size (.agg #[.slice a3 b.tg.length c3,.slice a10 (b.bs.length+1) c10]) ⟨b.tg,b.bs.take k++⟨nm,[],nd⟩::b.bs.drop k⟩:=⟨_,_,qs,rfl,x11,hW11,HM.out⟩
   have hmem':∀y∈b.bs.take k++(⟨nm,[],nd⟩:Ba)::b.bs.drop k,y∈b.bs∨y=⟨nm,[],nd⟩:=λq hq=>by
    rcases C6.1 hq with h|h
    ·exact .inl (List.mem_of_mem_take h)
    ·rcases List.mem_cons.1 h with h|h
     ·exact .inr h
     ·exact .inl (List.mem_of_mem_drop h)
   have hbv:=hbk'.bk ⟨hsz.1,λy hy=>by
    rcases hmem' y hy with h|rfl
    ·exact hsz.2 y h
    ·exact⟨λs hs=>by simp at hs,hNz⟩⟩
   obtain⟨s1,s2,s3⟩:=Br (Bj HOK.out);have hpn:=Z5 Hpart.out
   have Hcopy:Hid (∀(v:Value)(w:World),K0 w v ⟨b.tg,b.bs.take k++⟨nm,[],nd⟩::b.bs.drop k⟩->Calls Tryz.prog 18 #[v] w λe w'=>(∃v',e=.returned v'/\O5 w' w.heap.size v' ⟨b.tg,b.bs.take k++⟨nm,[],nd⟩::b.bs.drop k⟩)/\Below w.heap.size w w'):=λv w h=>Gb _ v w h (by show b.tg.length<=100;omega) (by show (b.bs.take k++(⟨nm,[],nd⟩:Ba)::b.bs.drop k).length<=100;simp;omega) (λy hy=>by
    rcases hmem' y hy with h|rfl
    ·have:=s3 y h;omega
    ·simp;omega)
   have HC2:Hid (U8 b nm nd=0/\S8 b nm nd=⟨b.tg,b.bs.take k++⟨nm,[],nd⟩::b.bs.drop k⟩):=by show _/\_;rw[← HI.out];exact HC.out
   clear hmem' s1 s2 s3 hpn HM Hmem hW11 x11 HC HI hbk';generalize (⟨b.tg,b.bs.take k++⟨nm,[],nd⟩::b.bs.drop k⟩:Bk)=b' at *;obtain⟨⟨z0,z1⟩,-⟩:=kX11.c2;go_wp2_with fail;refine (Hcopy.out _ _ hbv).mono ?_;rintro e w12 ⟨⟨v',rfl,hV⟩,hb12⟩;obtain⟨a5,c5,a6,c6,qs',rfl,-⟩:=hV.parts;have kR12:=kR11.up hb12 kR11.2.2;have hrl:=kR11.2.2;have hB12:=D1 hB11 hb12;clear z0 z1;obtain⟨⟨y0,y1⟩,f0,f1⟩:=kR12.c2;go_wp2_with fail;refine S3 Tryz.results112 Tryz.underlying26 rfl L9 kR12 rfl rfl ?_;refine⟨⟨_,BZ HC2.out.1.symm,?_⟩,I7 hB12 (Nat.le_succ _) _ _⟩;rw[HC2.out.2];exact ((O5.set (O5.set hV hrl) hrl).low (by omega))
end Go.Proofs.YtmfjakieahkacaaGreatDoor
