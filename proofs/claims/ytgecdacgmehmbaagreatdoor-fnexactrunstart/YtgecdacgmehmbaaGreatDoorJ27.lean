/- Safe by the program. -/
import Derived.Test.YtgecdacgmehmbaaGreatDoorJ26
import Derived.Test.YtgecdacgmehmbaaGreatDoorKf
import Derived.Test.YtgecdacgmehmbaaGreatDoorJ21
import Derived.Test.YtgecdacgmehmbaaGreatDoorXr
import Derived.Test.YtgecdacgmehmbaaGreatDoorJ11
import Derived.Test.YtgecdacgmehmbaaGreatDoorJ19
import Derived.Test.YtgecdacgmehmbaaGreatDoorJ2
import Derived.Laws.OwnMore
import Derived.Test.YtgecdacgmehmbaaGreatDoorShelf
import Derived.Test.YtgecdacgmehmbaaGreatDoorJ14
import Derived.Laws.AppendOwnNone
set_option maxRecDepth 20000
set_option maxHeartbeats 4000000
namespace Go.Proofs.YtgecdacgmehmbaaGreatDoor
open Go.RowKit
theorem AdF (b:Bk) (v:Value) (w:World) (h:BkV w v b) :
  Calls Tryz.prog 159 #[v] w λe w'=>(∃ss ok,e=.returned (.bool ok)/\OrderIs b ss ok)/\Below w.heap.size w w':=by
 obtain⟨a1,c1,a2,c2,rfl,-,-⟩:=h.parts;obtain⟨W1,hW1,kA,hB1,hs1⟩:=K6 w [.slice a1 b.things.length c1,.slice a2 b.bs.length c2] 37;go_enter Tryz.func159,Tryz.ntmps159
 go_upto_region 1 with fail
 try rw[hW1]
 clear hW1;have hk:=h.up hB1;obtain⟨e0,e1⟩:=kA.c2';go_wp2_with fail
 refine (AkJ b _ _ hk).mono ?_;rintro e w2 ⟨⟨u,ss,ok,rfl,ho,-,-⟩,hb2⟩;have hB2:=D5 hB1 hb2;clear e0 e1;go_wp2_with fail
 go_ret
 exact⟨⟨ss,ok,rfl,ho⟩,hB2⟩
theorem Acj (b:Bk) (v:Value) (w:World) (h:BkV w v b) (hn:b.things.length<=1048576) (hn5:b.bs.length<=100) (hsm:∀y∈b.bs,y.has.length<=1048576/\y.needs.length<=1048576) :
  Calls Tryz.prog 63 #[v] w λe w'=>(∃tu bu ps,e=.returned (.agg #[tu,bu])/\OwnT w' w.heap.size tu b.things/\BsW w' w.heap.size bu ps/\ps.map (·.1)=b.bs/\Fam w' w.heap.size none ((tu,b.things)::famB ps)/\∀p∈ps,NN p.2.1)/\Below w.heap.size w w':=by
 obtain⟨a1,c1,a2,c2,rfl,h1,h2⟩:=h.parts;obtain⟨ii,hi,iz0,iz1,iz2⟩:=info_parts Aan;obtain⟨W1,hW1,kA,kR,hB1,hs1⟩:=L8 w [.slice a1 (b).things.length c1,.slice a2 (b).bs.length c2] 37 [.slice none 0 0,.slice none 0 0] 37;go_enter Tryz.func63,Tryz.ntmps63
 go_upto_region 1 with fail
 try rw[hW1]
 clear hW1;have l1:=h1.up hB1;have l2:=h2.up hB1;obtain⟨e0,e1⟩:=kA.c2';clear h h1 h2;go_wp2_with fail
 refine (X7 b.things _ _ l1 hn).mono ?_;rintro e w2 ⟨⟨tu,rfl,hot,-⟩,hb2⟩;obtain⟨at1,ct1,rfl⟩:=hot.lst.shape;have hz2:=hb2.size;have kA2:=kA.up hb2 (by omega);have kR2:=kR.up hb2 (by omega);have l2':=l2.up hb2;have hBw2:=D5 hB1 hb2;have hW1z:w.heap.size+1<W1.heap.size:=by omega
 have hW1l:w.heap.size<=W1.heap.size:=by omega
 have hF2:Fam w2 W1.heap.size (some w2.heap.size) [(.slice at1 b.things.length ct1,b.things)]:=((Ae5 w2 W1.heap.size none).mk1 hot).avoid (A3 _);clear e0 e1 l1 l2 kA kR hs1 hB1 hb2;go_upto_region 2 with fail
 obtain⟨W3,hW3,kX,hb3,hs3⟩:=K6 w2 [.slice at1 b.things.length ct1,.slice none 0 0] 37;rw[hW3];clear hW3;clear hs3;have hF3:=hF2.up hb3;clear hF2;obtain⟨f0,f1⟩:=kA2.c2';have hla:=kA2.2.2;obtain⟨-,hpos⟩:=l2'.at;have hax:w.heap.size+1<w2.heap.size:=kR2.2.2;go_wp2_with fail
 go_loopw [4] (λi w'=>∃(k:Nat) (ps:List Bv) (xv:Value),k<=b.bs.length/\i=.int .i64 k/\ps.map (·.1)=b.bs.take k/\CB w' w2.heap.size [.slice at1 b.things.length ct1,xv]/\BsW w' (w2.heap.size+1) xv ps/\Below w2.heap.size w2 w'/\Fam w' W1.heap.size (some w2.heap.size) ((.slice at1 b.things.length ct1,b.things)::famB ps)/\∀p∈ps,NN p.2.1) (λi _=>b.bs.length-(intOf i).toNat)
 case atStart=>exact⟨0,[],.slice none 0 0,by omega,rfl,by simp,kX,⟨⟨by simp[rowsB],.inl ⟨rfl,rfl⟩⟩,λp hp=>by simp at hp⟩,hb3,hF3,λp hp=>by simp at hp⟩
 case round =>
  clear kX hb3 hF3;obtain⟨k,ps,xv,hk,rfl,hps,kX,hW,hB,hF,hnn⟩:=hrel;have HF:Hid (Fam wr W1.heap.size (some w2.heap.size) ((.slice at1 b.things.length ct1,b.things)::famB ps)):=hF;clear hF;have Hnn:Hid (∀p∈ps,NN p.2.1):=hnn;clear hnn;have Hps:Hid (ps.map (·.1)=b.bs.take k):=hps;have hpl:ps.length=k:=by have:=congrArg List.length hps;simp at this;omega
  clear hps;by_cases hp:k<b.bs.length
  ·obtain⟨bb,o,rfl,hS,hb⟩:=hpos (by omega)
   obtain⟨a3,d3,a4,d4,c3,c4,c5,l3,l4,z0⟩:=(hS.at hp).cells;have g1:=(hB.cell (p:=⟨w.heap.size,1,none⟩) hla).trans f1;have c3:=(hB.cell (p:=⟨bb,o+k*3,none⟩) hb).trans c3;have c4:=(hB.cell (p:=⟨bb,o+k*3+1,none⟩) hb).trans c4;have c5:=(hB.cell (p:=⟨bb,o+k*3+2,none⟩) hb).trans c5;obtain⟨s1,s2⟩:=hsm b.bs[k] (by simp);have l3:=l3.up hB;have l4:=l4.up hB;have HX:Hid (b.bs.take (k+1)=b.bs.take k++[b.bs[k]]):=A7 hp;generalize b.bs[k]=x0 at *;obtain⟨⟨x0c,x1c⟩,xf0,xf1⟩:=kX.c2;have hxl:=kX.2.2;have hzb:=hB.size;have hA':w.heap.size<w2.heap.size+1:=by omega
   have hbb':bb<w2.heap.size+1:=by omega
   have mk:∀w',Below (w2.heap.size+1) wr w'->Below (w2.heap.size+1) wr w'/\World.cell? w' ⟨w.heap.size,1,none⟩=some (.slice (some ⟨bb,o,none⟩) b.bs.length c2)/\World.cell? w' ⟨bb,o+k*3,none⟩=some (.string x0.nm)/\World.cell? w' ⟨bb,o+k*3+1,none⟩=some (.slice a3 x0.has.length d3)/\World.cell? w' ⟨bb,o+k*3+2,none⟩=some (.slice a4 x0.needs.length d4)/\World.cell? w' ⟨w2.heap.size,1,none⟩=some xv:=λw' hb'=>⟨hb',(hb'.cell (p:=⟨w.heap.size,1,none⟩) hA').trans g1,(hb'.cell (p:=⟨bb,o+k*3,none⟩) hbb').trans c3,(hb'.cell (p:=⟨bb,o+k*3+1,none⟩) hbb').trans c4,(hb'.cell (p:=⟨bb,o+k*3+2,none⟩) hbb').trans c5,(hb'.cell (p:=⟨w2.heap.size,1,none⟩) (Nat.lt_succ_self _)).trans x1c⟩;have hS0:=mk wr (A4 _ _);have hrow:=hW.1;rw[hpl] at hrow;have hb0:Below wr.heap.size wr wr.drew:=(A4 _ _).drew;have Mk:Hid (∀w',Below (w2.heap.size+1) wr w'->Below (w2.heap.size+1) wr w'/\World.cell? w' ⟨w.heap.size,1,none⟩=some (.slice (some ⟨bb,o,none⟩) b.bs.length c2)/\World.cell? w' ⟨bb,o+k*3,none⟩=some (.string x0.nm)/\World.cell? w' ⟨bb,o+k*3+1,none⟩=some (.slice a3 x0.has.length d3)/\World.cell? w' ⟨bb,o+k*3+2,none⟩=some (.slice a4 x0.needs.length d4)/\World.cell? w' ⟨w2.heap.size,1,none⟩=some xv):=mk;clear mk g1 c3 c4 c5 x0c x1c;have hS1:Below (w2.heap.size+1) wr wr.drew/\World.cell? wr.drew ⟨w.heap.size,1,none⟩=some (.slice (some ⟨bb,o,none⟩) b.bs.length c2)/\World.cell? wr.drew ⟨bb,o+k*3,none⟩=some (.string x0.nm)/\World.cell? wr.drew ⟨bb,o+k*3+1,none⟩=some (.slice a3 x0.has.length d3)/\World.cell? wr.drew ⟨bb,o+k*3+2,none⟩=some (.slice a4 x0.needs.length d4)/\World.cell? wr.drew ⟨w2.heap.size,1,none⟩=some xv:=Mk.out _ (A4 _ _).drew;go_wp2_with fail
   refine F6 26 (λw'=>Below (w2.heap.size+1) wr w'/\World.cell? w' ⟨w.heap.size,1,none⟩=some (.slice (some ⟨bb,o,none⟩) b.bs.length c2)/\World.cell? w' ⟨bb,o+k*3,none⟩=some (.string x0.nm)/\World.cell? w' ⟨bb,o+k*3+1,none⟩=some (.slice a3 x0.has.length d3)/\World.cell? w' ⟨bb,o+k*3+2,none⟩=some (.slice a4 x0.needs.length d4)/\World.cell? w' ⟨w2.heap.size,1,none⟩=some xv) (by kernel_rfl) ?_;refine tkx 0 rfl hS1 ?_;refine tkx 1 rfl hS1 ?_;refine tkx 2 rfl hS1 ?_;refine tkx 3 rfl hS1 ?_;refine tkx 4 rfl hS1 ?_;refine tkx 5 rfl hS1 ?_;refine tkx 6 rfl hS1 ?_;refine tkx 7 rfl hS1 ?_;refine tkx 8 rfl hS1 ?_;refine tkx 9 rfl hS1 ?_;refine tkx 10 rfl hS1 ?_;refine tkx 11 rfl hS1 ?_;refine tkx 12 rfl hS1 ?_;refine tkx 13 rfl hS1 ?_;refine tkx 15 rfl hS1 ?_;refine tkx 16 rfl hS1 ?_;refine tkx 17 rfl hS1 ?_;refine tkx 18 rfl hS1 ?_;refine tkx 19 rfl hS1 ?_;refine tkx 20 rfl hS1 ?_;refine D7 (i:=14) (by kernel_rfl) rfl (λK hK=>?_);go_simp
   go_wp2_with (go_at_call 72;refine (X7 x0.has _ _ (l3.up hb0) s1).mono ?_;rintro e w8 ⟨⟨hu,rfl,hoh,hun⟩,hbn8⟩;have Hun:Hid (NN hu):=hun;clear hun;have hb8:=D5 hb0 hbn8;obtain⟨ah,ch,rfl⟩:=hoh.lst.shape;have hS8:Below (w2.heap.size+1) wr w8/\World.cell? w8 ⟨w.heap.size,1,none⟩=some (.slice (some ⟨bb,o,none⟩) b.bs.length c2)/\World.cell? w8 ⟨bb,o+k*3,none⟩=some (.string x0.nm)/\World.cell? w8 ⟨bb,o+k*3+1,none⟩=some (.slice a3 x0.has.length d3)/\World.cell? w8 ⟨bb,o+k*3+2,none⟩=some (.slice a4 x0.needs.length d4)/\World.cell? w8 ⟨w2.heap.size,1,none⟩=some xv:=Mk.out _ (hb8.mono hxl))
   refine hK.out _ _ (λ_=>hS8) ?_;clear hK K;refine D7 (i:=21) (by kernel_rfl) rfl (λK hK=>?_);go_simp
   go_wp2_with (go_at_call 72;refine (X7 x0.needs _ _ (l4.up hb8) s2).mono ?_;rintro e w9 ⟨⟨nu,rfl,hon,-⟩,hbn9⟩;have hb9:=D5 hb8 hbn9;obtain⟨an,cn,rfl⟩:=hon.lst.shape;have hS9:Below (w2.heap.size+1) wr w9/\World.cell? w9 ⟨w.heap.size,1,none⟩=some (.slice (some ⟨bb,o,none⟩) b.bs.length c2)/\World.cell? w9 ⟨bb,o+k*3,none⟩=some (.string x0.nm)/\World.cell? w9 ⟨bb,o+k*3+1,none⟩=some (.slice a3 x0.has.length d3)/\World.cell? w9 ⟨bb,o+k*3+2,none⟩=some (.slice a4 x0.needs.length d4)/\World.cell? w9 ⟨w2.heap.size,1,none⟩=some xv:=Mk.out _ (hb9.mono hxl))
   refine hK.out _ _ (λ_=>hS9) ?_;clear hK K;refine tkx 22 rfl hS9 ?_;have hSA:Below (w2.heap.size+1) wr (w9.alloc (.cells #[.string x0.nm,.slice ah x0.has.length ch,.slice an x0.needs.length cn] 118))/\World.cell? (w9.alloc (.cells #[.string x0.nm,.slice ah x0.has.length ch,.slice an x0.needs.length cn] 118)) ⟨w.heap.size,1,none⟩=some (.slice (some ⟨bb,o,none⟩) b.bs.length c2)/\World.cell? (w9.alloc (.cells #[.string x0.nm,.slice ah x0.has.length ch,.slice an x0.needs.length cn] 118)) ⟨bb,o+k*3,none⟩=some (.string x0.nm)/\World.cell? (w9.alloc (.cells #[.string x0.nm,.slice ah x0.has.length ch,.slice an x0.needs.length cn] 118)) ⟨bb,o+k*3+1,none⟩=some (.slice a3 x0.has.length d3)/\World.cell? (w9.alloc (.cells #[.string x0.nm,.slice ah x0.has.length ch,.slice an x0.needs.length cn] 118)) ⟨bb,o+k*3+2,none⟩=some (.slice a4 x0.needs.length d4)/\World.cell? (w9.alloc (.cells #[.string x0.nm,.slice ah x0.has.length ch,.slice an x0.needs.length cn] 118)) ⟨w2.heap.size,1,none⟩=some xv:=Mk.out _ ((hb9.mono hxl).alloc (B1 hxl hb9.size) _);have hownA:=(E0 hrow hb9).alloc (.cells #[.string x0.nm,.slice ah x0.has.length ch,.slice an x0.needs.length cn] 118);refine D7 (i:=23) (by kernel_rfl) rfl (λK hK=>?_);go_simp
   refine hK.out _ _ (λ_=>hSA) ?_;clear hK K;refine D7 (i:=24) (by kernel_rfl) rfl (λK hK=>?_);refine F4 rfl _ _ 35 rfl (w2.heap.size+1) 118 ii _ 3 64 Tryz.underlying35 hi iz0 iz1 iz2 rfl (by decide) xv _ _ rfl hownA ⟨w9.heap.size,0,none⟩ 1 1 [.string x0.nm,.slice ah x0.has.length ch,.slice an x0.needs.length cn] rfl rfl (λj u hj=>Af7 _ _ _ _ _ hj) (by simp[Value.oneCell']) (by unfold maxLen;omega) (by omega) (by have:=hb9.size;simp;omega) ?_;intro v' w10 hown10 hgr10;have kX10:=((kX.up hb9 hxl).up ((A4 w9.heap.size w9).alloc (A3 _) (.cells #[.string x0.nm,.slice ah x0.has.length ch,.slice an x0.needs.length cn] 118)) (A1 hxl hb9.size)).kept hgr10 (Z3 hownA (by omega));have hBW10:=AmA hW hb9 (F9 (hoh.up hbn9) hxl) (F9 hon (B1 hxl hb8.size)) z0 hgr10 (by rw[hpl];exact hown10);have hb10:Below (w2.heap.size+1) wr w10:=F5 ((hb9.mono hxl).alloc (B1 hxl hb9.size) (.cells #[.string x0.nm,.slice ah x0.has.length ch,.slice an x0.needs.length cn] 118)) (by have:=hb9.size;simp;omega) hownA hgr10 (A3 _);have hS10:Below (w2.heap.size+1) wr w10/\World.cell? w10 ⟨w.heap.size,1,none⟩=some (.slice (some ⟨bb,o,none⟩) b.bs.length c2)/\World.cell? w10 ⟨bb,o+k*3,none⟩=some (.string x0.nm)/\World.cell? w10 ⟨bb,o+k*3+1,none⟩=some (.slice a3 x0.has.length d3)/\World.cell? w10 ⟨bb,o+k*3+2,none⟩=some (.slice a4 x0.needs.length d4)/\World.cell? w10 ⟨w2.heap.size,1,none⟩=some xv:=Mk.out _ hb10;obtain⟨gg,cc,rfl⟩:=F2 hown10 (by omega);obtain⟨⟨j0,j1⟩,m0,m1⟩:=kX10.c2;refine hK.out _ _ (λ_=>hS10) ?_;clear hK K;refine tkx 25 rfl hS10 ?_;refine D7 (i:=26) (by kernel_rfl) rfl (λK hK=>?_);go_simp
   refine hK.out _ _ (λh=>absurd rfl h) ?_;clear hK K;refine F0 (by kernel_rfl) ?_ _
   have hF10:Fam w10 W1.heap.size (some w2.heap.size) ((.slice at1 b.things.length ct1,b.things)::famB (ps++[((x0,.slice ah x0.has.length ch,.slice an x0.needs.length cn):Bv)])):=by
    have f0:=HF.out;have f8:=f0.new (f0.up hb8) hoh (A3 _) (by have:=hB.size;have:=hBw2.size;show W1.heap.size<=wr.heap.size;omega) (Abf hxl);have f9:=f8.new (f8.up hbn9) hon (A3 _) (by have:=hb8.size;omega) (Abf (by have:=hb8.size;omega));have fA:=(f9.up ((A4 w9.heap.size w9).alloc (A3 _) (.cells #[.string x0.nm,.slice ah x0.has.length ch,.slice an x0.needs.length cn] 118))).row hownA hgr10;exact fA.turn.perm (AeP ps (x0,.slice ah x0.has.length ch,.slice an x0.needs.length cn) [(.slice at1 b.things.length ct1,b.things)])
   have HNN:Hid (∀p∈ps++[((x0,.slice ah x0.has.length ch,.slice an x0.needs.length cn):Bv)],NN p.2.1):=λp hp=>by
    rcases D0.1 hp with h|h
    ·exact Hnn.out p h
    ·obtain rfl:p=(x0,.slice ah x0.has.length ch,.slice an x0.needs.length cn):=by simpa using h
     exact Hun.out
   have HM:Hid ((ps++[((x0,.slice ah x0.has.length ch,.slice an x0.needs.length cn):Bv)]).map (·.1)=b.bs.take (k+1)):=by
    show _=_
    rw[HX.out,List.map_append,Hps.out];rfl
   have hB10:Below w2.heap.size w2 (w10.setCell ⟨w2.heap.size,1,none⟩ (.slice (some ⟨gg,0,none⟩) (k+1) cc)):=(hB.trans (hb10.mono (Nat.le_succ _))).setCell (p:=⟨w2.heap.size,1,none⟩) (A3 _) _;have kX11:CB (w10.setCell ⟨w2.heap.size,1,none⟩ (.slice (some ⟨gg,0,none⟩) (k+1) cc)) w2.heap.size [.slice at1 b.things.length ct1,.slice (some ⟨gg,0,none⟩) (k+1) cc]:=kX10.set (j:=1) (by simp);have hF11:=hF10.set 1 (.slice (some ⟨gg,0,none⟩) (k+1) cc);have hBW11:=hBW10.set (j:=1) (u:=.slice (some ⟨gg,0,none⟩) (k+1) cc) (Nat.lt_succ_self w2.heap.size);clear hS1 hS8 hS9 hSA hS10 hownA hown10 hgr10 hb10 hb9 hb8 hbn8 hbn9 hoh hon kX10 hBW10 hF10 j0 j1 m0 m1 Mk hrow hW kX l3 l4 xf0 xf1 hS;go_wp2_with fail
   go_roundw
   case rel=>exact⟨k+1,_,_,by omega,by go_num,HM.out,kX11,hBW11,hB10,hF11,HNN.out⟩
   case measure=>simp[intOf];omega
  ·obtain rfl:k=b.bs.length:=by omega
   have kR:=kR2.up hB kR2.2.2;have g1:=(hB.cell (p:=⟨w.heap.size,1,none⟩) hla).trans f1;obtain⟨⟨x0c,x1c⟩,-⟩:=kX.c2;obtain⟨⟨y0c,y1c⟩,yf0,yf1⟩:=kR.c2;have hot2:=hot.up hB;have Hps2:Hid (ps.map (·.1)=b.bs):=by show _=_;rw[Hps.out,List.take_length]
   have hBB:=D5 hBw2 hB;obtain⟨ax,cx,rfl⟩:=E9 hW.1;clear hpos hpl;go_wp2_with fail
   refine Aby Tryz.results63 Tryz.underlying37 rfl I9 kR rfl ?_;refine⟨⟨_,_,ps,rfl,?_,?_,Hps2.out,((HF.out.free.setLow (by omega) _ _).setLow (by omega) _ _).low (by omega),Hnn.out⟩,G3 hBB (Nat.le_succ _) _ _⟩
   ·exact (show OwnT _ _ _ _ from F9 (E6 (E6 hot2 (D9 (rb:=w.heap.size+1) (off:=0) (E1 _ _) _) hW1z) (D9 (rb:=w.heap.size+1) (off:=1) (E1 _ _) _) hW1z) hW1l)
   ·exact ((hW.set (by omega)).set (by omega)).low (by omega)
theorem Aff (b:Bk) (v:Value) (w:World) (h:BkV w v b) (hok:BookOk b) :
  Calls Tryz.prog 63 #[v] w λe w'=>(∃v',e=.returned v'/\BkW w' w.heap.size v' b)/\Below w.heap.size w w':=by
 obtain⟨s1,s2,s3⟩:=M1 hok;refine (Acj b v w h (by omega) (by omega) (λy hy=>by have:=s3 y hy;omega)).mono ?_;rintro e w' ⟨⟨tu,bu,ps,rfl,h1,h2,h3,-⟩,hb⟩;exact⟨⟨_,rfl,tu,bu,ps,rfl,h1,h2,h3⟩,hb⟩
theorem R4 (b:Bk) (v:Value) (w:World) (h:BkV w v b) (h1:b.things.length<=100) (h2:b.bs.length<=100) (h3:∀y∈b.bs,y.has.length<=100/\y.needs.length<=100) :
  Calls Tryz.prog 63 #[v] w λe w'=>(∃v',e=.returned v'/\BkW w' w.heap.size v' b)/\Below w.heap.size w w':=by
 refine (Acj b v w h (by omega) (by omega) (λy hy=>by have:=h3 y hy;omega)).mono ?_;rintro e w' ⟨⟨tu,bu,ps,rfl,h1,h2,h3,-⟩,hb⟩;exact⟨⟨_,rfl,tu,bu,ps,rfl,h1,h2,h3⟩,hb⟩
theorem Aes:∀(ps:List Bv) (k:Nat) (p:Bv) (u:Value) (x:Ba),ps[k]?=some p->x.nm=p.1.nm->(rowsB ps).set (k*3+1) u=rowsB (ps.set k (x,u,p.2.2))
 | q::r,0,p,u,x,hp,hx=>by
  simp at hp;subst hp
  simp[rowsB,rowB,hx]
 | q::r,k+1,p,u,x,hp,hx=>by
  have ih:=Aes r k p u x (by simpa using hp) hx;have hl:(rowB q).length=3:=rfl;rw[List.set_cons_succ,rowsB,rowsB,← ih,List.set_append_right _ _ (by rw[hl];omega),hl,show (k+1)*3+1-3=k*3+1 by omega]
def takenTo (bs:List Ba) (at':Int) (things:List ByteArray) (k:Nat):Prop:=∀(i:Nat) (x:Ba),i<k->(i:Int)≠at'->bs[i]?=some x->shareB x.has things=false
def Taken (bs:List Ba) (at':Int) (things:List ByteArray):Prop:=∃(i:Nat) (x:Ba),(i:Int)≠at'/\bs[i]?=some x/\shareB x.has things=true
theorem takenTo.step {bs:List Ba} {a:Int} {things:List ByteArray} {k:Nat} (h:takenTo bs a things k) (hk:k<bs.length) (h1:(k:Int)=a∨shareB (bs[k]).has things=false):takenTo bs a things (k+1):=λi x hi hne hx=>by
 by_cases e:i=k
 ·subst e
  rw[A0 hk] at hx;obtain rfl:=A5 hx;exact h1.resolve_left hne
 ·exact h i x (by omega) hne hx
theorem Ama {bs:List Ba} {a:Int} {things:List ByteArray} {k:Nat} (h:takenTo bs a things k) (hk:¬k<bs.length):¬Taken bs a things:=λ⟨i,x,hne,hx,hs⟩=>by
 rw[h i x (by have:=(A2.1 hx).1;omega) hne hx] at hs;cases hs
theorem Ah9 (b:Bk) (v tv:Value) (at':Int) (things:List ByteArray) (w:World) (h:BkV w v b) (ht:Ls w tv things) :
  Calls Tryz.prog 111 #[v,.int .i64 at',tv] w λe w'=>e=.returned (.bool (pB (Taken b.bs at' things)))/\Below w.heap.size w w':=by
 obtain⟨a1,c1,a2,c2,rfl,h1,h2⟩:=h.parts;obtain⟨at1,ct1,rfl,-⟩:=id ht;have hC:CB (w.alloc (.cells #[.slice a1 (b).things.length c1,.slice a2 (b).bs.length c2] 37)) w.heap.size [.slice a1 b.things.length c1,.slice a2 b.bs.length c2]:=E8 w _ _;have hB0:=(A4 w.heap.size w).alloc (A3 _) (.cells #[.slice a1 (b).things.length c1,.slice a2 (b).bs.length c2] 37);have g2:=h2.at.1;unfold maxLen at g2;go_enter Tryz.func111,Tryz.ntmps111
 go_upto_region 1 with fail
 generalize w.alloc (.cells #[.slice a1 (b).things.length c1,.slice a2 (b).bs.length c2] 37)=W1 at *;have l2:=h2.up hB0;have lt:=ht.up hB0;clear h h1 h2 ht;obtain⟨e0,e1⟩:=hC.c2';obtain⟨-,hpos⟩:=l2.at;go_wp2_with fail
 go_loop [7] (λi=>∃k:Nat,k<=b.bs.length/\i=.int .i64 k/\takenTo b.bs at' things k) (λi=>b.bs.length-(intOf i).toNat)
 case atStart=>exact⟨0,by omega,rfl,λi _ hi=>by omega⟩
 case round =>
  obtain⟨k,hk,rfl,hal⟩:=hrel;have Hal:Hid (takenTo b.bs at' things k):=hal;clear hal;by_cases hp:k<b.bs.length
  ·obtain⟨bb,o,rfl,hS,hb⟩:=hpos (by omega)
   by_cases hka:(k:Int)=at'
   ·have hkb:((k:Int) != at')=false:=by rw[bne_eq_false_iff_eq];exact hka
    have Hs:Hid (takenTo b.bs at' things (k+1)):=Hal.out.step hp (.inl hka);clear hka;go_wp2_with fail
    go_round
    case rel=>exact⟨k+1,by omega,by go_num,Hs.out⟩
    case measure=>simp[intOf];omega
   have hkb:((k:Int) != at')=true:=by rw[bne_iff_ne];exact hka
   obtain⟨a3,d3,a4,d4,-,c4,-,l3,-,-⟩:=(hS.at hp).cells;have HY:Hid (shareB (b.bs[k]).has things=false->takenTo b.bs at' things (k+1)):=λh=>Hal.out.step hp (.inr h);have HN:Hid (shareB (b.bs[k]).has things=true->Taken b.bs at' things):=λh=>⟨k,_,hka,A0 hp,h⟩;clear hka;generalize b.bs[k]=x0 at *;go_wp2_with fail
   refine (Aat x0.has things _ _ _ l3 lt).mono ?_;rintro e w' ⟨rfl,hw⟩;obtain rfl:=hw.symm;clear hw;cases hs:shareB x0.has things
   ·have Hs:Hid (takenTo b.bs at' things (k+1)):=HY.out hs
    clear HY HN;go_wp2_with fail
    go_round
    case rel=>exact⟨k+1,by omega,by go_num,Hs.out⟩
    case measure=>simp[intOf];omega
   ·have Hs:Hid (Taken b.bs at' things):=HN.out hs
    clear HY HN;go_wp2_with fail
    go_ret
    exact⟨D6 (G9 Hs.out).symm,hB0⟩
  ·have Hs:Hid (¬Taken b.bs at' things):=Ama Hal.out hp
   go_wp2_with fail
   go_ret
   exact⟨D6 (F1 Hs.out).symm,hB0⟩
theorem Abl {P:Program} {w:World} (base:Nat) (t ty e:TypeId) (i:TypeInfo) (z:Value) (size bytes:Nat) (ht:P.underlying t=some (.slice e)) (hi:P.info? e=some i) (hz:i.zero=some z)
  (hsize:i.size=size) (hby:i.bytes=bytes) (hzs:z.cells.size=size) (hsz:0<size) (v:Value) (n:Nat) (xs:List Value) (hown:w.ownsRow base e size v n xs)
  (ad:Option Addr) (m c:Nat) (news:List Value) (hl:news.length=m*size) (hnews:0<m->∃d,ad=some d/\∀j u,news[j]?=some u->w.cell? (d.add j)=some u) (h1:∀u∈news,u.oneCell'=true)
  (h63:n+m<=maxLen) (hbytes:(n+m)*bytes<=140737488355328) (hbase:base<=w.heap.size) :
  ∃v' w',(Builtin.append_ #[t,t] ty #[v,.slice ad m c]).run P w=.ok v' w'/\w'.ownsRow base e size v' (n+m) (xs++news)/\w.grownBy w' v.ownBlock/\(NN v->NN v'):=by
 rcases C3 m with rfl|hm
 ·obtain rfl:news=[]:=C4.1 (by simpa using hl)
  exact⟨v,w,O6 base t ty e i size ht hi v n xs hown ad c,by simpa using hown,E1 _ _,λh=>h⟩
 ·obtain⟨d,rfl,hn⟩:=hnews hm
  obtain⟨v',w',hr,h2,h3,_⟩:=run_append_own (P:=P) w base t ty e i z size bytes ht hi hz hsize hby hzs hsz v n xs hown d m c news hl hn h1 h63 hbytes hbase;exact⟨v',w',hr,h2,h3,λ_=>by obtain⟨g,cap,e⟩:=F2 h2 (by omega);exact⟨g,_,_,e⟩⟩
theorem M9 {P:Program} (w:World) {ops:Array Oper} {rest:List Oper} {o:Oper} {a:Act} {Q:Exit->Act->World->Prop} (hgd:o.guard=none) (s x:Operand) (t:TypeId)
  (hop:o.op=Op.call {callee:=Callee.builtin Builtin.append,args:=#[s,x],argTypes:=#[t,t]})
  (base:Nat) (e:TypeId) (i:TypeInfo) (z:Value) (size bytes:Nat) (ht:P.underlying t=some (.slice e)) (hi:P.info? e=some i) (hz:i.zero=some z)
  (hsize:i.size=size) (hby:i.bytes=bytes) (hzs:z.cells.size=size) (hsz:0<size) (v:Value) (n:Nat) (xs:List Value) (hs:a.eval s=v) (hown:w.ownsRow base e size v n xs)
  (ad:Option Addr) (m c:Nat) (news:List Value) (hx:a.eval x=.slice ad m c) (hl:news.length=m*size) (hnews:0<m->∃d,ad=some d/\∀j u,news[j]?=some u->w.cell? (d.add j)=some u) (h1:∀u∈news,u.oneCell'=true)
  (h63:n+m<=maxLen) (hbytes:(n+m)*bytes<=140737488355328) (hbase:base<=w.heap.size)
  (h:∀v' w',w'.ownsRow base e size v' (n+m) (xs++news)->w.grownBy w' v.ownBlock->(NN v->NN v')->wpList P ops Q rest (a.put o.dst v') w'):wpList P ops Q (o::rest) a w:=by
 refine wpList_plain hgd λK hK=>?_;obtain⟨v',w',hr,h2,h3,h4⟩:=Abl (P:=P) (w:=w) base t o.type e i z size bytes ht hi hz hsize hby hzs hsz v n xs hown ad m c news hl hnews h1 h63 hbytes hbase;unfold Oper.wp execOp;simp only[hop,resolve,invoke,builtin,Sem.run_bind,Sem.run_pure,Result.andThen_ok,List.map_toArray,List.map_cons,List.map_nil,hs,hx,hr];exact hK _ _ (h v' w' h2 h3 h4)
theorem K0 {P:Program} {ops:Array Oper} {o:Oper} {a:Act} {w:World} {K:Act->World->Prop} {Q:Exit->Act->World->Prop} {E:Prop}
  (hg:o.guard=none) (s x:Operand) (t:TypeId) (hop:o.op=Op.call {callee:=Callee.builtin Builtin.append,args:=#[s,x],argTypes:=#[t,t]})
  (base:Nat) (e:TypeId) (i:TypeInfo) (z:Value) (size bytes:Nat) (ht:P.underlying t=some (.slice e)) (hi:P.info? e=some i) (hz:i.zero=some z)
  (hsize:i.size=size) (hby:i.bytes=bytes) (hzs:z.cells.size=size) (hsz:0<size) (v:Value) (n:Nat) (xs:List Value) (hs:a.eval s=v) (hown:w.ownsRow base e size v n xs)
  (ad:Option Addr) (m c:Nat) (news:List Value) (hx:a.eval x=.slice ad m c) (hl:news.length=m*size) (hnews:0<m->∃d,ad=some d/\∀j u,news[j]?=some u->w.cell? (d.add j)=some u) (h1:∀u∈news,u.oneCell'=true)
  (h63:n+m<=maxLen) (hbytes:(n+m)*bytes<=140737488355328) (hbase:base<=w.heap.size)
  (hK:∀v' w',w'.ownsRow base e size v' (n+m) (xs++news)->w.grownBy w' v.ownBlock->(NN v->NN v')->K (a.put o.dst v') w') :
  if Region.wanted o (yielded ops a.tmps)=true then Oper.wp P o a w K Q else E:=by
 have hw:Region.wanted o (yielded ops a.tmps)=true:=by simp[Region.wanted,hg]
 rw[if_pos hw];obtain⟨v',w',hr,h2,h3,h4⟩:=Abl (P:=P) (w:=w) base t o.type e i z size bytes ht hi hz hsize hby hzs hsz v n xs hown ad m c news hl hnews h1 h63 hbytes hbase;unfold Oper.wp;simp[execOp,hop,resolve,invoke,builtin,hs,hx,hr,Result.andThen];exact hK v' w' h2 h3 h4
end Go.Proofs.YtgecdacgmehmbaaGreatDoor
namespace Go.Proofs.YtgecdacgmehmbaaGreatDoor
open Go.RowKit Go.Shelf
theorem AkM (n:Nat) (w:World) (h1:1<=n) (h2:n<=1000) :
  Calls Tryz.prog 201 #[.slice none 0 0,.int .i64 (n:Int)] w
   λe w'=>(∃u,e=.returned u/\OwnT w' w.heap.size u [])/\Below w.heap.size w w':=by
 obtain⟨ii,hi,iz0,iz1,iz2⟩:=info_parts L9;have h:=Any8.slices_Grow_grow Tryz.growS ii (.string ⟨#[]⟩) hi iz0 (by omega) none 0 0 n [] w (A3 _) (by omega) (by rw[iz2];omega) (by omega) (by simp) (λ_=>rfl) (λa ha=>by cases ha);refine Calls.mono h ?_;rintro e w' ⟨rfl,rfl⟩;have hge:=grownCap_ge w (0+n) 0 9;have hle:=grownCap_le_maxLen w (0+n) 0 9 (by unfold maxLen;omega);refine⟨⟨_,rfl,rfl,.inr ⟨_,_,_,rfl,A3 _,heap_alloc_new _ _,Nat.zero_le _,hle,?_,by simp⟩⟩,(A4 _ _).drew.alloc (by simp) _⟩;have hz:(Value.string ⟨#[]⟩).cells.size=1:=rfl;rw[Array.size_append,Array.size_append,size_zeroCells,size_zeroCells,hz];simp only[List.size_toArray,List.length_nil];show 0+(0+n-0)*1+(grownCap w (0+n) 0 9-(0+n))*1=grownCap w (0+n) 0 9*1
 omega
theorem AkN (w:World):Calls Tryz.prog 201 #[.slice none 0 0,.int .i64 0] w λe w'=>(∃u,e=.returned u/\OwnT w' w.heap.size u [])/\Below w.heap.size w w':=by
 go_enter Tryz.func201,Tryz.ntmps201
 go_wp2
 go_ret
 exact⟨⟨_,rfl,B7 _ _ _ _⟩,A4 _ _⟩
theorem AkO (n:Nat) (w:World) (h2:n<=1000):Calls Tryz.prog 201 #[.slice none 0 0,.int .i64 (n:Int)] w λe w'=>(∃u,e=.returned u/\OwnT w' w.heap.size u [])/\Below w.heap.size w w':=by
 rcases C3 n with h|h
 ·subst h;exact AkN w
 ·exact AkM n w h h2
theorem app_ls {w:World} {base:Nat} {u v:Value} {xs ss:List ByteArray} (ho:OwnT w base u xs) (h:Ls w v ss) (hn:xs.length+ss.length<=1000) (hb:base<=w.heap.size) :
  ∃u' w',(Builtin.append_ #[22,22] 22 #[u,v]).run Tryz.prog w=.ok u' w'/\OwnT w' base u' (xs++ss)/\w.grownBy w' u.ownBlock:=by
 obtain⟨ii,hi,iz0,iz1,iz2⟩:=info_parts L9;obtain⟨a,c,rfl,-,-,hpos⟩:=h;rcases C3 ss.length with h0|h0
 ·obtain rfl:=C4.1 h0
  exact⟨u,w,O6 base 22 22 9 ii 1 Tryz.underlying22 hi _ _ _ ho a c,by simpa using ho,E1 _ _⟩
 ·obtain⟨g,o,rfl,hS,hg⟩:=hpos h0
  obtain⟨v1,w1,hr,hown1,hgr1,-⟩:=run_append_own (P:=Tryz.prog) w base 22 22 9 ii _ 1 16 Tryz.underlying22 hi iz0 iz1 iz2 rfl (by decide) u xs.length (xs.map Value.string) ho ⟨g,o,none⟩ ss.length c (ss.map Value.string) (by simp) (J5 hS) (Z2 ss) (by unfold maxLen;omega) (by omega) hb;refine⟨v1,w1,hr,?_,hgr1⟩;unfold OwnT;rw[A9,List.map_append];exact hown1
def catL (L:List (Value×List ByteArray)) (k:Nat):List ByteArray:=((L.take k).map (·.2)).flatten
theorem Abm (L:List (Value×List ByteArray)) (k:Nat) (hk:k<L.length):catL L (k+1)=catL L k++(L[k]).2:=by
 rw[catL,catL,A7 hk,List.map_append,List.flatten_append];simp
theorem Ait (L:List (Value×List ByteArray)):∀(d k:Nat),k+d<=L.length->(catL L k).length<=(catL L (k+d)).length
 | 0,_,_=>A3 _
 | d+1,k,h=>by
  have h1:=Ait L d k (by omega);have h2:=Abm L (k+d) (by omega);rw[← Nat.add_assoc,h2,A9];omega
def CellsL (w:World) (sb:Nat) (L:List (Value×List ByteArray)):Prop:=∀(i:Nat) (f:Value×List ByteArray),L[i]?=some f->w.cell? ⟨sb,i,none⟩=some f.1/\Ls w f.1 f.2
theorem CellsL.up {w w':World} {sb:Nat} {L:List (Value×List ByteArray)} (h:CellsL w sb L) (hb:Below w.heap.size w w') (hs:sb<w.heap.size):CellsL w' sb L:=λi f hf=>⟨(hb.cell (p:=⟨sb,i,none⟩) hs).trans (h i f hf).1,(h i f hf).2.up hb⟩
theorem AhA (L:List (Value×List ByteArray)) (sb:Nat) (w:World) (h:CellsL w sb L) (hsb:sb<w.heap.size) (hL:L.length<=10) (hn:(catL L L.length).length<=900) :
  Calls Tryz.prog 176 #[.slice (some ⟨sb,0,none⟩) L.length L.length] w
   λe w'=>(∃u,e=.returned u/\OwnT w' w.heap.size u (catL L L.length))/\Below w.heap.size w w':=by
 have Hle:Hid (∀k,k<=L.length->(catL L k).length<=900):=λk hk=>by
  have:=Ait L (L.length-k) k (by omega);rw[show k+(L.length-k)=L.length by omega] at this;omega
 go_enter Tryz.func176,Tryz.ntmps176
 go_wp2_with fail
 go_loop [3,11] (λz i=>∃k:Nat,k<=L.length/\i=.int .i64 (k:Int)/\z=.int .i64 ((catL L k).length:Int)) (λ_ i=>L.length-(intOf i).toNat)
 case atStart=>exact⟨0,by omega,rfl,by simp[catL]⟩
 case round =>
  obtain⟨k,hk,rfl,rfl⟩:=hrel;have hb1:=Hle.out k hk;by_cases hp:k<L.length
  ·obtain⟨c0,l0⟩:=h k _ (A0 hp)
   have hb2:=Hle.out (k+1) hp;have HS:Hid ((catL L (k+1)).length=(catL L k).length+(L[k]).2.length):=by show _=_;rw[Abm L k hp,A9]
   rw[HS.out] at hb2;generalize L[k]=f0 at *;obtain⟨fv,fs⟩:=f0;simp only at c0 l0 hb2 HS;obtain⟨fa,fc,hfv,-⟩:=id l0;subst hfv;clear l0;generalize hcl:(catL L k).length=n0 at *;go_wp2_with fail
   go_round
   case rel=>exact⟨k+1,by omega,by go_num,by rw[HS.out];go_num⟩
   case measure=>simp[intOf];omega
  ·obtain rfl:k=L.length:=by omega
   go_wp2_with fail
   refine (AkO (catL L L.length).length w (by omega)).mono ?_;rintro e w1 ⟨⟨u,rfl,ho⟩,hB1⟩;have HC:Hid (CellsL w sb L):=h;clear h hn hb1;obtain⟨ua,uc,hu⟩:=E9 ho;subst hu;go_wp2_with fail
   go_loopw [6,27] (λu i w'=>∃(k:Nat),k<=L.length/\i=.int .i64 (k:Int)/\OwnT w' w.heap.size u (catL L k)/\Below w.heap.size w w') (λ_ i _=>L.length-(intOf i).toNat)
   case atStart=>exact⟨0,by omega,rfl,by simpa [catL] using ho,hB1⟩
   case round =>
    clear ho hB1;obtain⟨k,hk,rfl,ho,hB⟩:=hrel;by_cases hp:k<L.length
    ·obtain⟨c0,l0⟩:=(HC.out.up hB hsb) k _ (A0 hp)
     have hb2:=Hle.out (k+1) hp;rw[Abm L k hp,A9] at hb2;obtain⟨u',w',hr,ho',hg'⟩:=app_ls ho l0 (by omega) hB.size;have hB':=G4 hB ho hg' (A3 _);rw[← Abm L k hp] at ho';generalize L[k]=f0 at *;obtain⟨fv,fs⟩:=f0;simp only at c0 l0 hr;obtain⟨fa,fc,hfv,-⟩:=id l0;subst hfv;clear hb2 ho hg' l0;go_wp2_with (at_builtin;refine N6 _ rfl _ _ _ _ rfl _ _ _ _ rfl rfl hr ?_)
     go_roundw
     case rel=>exact⟨k+1,by omega,by go_num,ho',hB'⟩
     case measure=>simp[intOf];omega
    ·obtain rfl:k=L.length:=by omega
     go_wp2_with fail
     go_ret
     exact⟨⟨_,rfl,ho⟩,hB⟩
end Go.Proofs.YtgecdacgmehmbaaGreatDoor
