/- The program's table, built (chapter 12). -/
import Derived.Test.YtmfjakieahkacaaGreatDoorJ11
namespace Go.Proofs.YtmfjakieahkacaaGreatDoor
open Go.RowKit
theorem Zs:(Tryz.prog.info? 95).map (λi=>(i.zero,i.size,i.bytes))=some (some (.agg #[.string ⟨#[]⟩,.int .u64 0,.int .u64 0,.bool false]),4,40):=by kernel_rfl
def V6(bs:List Ba)(k:Nat):List Tr:=(bs.take k).map λx=>(x,false)
theorem Jv(bs:List Ba)(k:Nat):(V6 bs k).map (·.1)=bs.take k:=by rw[V6,List.map_map];exact List.map_id _
theorem Hd{bs:List Ba}{k:Nat}(h:k<=bs.length):(V6 bs k).length=k:=by simp[V6];omega
theorem Pl{bs:List Ba}{k:Nat}(h:k<bs.length):V6 bs (k+1)=V6 bs k++[(bs[k],false)]:=by
 rw[V6,A7 h,List.map_append];rfl
theorem Zt{bs:List Ba}{k:Nat}(h:¬k<bs.length):V6 bs k=V6 bs bs.length:=by
 rw[V6,V6,C8 (by omega),List.take_length]
theorem UR(tg:List ByteArray)(bs:List Ba):F0 tg (D2 tg)=F0 tg (P6 (V6 bs 0)):=Ds λt ht=>by
 rw[(R8 _ _).2 ht];rfl
theorem Ac3(w:World)(x y z u:Value)(ty:TypeId){j:Nat}{v:Value}(h:[x,y,z,u][j]?=some v):(w.alloc (.cells #[x,y,z,u] ty)).cell? ((⟨w.heap.size,0,none⟩:Addr).add j)=some v:=by
 have:=(T6 w [x,y,z,u] ty).1 j v h;rw[Addr.add_mid];exact this
set_option maxRecDepth 20000 in
set_option maxHeartbeats 4000000 in
theorem Gv(b:Bk)(v:Value)(w:World)(h:K0 w v b)(hok:J0 b):
  Calls Tryz.prog 30 #[v] w λe w'=>(∃tb,e=.returned (.pointer (some ⟨tb,0,none⟩))/\AK w' tb b.tg (V6 b.bs b.bs.length)/\w.heap.size<=tb)/\Below w.heap.size w w':=by
 obtain⟨a1,c1,a2,c2,rfl,h1,h2⟩:=h.parts;have h8:=hok.1.1;have h5:=hok.2.1;have Ha:Hid (CO b.bs):=hok.2.2.2.2.2;obtain⟨W1,hW1,kA,hB1,hs1⟩:=cbE1 w [.slice a1 (b).tg.length c1,.slice a2 (b).bs.length c2] 26;have hz1:=hB1.size;clear hs1;obtain⟨ii,hi,iz0,iz1,iz2⟩:=info_parts Zs;have Hf0:Hid (F0 b.tg (D2 b.tg)=F0 b.tg (P6 (V6 b.bs 0))):=UR _ _;clear hok;go_enter Tryz.func30,Tryz.ntmps30;go_upto_region 1 with fail;try rw[hW1]
 clear hW1;have l1:=h1.up hB1;have l2:=h2.up hB1;obtain⟨e0,e1⟩:=kA.c2';have hlt:=kA.2.2;obtain⟨-,hpos⟩:=l2.at;clear h h1 h2;go_wp2_with fail;refine (GZ b.tg b.tg _ _ _ l1 l1 h8).mono ?_;rintro e w' ⟨rfl,hw⟩;obtain rfl:=hw.symm;clear hw;rw[Hf0.out];obtain⟨W2,hW2,kT,hb2,hs2⟩:=cbE1 W1 [.slice none 0 0,.int .u64 (F0 b.tg (P6 (V6 b.bs 0)):Nat)] 93;go_upto_region 2 with fail;try rw[hW2]
 clear hW2;have hT0:AK W2 W1.heap.size b.tg (V6 b.bs 0):=⟨_,kT,by simp[Ai,V6],.inl ⟨rfl,rfl⟩⟩;have g1:=(hb2.cell (p:=⟨w.heap.size,1,none⟩) hlt).trans e1;clear kT;go_wp2_with fail;clear g1;go_loopw [5,6,17] (λ_ _ i w'=>∃k:Nat,k<=b.bs.length/\i=.int .i64 k/\AK w' W1.heap.size b.tg (V6 b.bs k)/\Below W1.heap.size W1 w') (λ_ _ i _=>b.bs.length-(intOf i).toNat)
 case atStart=>exact⟨0,by omega,rfl,hT0,hb2⟩
 case round =>
  clear hT0 hb2 hs2;obtain⟨k,hk,rfl,hT,hB⟩:=hrel;by_cases hp:k<b.bs.length
  ·obtain⟨bb,o,rfl,hS,hb⟩:=hpos (by omega);obtain⟨a3,d3,a4,d4,c3,c4,c5,l3,l4,-⟩:=(hS.at hp).cells;have c3:=(hB.cell (p:=⟨bb,o+k*3,none⟩) hb).trans c3;have c4:=(hB.cell (p:=⟨bb,o+k*3+1,none⟩) hb).trans c4;have c5:=(hB.cell (p:=⟨bb,o+k*3+2,none⟩) hb).trans c5
   have HF:Hid (F0 b.tg (P6 (V6 b.bs k))=F0 b.tg (D2 (b.bs[k]).has)+F0 b.tg (P6 (V6 b.bs (k+1)))):=by
    show _=_
    rw[Pl hp];exact Uo Ha.out hp (Jv _ _) _
   have HR:Hid (Ai b.tg (V6 b.bs (k+1))=Ai b.tg (V6 b.bs k)++EP b.tg (b.bs[k],false)):=by
    show _=_
    rw[Pl hp,KD]
   have hlk:(V6 b.bs k).length=k:=Hd (by omega);have hlk1:(V6 b.bs (k+1)).length=k+1:=Hd (by omega);generalize b.bs[k]=x0 at *;obtain⟨W3,hW3,kX,hb3,hs3⟩:=cbE1 wr [.string (x0).nm,.slice a3 (x0).has.length d3,.slice a4 (x0).nd.length d4] 49;go_upto_region 5 with fail;try rw[hW3]
   have hB3:=D1 hB hb3;have hT3:=hT.up hb3;have htl:=hT.lt;obtain⟨⟨x0c,x1c,x2c⟩,-⟩:=kX.c3;have f0:=(hB3.cell (p:=⟨w.heap.size,0,none⟩) hlt).trans e0;clear hW3 c3 c4 c5 hb3 hT hB hS;generalize wr.heap.size=xb at *;clear hs3;have hxl:=kX.2.2;have mk:∀w',Below W3.heap.size W3 w'->Below W1.heap.size W1 w'/\w'.cell? ⟨w.heap.size,0,none⟩=some (.slice a1 b.tg.length c1)/\w'.cell? ⟨xb,0,none⟩=some (.string x0.nm)/\w'.cell? ⟨xb,1,none⟩=some (.slice a3 x0.has.length d3)/\w'.cell? ⟨xb,2,none⟩=some (.slice a4 x0.nd.length d4):=λw' hb=>⟨D1 hB3 hb,(hb.cell (p:=⟨w.heap.size,0,none⟩) (A1 hlt hB3.size)).trans f0,(hb.cell (p:=⟨xb,0,none⟩) hxl).trans x0c,(hb.cell (p:=⟨xb,1,none⟩) hxl).trans x1c,(hb.cell (p:=⟨xb,2,none⟩) hxl).trans x2c⟩;go_wp2_with fail
   go_region_held (λw'=>Below W1.heap.size W1 w'/\w'.cell? ⟨w.heap.size,0,none⟩=some (.slice a1 b.tg.length c1)/\w'.cell? ⟨xb,0,none⟩=some (.string x0.nm)/\w'.cell? ⟨xb,1,none⟩=some (.slice a3 x0.has.length d3)/\w'.cell? ⟨xb,2,none⟩=some (.slice a4 x0.nd.length d4)) (first|exact mk _ (A4 _ _).drew|exact mk _ (((A4 _ _).alloc (A3 _) _).drew)|exact mk _ (by go_grown))
    (first
     | (go_at_call_of 49 (Value.slice a3 x0.has.length d3);refine (GZ b.tg x0.has _ _ _ (l1.up (And.left (by assumption))) (l3.up (And.left (by assumption))) h8).mono ?_;rintro e w' ⟨rfl,hw⟩;obtain rfl:=hw.symm;clear hw)
     | (go_at_call_of 49 (Value.slice a4 x0.nd.length d4);refine (GZ b.tg x0.nd _ _ _ (l1.up (And.left (by assumption))) (l4.up (And.left (by assumption))) h8).mono ?_;rintro e w' ⟨rfl,hw⟩;obtain rfl:=hw.symm;clear hw))
   all_goals
    have hb4:=((A4 W3.heap.size W3).alloc (A3 _) (.cells #[.string x0.nm,.int .u64 (F0 b.tg (D2 x0.has):Nat),.int .u64 (F0 b.tg (D2 x0.nd):Nat),.bool false] 95)).drew;have kR:CB (W3.alloc (.cells #[.string x0.nm,.int .u64 (F0 b.tg (D2 x0.has):Nat),.int .u64 (F0 b.tg (D2 x0.nd):Nat),.bool false] 95)).drew W3.heap.size [.string x0.nm,.int .u64 (F0 b.tg (D2 x0.has):Nat),.int .u64 (F0 b.tg (D2 x0.nd):Nat),.bool false]:=T6 W3 _ _;generalize (W3.alloc (.cells #[.string x0.nm,.int .u64 (F0 b.tg (D2 x0.has):Nat),.int .u64 (F0 b.tg (D2 x0.nd):Nat),.bool false] 95)).drew=W4 at *;have hB4:=D1 hB3 hb4;obtain⟨rv,kT,hown⟩:=hT3.up hb4;rw[hlk] at hown;have hz3:=hB3.size;have n1:=S2 h8 (D2 x0.has);have n2:=S2 h8 (D2 x0.nd);have n3:=S2 h8 (P6 (V6 b.bs k));have hF:=HF.out;have HE:Hid (∀W v1,CB W W1.heap.size [v1,.int .u64 (F0 b.tg (P6 (V6 b.bs (k+1))):Nat)]->W.ownsRow (W1.heap.size+1) 95 4 v1 (k+1) (Ai b.tg (V6 b.bs k)++[.string x0.nm,.int .u64 (F0 b.tg (D2 x0.has):Nat),.int .u64 (F0 b.tg (D2 x0.nd):Nat),.bool false])->AK W W1.heap.size b.tg (V6 b.bs (k+1))):=λW v1 q1 q2=>⟨v1,q1,by rw[hlk1,HR.out];exact q2⟩;clear hT3 mk f0 x0c x1c x2c kX HR HF hB3 hb4 hlk hlk1;generalize F0 b.tg (D2 x0.has)=hbn at *;generalize F0 b.tg (D2 x0.nd)=nbn at *;generalize F0 b.tg (P6 (V6 b.bs k))=fb at *;generalize F0 b.tg (P6 (V6 b.bs (k+1)))=fb2 at *;generalize Ai b.tg (V6 b.bs k)=rws at *;have hsub:IntKind.u64.wrap ((fb:Int)-(hbn:Int))=(fb2:Int):=by rw[DX (by omega) (by omega)];omega
    have hsub2:(fb:Int)-(hbn:Int)=(fb2:Int):=by omega
    clear hF;obtain⟨⟨t0,t1⟩,u0,u1⟩:=kT.c2;have r0:=kR.1 0 _ rfl;have r1:=kR.1 1 _ rfl;have r2:=kR.1 2 _ rfl;have r3:=kR.1 3 _ rfl;simp only[Nat.zero_add] at r0 r1 r2 r3;have hrl:=kR.2.2;generalize W3.heap.size=rb at *;have hne1:rb≠W1.heap.size:=by omega
    go_wp2_with fail;go_region
    have kT5:CB (W4.setCell ⟨W1.heap.size,1,none⟩ (.int .u64 (fb2:Nat))).drew W1.heap.size [rv,.int .u64 (fb2:Nat)]:=kT.set (j:=1) (by simp);have hown5:(W4.setCell ⟨W1.heap.size,1,none⟩ (.int .u64 (fb2:Nat))).drew.ownsRow (W1.heap.size+1) 95 4 rv k rws:=G9 hown (DS (E3 (F7 _ _) _)) (by omega);have kR5:CB (W4.setCell ⟨W1.heap.size,1,none⟩ (.int .u64 (fb2:Nat))).drew rb [.string x0.nm,.int .u64 (hbn:Nat),.int .u64 (nbn:Nat),.bool false]:=kR.other (by omega);have hB5:Below W1.heap.size W1 (W4.setCell ⟨W1.heap.size,1,none⟩ (.int .u64 (fb2:Nat))).drew:=(hB4.setCell (p:=⟨W1.heap.size,1,none⟩) (A3 _) _).drew;clear t0 t1 u0 u1 r0 r1 r2 r3 kT kR hown hB4 hsub hsub2;generalize (W4.setCell ⟨W1.heap.size,1,none⟩ (.int .u64 (fb2:Nat))).drew=W5 at *;obtain⟨⟨t0,t1⟩,u0,u1⟩:=kT5.c2;have r0:=kR5.1 0 _ rfl;have r1:=kR5.1 1 _ rfl;have r2:=kR5.1 2 _ rfl;have r3:=kR5.1 3 _ rfl;simp only[Nat.zero_add] at r0 r1 r2 r3;have htl5:=kT5.2.2;have hownA:=P8 (W:=W5.drew) hown5 ((A4 W5.heap.size W5.drew).alloc (A3 _) (.cells #[.string x0.nm,.int .u64 (hbn:Nat),.int .u64 (nbn:Nat),.bool false] 95));have hBA:=(hB5.drew).alloc hB5.drew.size (.cells #[.string x0.nm,.int .u64 (hbn:Nat),.int .u64 (nbn:Nat),.bool false] 95);have kTA:CB (W5.drew.alloc (.cells #[.string x0.nm,.int .u64 (hbn:Nat),.int .u64 (nbn:Nat),.bool false] 95)) W1.heap.size [rv,.int .u64 (fb2:Nat)]:=CB.up (w:=W5.drew) kT5 ((A4 W5.heap.size W5.drew).alloc (A3 _) _) htl5;go_wp2_with fail;go_region_law (refine O0 rfl _ _ 91 rfl (W1.heap.size+1) 95 ii _ 4 40 Tryz.underlying91 hi iz0 iz1 iz2 rfl (by decide) _ _ _ rfl hownA ⟨W5.heap.size,0,none⟩ 1 1 [.string x0.nm,.int .u64 (hbn:Nat),.int .u64 (nbn:Nat),.bool false] rfl rfl (λj u hj=>Ac3 W5.drew _ _ _ _ _ hj) (by simp[Value.oneCell']) (by unfold maxLen;omega) (by omega) (by simp;omega) ?_;intro v1 w1 hown1 hgr1;obtain⟨gg,cc,rfl⟩:=T7 hown1 (by omega);have kT6:=kTA.kept hgr1 (R3 hownA (by omega));obtain⟨⟨z0,z1⟩,y0,y1⟩:=kT6.c2)
    all_goals
     have hB6:=N5 hBA hownA hgr1 (by omega);have kT7:CB (w1.setCell ⟨W1.heap.size,0,none⟩ (.slice (some ⟨gg,0,none⟩) (k+1) cc)) W1.heap.size [.slice (some ⟨gg,0,none⟩) (k+1) cc,.int .u64 (fb2:Nat)]:=kT6.set (j:=0) (by simp);have hown7:=G9 hown1 (E3 (off:=0) (F7 w1 (some W1.heap.size)) (.slice (some ⟨gg,0,none⟩) (k+1) cc)) (by omega);have hB7:=hB6.setCell (p:=⟨W1.heap.size,0,none⟩) (A3 _) (.slice (some ⟨gg,0,none⟩) (k+1) cc);have HT7:Hid (AK (w1.setCell ⟨W1.heap.size,0,none⟩ (.slice (some ⟨gg,0,none⟩) (k+1) cc)) W1.heap.size b.tg (V6 b.bs (k+1))):=HE.out _ _ kT7 hown7;clear kT7 hown7 hown1 hgr1 kT6 z0 z1 y0 y1 hownA hBA kTA r0 r1 r2 r3 t0 t1 u0 u1 hB6 kT5 hown5 kR5 HE;go_wp2_with fail;go_roundw
     case rel=>exact⟨k+1,by omega,by go_num,HT7.out,hB7⟩
     case measure=>simp[intOf];omega
  ·have Hs:Hid (V6 b.bs k=V6 b.bs b.bs.length):=Zt hp;go_wp2_with fail;go_ret;exact⟨⟨_,rfl,by rw[← Hs.out];exact hT,by omega⟩,D1 hB1 hB⟩
end Go.Proofs.YtmfjakieahkacaaGreatDoor
