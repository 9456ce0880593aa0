/- The program's chapter 13: a copy of a book. -/
import Derived.Test.YtebfdccbmmpceaaGreatDoorJ4
namespace Go.Proofs.YtebfdccbmmpceaaGreatDoor
open Go.RowKit
set_option maxRecDepth 20000 in
set_option maxHeartbeats 4000000 in
theorem Z1 (b:Bk) (v:Value) (w:World) (h:BkV w v b) (hn:b.things.length<=100) (hn5:b.bs.length<=100) (hsm:∀y∈b.bs,y.has.length<=100/\y.needs.length<=100) :
  Calls Tryz.prog 134 #[v] w λe w'=>(∃a1 c1 a2 c2 ps,e=.returned (.agg #[.slice a1 b.things.length c1,.slice a2 b.bs.length c2])/\BsW w' w.heap.size (.slice a2 b.bs.length c2) ps/\ps.map (·.1)=b.bs/\Fam w' w.heap.size none ((.slice a1 b.things.length c1,b.things)::famB ps))/\Below w.heap.size w w':=by
 obtain⟨a1,c1,a2,c2,rfl,h1,h2⟩:=h.parts;obtain⟨ii,hi,iz0,iz1,iz2⟩:=info_parts Aat;obtain⟨W1,hW1,kA,kR,hB1,hs1⟩:=L1 w [.slice a1 (b).things.length c1,.slice a2 (b).bs.length c2] 33 [.slice none 0 0,.slice none 0 0] 33;go_enter Tryz.func134,Tryz.ntmps134
 go_upto_region 1 with fail
 try rw[hW1]
 clear hW1;have l1:=h1.up hB1;have l2:=h2.up hB1;obtain⟨e0,e1⟩:=kA.c2';clear h h1 h2;go_wp2_with fail
 refine (AaJ b.things _ _ l1 (by omega)).mono ?_;rintro e w2 ⟨⟨tu,rfl,hot⟩,hb2⟩;obtain⟨at1,ct1,rfl⟩:=hot.lst.shape;have hz2:=hb2.size;have kA2:=kA.up hb2 (by omega);have kR2:=kR.up hb2 (by omega);have l2':=l2.up hb2;have hBw2:=D6 hB1 hb2;have hW1z:w.heap.size+1<W1.heap.size:=by omega
 have hW1l:w.heap.size<=W1.heap.size:=by omega
 have hF2:Fam w2 W1.heap.size (some w2.heap.size) [((.slice at1 b.things.length ct1),b.things)]:=((AeR w2 W1.heap.size none).mk1 hot).avoid (A3 _);clear e0 e1 l1 l2 kA kR hs1 hB1 hb2 hot;go_upto_region 2 with fail
 obtain⟨W3,hW3,kX,hb3,hs3⟩:=K9 w2 [(.slice at1 b.things.length ct1),.slice none 0 0] 33;try rw[hW3]
 clear hW3 hs3;have hF3:=hF2.up hb3;clear hF2;obtain⟨f0,f1⟩:=kA2.c2';have hla:=kA2.2.2;have f1:=(hb3.cell (p:=⟨w.heap.size,1,none⟩) hla).trans f1;obtain⟨-,hpos⟩:=l2'.at;go_wp2_with fail
 go_loopw [5,13] (λ_ i w'=>∃(k:Nat) (ps:List Bv) (xv:Value),k<=b.bs.length/\i=.int .i64 k/\ps.map (·.1)=b.bs.take k/\CB w' w2.heap.size [(.slice at1 b.things.length ct1),xv]/\w'.ownsRow (w2.heap.size+1) 128 3 xv ps.length (rowsB ps)/\(∀p∈ps,p.1.nm.size<=maxLen)/\Below w2.heap.size w2 w'/\Fam w' W1.heap.size (some w2.heap.size) (((.slice at1 b.things.length ct1),b.things)::famB ps)) (λ_ i _=>b.bs.length-(intOf i).toNat)
 case atStart=>exact⟨0,[],.slice none 0 0,by omega,rfl,by simp,kX,B8 _ _ _ _,λp hp=>by simp at hp,hb3,hF3⟩
 case round =>
  clear kX hb3 hF3 f1;obtain⟨k,ps,xv,hk,rfl,hps,kX,hrow,hnm,hB,hF⟩:=hrel;have Hps:Hid (ps.map (·.1)=b.bs.take k):=hps;have Hnm:Hid (∀p∈ps,p.1.nm.size<=maxLen):=hnm;have hpl:ps.length=k:=by have:=congrArg List.length hps;simp at this;omega
  have hpl':ps.length<=100:=by omega
  have Hpl:Hid (ps.length=k):=hpl;clear hps hnm hpl;by_cases hp:k<b.bs.length
  ·obtain⟨bb,o,rfl,hS,hb⟩:=hpos (by omega)
   obtain⟨a3,d3,a4,d4,c3,c4,c5,l3,l4,z0⟩:=(hS.at hp).cells;have c3:=(hB.cell (p:=⟨bb,o+k*3,none⟩) hb).trans c3;have c4:=(hB.cell (p:=⟨bb,o+k*3+1,none⟩) hb).trans c4;have c5:=(hB.cell (p:=⟨bb,o+k*3+2,none⟩) hb).trans c5;obtain⟨s1,s2⟩:=hsm b.bs[k] (by simp);have L4:Hid (∀X,Below w2.heap.size w2 X->Ls X (.slice a4 (b.bs[k]).needs.length d4) (b.bs[k]).needs):=λX hX=>l4.up hX;have l3:=l3.up hB;have HX:Hid (b.bs.take (k+1)=b.bs.take k++[b.bs[k]]):=A7 hp;have Hz0:Hid ((b.bs[k]).nm.size<=maxLen):=z0;generalize b.bs[k]=x0 at *;have hzb:=hB.size;go_upto_region 5 with fail
   obtain⟨W4,hW4,kB,hb4,hs4⟩:=K9 wr [.string x0.nm,.slice a3 x0.has.length d3,.slice a4 x0.needs.length d4] 128;try rw[hW4]
   clear hW4 c3 c4 c5 hS z0;have hxl:=kX.2.2;have kX4:=kX.up hb4 hxl;have hrow4:=E1 hrow hb4;have hF4:=hF.up hb4;have hG4:=(hF.avoid (A3 _)).up hb4
   have hrq:∀g,xv.ownBlock=some g->some g≠some wr.heap.size:=λg hg e=>by
    have h1:=(hrow.lt g hg).2;have:g=wr.heap.size:=by simpa using e
    omega
   have hB4:=D6 hB hb4;have l3:=l3.up hb4;have hbt:=kB.2.2;have hx4:w2.heap.size<W4.heap.size:=by omega
   have hX1:W1.heap.size<=wr.heap.size:=by omega
   clear hb4 kX hrow hF hB;obtain⟨⟨j0,j1,j2⟩,m0,m1,m2⟩:=kB.c3;go_wp2_with fail
   refine (AaJ x0.has _ _ l3 (by omega)).mono ?_;rintro e W5 ⟨⟨hu,rfl,hoh⟩,hb5⟩;obtain⟨ah,ch,rfl⟩:=hoh.lst.shape;have kB5:=kB.up hb5 hbt;have kX5:=kX4.up hb5 hx4;have hrow5:=E1 hrow4 hb5;have hF5:=hF4.new (hF4.up hb5) hoh (A3 _) (by omega) (AaI hx4);have hG5:=hG4.new (hG4.up hb5) hoh (A3 _) (by omega) (AaI hbt);have hB5:=D6 hB4 hb5;have hz5:=hb5.size;clear j0 j1 j2 m0 m1 m2 kB kX4 hrow4 hF4 hG4 hB4 hb5 hoh l3;obtain⟨⟨j0,j1,j2⟩,m0,m1,m2⟩:=kB5.c3;go_upto_region 6 with fail
   have kB6:CB (W5.setCell ⟨wr.heap.size,1,none⟩ (.slice ah x0.has.length ch)) wr.heap.size [.string x0.nm,.slice ah x0.has.length ch,.slice a4 x0.needs.length d4]:=kB5.set (j:=1) (by simp);have hxb:w2.heap.size≠wr.heap.size:=by omega
   have kX6:=kX5.other (q:=wr.heap.size) (j:=1) (u:=.slice ah x0.has.length ch) hxb;have hrow6:=E2 hrow5 (E0 (rb:=wr.heap.size) (off:=1) (E4 W5 _) (.slice ah x0.has.length ch)) hrq;have hF6:=hF5.set2 hG5 1 (.slice ah x0.has.length ch);have hG6:=hG5.set 1 (.slice ah x0.has.length ch);have hB6:Below w2.heap.size w2 (W5.setCell ⟨wr.heap.size,1,none⟩ (.slice ah x0.has.length ch)):=hB5.setCell (p:=⟨wr.heap.size,1,none⟩) (by show _<=wr.heap.size;omega) _;have l4:Ls (W5.setCell ⟨wr.heap.size,1,none⟩ (.slice ah x0.has.length ch)) (.slice a4 x0.needs.length d4) x0.needs:=L4.out _ hB6;have hz6:(W5.setCell ⟨wr.heap.size,1,none⟩ (.slice ah x0.has.length ch)).heap.size=W5.heap.size:=by simp
   clear j0 j1 j2 m0 m1 m2 kB5 kX5 hrow5 hF5 hG5 hB5;generalize W5.setCell ⟨wr.heap.size,1,none⟩ (.slice ah x0.has.length ch)=W6 at *;have hbt6:=kB6.2.2;have hx6:=kX6.2.2;obtain⟨⟨j0,j1,j2⟩,m0,m1,m2⟩:=kB6.c3;clear hz6;go_wp2_with fail
   refine (AaJ x0.needs _ _ l4 (by omega)).mono ?_;rintro e W7 ⟨⟨nu,rfl,hon⟩,hb7⟩;obtain⟨an,cn,rfl⟩:=hon.lst.shape;have kB7:=kB6.up hb7 hbt6;have kX7:=kX6.up hb7 hx6;have hrow7:=E1 hrow6 hb7;have hF7:=hF6.new (hF6.up hb7) hon (A3 _) (by omega) (AaI hx6);have hG7:=hG6.new (hG6.up hb7) hon (A3 _) (by omega) (AaI hbt6);have hB7:=D6 hB6 hb7;clear j0 j1 j2 m0 m1 m2 kB6 kX6 hrow6 hF6 hG6 hB6 hb7 hon l4;obtain⟨⟨j0,j1,j2⟩,m0,m1,m2⟩:=kB7.c3;go_upto_region 7 with fail
   have kB8:CB (W7.setCell ⟨wr.heap.size,2,none⟩ (.slice an x0.needs.length cn)) wr.heap.size [.string x0.nm,.slice ah x0.has.length ch,.slice an x0.needs.length cn]:=kB7.set (j:=2) (by simp);have kX8:=kX7.other (q:=wr.heap.size) (j:=2) (u:=.slice an x0.needs.length cn) hxb;have hrow8:=E2 hrow7 (E0 (rb:=wr.heap.size) (off:=2) (E4 W7 _) (.slice an x0.needs.length cn)) hrq;have hF8:=hF7.set2 hG7 2 (.slice an x0.needs.length cn);have hB8:Below w2.heap.size w2 (W7.setCell ⟨wr.heap.size,2,none⟩ (.slice an x0.needs.length cn)):=hB7.setCell (p:=⟨wr.heap.size,2,none⟩) (by show _<=wr.heap.size;omega) _;clear j0 j1 j2 m0 m1 m2 kB7 kX7 hrow7 hF7 hG7 hB7;generalize W7.setCell ⟨wr.heap.size,2,none⟩ (.slice an x0.needs.length cn)=W8 at *;obtain⟨⟨j0,j1,j2⟩,-⟩:=kB8.c3;obtain⟨⟨x0c,x1c⟩,-⟩:=kX8.c2;obtain⟨ax,cx,rfl⟩:=F2 hrow8;have hrowA:=World.ownsRow.alloc hrow8 (.cells #[.string x0.nm,.slice ah x0.has.length ch,.slice an x0.needs.length cn] 128);have hx8:=kX8.2.2;have hbA:Below W8.heap.size W8 (W8.alloc (.cells #[.string x0.nm,.slice ah x0.has.length ch,.slice an x0.needs.length cn] 128)):=(A4 _ _).alloc (A3 _) _;have kXA:=kX8.up hbA hx8;have hFA:=hF8.up hbA;have hzA:w2.heap.size+1<=(W8.alloc (.cells #[.string x0.nm,.slice ah x0.has.length ch,.slice an x0.needs.length cn] 128)).heap.size:=by simp;omega
   have hBA:Below w2.heap.size w2 (W8.alloc (.cells #[.string x0.nm,.slice ah x0.has.length ch,.slice an x0.needs.length cn] 128)):=D6 hB8 hbA;go_wp2_with (at_builtin;refine wpList_append_own _ rfl _ _ 31 rfl (w2.heap.size+1) 128 ii _ 3 64 Tryz.underlying31 hi iz0 iz1 iz2 rfl (by decide) _ _ _ rfl hrowA ⟨W8.heap.size,0,none⟩ 1 1 [.string x0.nm,.slice ah x0.has.length ch,.slice an x0.needs.length cn] rfl rfl (λj u hj=>Aja _ _ _ _ _ hj) (by simp[Value.oneCell']) (by unfold maxLen;omega) (by omega) hzA ?_)
   intro v9 W9 hown9 hgr9 _;have kX9:=kXA.kept hgr9 (X8 hrowA (by omega));have hF9:=hFA.row hrowA hgr9;have hB9:Below w2.heap.size w2 W9:=I3 hBA hrowA hgr9 (by omega);have hF9':=hF9.turn.perm (Afh ps ((x0,.slice ah x0.has.length ch,.slice an x0.needs.length cn):Bv) [((.slice at1 b.things.length ct1),b.things)])
   have hrow9:W9.ownsRow (w2.heap.size+1) 128 3 v9 (ps++[((x0,.slice ah x0.has.length ch,.slice an x0.needs.length cn):Bv)]).length (rowsB (ps++[((x0,.slice ah x0.has.length ch,.slice an x0.needs.length cn):Bv)])):=by
    rw[Acg,A9];exact hown9
   have HM:Hid ((ps++[((x0,.slice ah x0.has.length ch,.slice an x0.needs.length cn):Bv)]).map (·.1)=b.bs.take (k+1)):=by
    show _=_
    rw[HX.out,List.map_append,Hps.out];rfl
   have HN:Hid (∀p∈ps++[((x0,.slice ah x0.has.length ch,.slice an x0.needs.length cn):Bv)],p.1.nm.size<=maxLen):=λp hp=>by
    rcases D1.1 hp with h|h
    ·exact Hnm.out p h
    ·obtain rfl:p=_:=by simpa using h
     exact Hz0.out
   obtain⟨a9,c9,rfl⟩:=F2 hown9;clear hown9 hgr9 hrowA kXA hFA hBA hbA hF8 hrow8 kX8 hB8 x0c x1c j0 j1 j2 hF9 kB8 hzA;obtain⟨⟨y0,y1⟩,g0,g1⟩:=kX9.c2;have kX10:CB (W9.setCell ⟨w2.heap.size,1,none⟩ (.slice a9 (ps.length+1) c9)) w2.heap.size [(.slice at1 b.things.length ct1),.slice a9 (ps.length+1) c9]:=kX9.set (j:=1) (by simp);have hrow10:=E9 hrow9 (E0 (rb:=w2.heap.size) (off:=1) (E4 W9 _) (.slice a9 (ps.length+1) c9)) (Nat.lt_succ_self _);have hF10:=hF9'.set 1 (.slice a9 (ps.length+1) c9);have hB10:Below w2.heap.size w2 (W9.setCell ⟨w2.heap.size,1,none⟩ (.slice a9 (ps.length+1) c9)):=hB9.setCell (p:=⟨w2.heap.size,1,none⟩) (A3 _) _;clear kX9 hrow9 hF9' hB9;go_wp2_with fail
   go_roundw
   case rel=>exact⟨k+1,_,_,by omega,by go_num,HM.out,kX10,hrow10,HN.out,hB10,hF10⟩
   case measure=>simp[intOf];omega
  ·obtain rfl:k=b.bs.length:=by omega
   have kR:=kR2.up hB kR2.2.2;obtain⟨⟨x0c,x1c⟩,-⟩:=kX.c2;obtain⟨⟨y0c,y1c⟩,yf0,yf1⟩:=kR.c2;have Hps2:Hid (ps.map (·.1)=b.bs):=by show _=_;rw[Hps.out,List.take_length]
   have hBB:=D6 hBw2 hB;obtain⟨ax,cx,rfl⟩:=F2 hrow;have Hlen:Hid (ps.length=b.bs.length):=Hpl.out;clear Hpl hpos;go_wp2_with fail
   refine AaW Tryz.results134 Tryz.underlying33 rfl J0 kR rfl ?_;have hrow2:=G4 (E9 (E9 hrow (E0 (rb:=w.heap.size+1) (off:=0) (E4 _ _) (.slice at1 b.things.length ct1)) (by omega)) (E0 (rb:=w.heap.size+1) (off:=1) (E4 _ _) (.slice ax ps.length cx)) (by omega)) (show w.heap.size<=w2.heap.size+1 by omega);have hFam:=((hF.free.setLow hW1z 0 (.slice at1 b.things.length ct1)).setLow hW1z 1 (.slice ax ps.length cx)).low hW1l;have hW:=hFam.bsW (fs:=[((.slice at1 b.things.length ct1),b.things)]) hrow2 Hnm.out;rw[Hlen.out] at hW hFam ⊢
   exact⟨⟨_,_,_,_,ps,rfl,hW,Hps2.out,hFam⟩,F9 hBB (Nat.le_succ _) _ _⟩
end Go.Proofs.YtebfdccbmmpceaaGreatDoor
