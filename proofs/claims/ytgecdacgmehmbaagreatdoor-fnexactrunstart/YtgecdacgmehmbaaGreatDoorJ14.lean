/- The program's chapter 13: copies. -/
import Derived.Test.YtgecdacgmehmbaaGreatDoorJ11
import Derived.Test.YtgecdacgmehmbaaGreatDoorKf
import Derived.Test.YtgecdacgmehmbaaGreatDoorXr
import Derived.Test.YtgecdacgmehmbaaGreatDoorJ2
import Derived.Test.YtgecdacgmehmbaaGreatDoorJ8
import Derived.Test.YtgecdacgmehmbaaGreatDoorJ10
set_option maxRecDepth 20000
set_option maxHeartbeats 4000000
namespace Go.Proofs.YtgecdacgmehmbaaGreatDoor
open Go.RowKit
theorem AcB {P:Program} {w:World} {t u ty e e':TypeId} (ht:P.underlying t=some (.slice e)) (hu:P.underlying u=some (.slice e')) (v x:Value) :
  (Builtin.append_ #[t,u] ty #[v,x]).run P w=(Builtin.append_ #[t,t] ty #[v,x]).run P w:=by
 unfold Builtin.append_;simp only[List.getElem?_toArray,List.getElem?_cons_zero,List.getElem?_cons_succ,Sem.run_bind,run_underlying ht,Result.andThen_ok];cases v with
 | slice a n c=>simp only[Sem.run_bind,run_underlying ht,run_underlying hu,Result.andThen_ok,Sem.run_pure]
 | _=>rfl
theorem N6 {P:Program} (w:World) {ops:Array Oper} {rest:List Oper} {o:Oper} {ac:Act} {Q:Exit->Act->World->Prop} (hg:o.guard=none) (s x:Operand) (t u:TypeId) (hop:o.op=.call {callee:=.builtin .append,args:=#[s,x],argTypes:=#[t,u]})
  (v xv v':Value) (w':World) (hs:ac.eval s=v) (hx:ac.eval x=xv) (hr:(Builtin.append_ #[t,u] o.type #[v,xv]).run P w=.ok v' w') (h:wpList P ops Q rest (ac.put o.dst v') w'):wpList P ops Q (o::rest) ac w:=by
 refine wpList_plain hg λK hK=>?_;unfold Oper.wp;simp[execOp,hop,resolve,invoke,builtin,hs,hx,hr,Result.andThen];exact hK _ _ h
theorem Aad (ss:List ByteArray) (v:Value) (w:World) (h:Ls w v ss) (hn:ss.length<=1048576) :
  Calls Tryz.prog 166 #[v] w λe w'=>(∃u,e=.returned u/\OwnT w' w.heap.size u ss)/\Below w.heap.size w w':=by
 obtain⟨a,c,rfl,-,-,hpos⟩:=h;obtain⟨ii,hi,iz0,iz1,iz2⟩:=info_parts L9;have ho:OwnT w w.heap.size (.slice none 0 0) []:=B7 _ _ _ _;rcases C3 ss.length with h0|h0
 ·obtain rfl:=C4.1 h0
  simp only[List.length_nil];have hr:=(AcB (w:=w) (ty:=22) Tryz.underlying22 Tryz.underlying171 (.slice none 0 0) (.slice a 0 c)).trans (O6 w.heap.size 22 22 9 ii 1 Tryz.underlying22 hi _ 0 [] ho a c);clear hpos hn h0;go_enter Tryz.func166,Tryz.ntmps166
  go_wp2_with (at_builtin;refine N6 _ rfl _ _ _ _ rfl _ _ _ _ rfl rfl hr ?_)
  go_ret
  exact⟨⟨_,rfl,ho⟩,A4 _ _⟩
 ·obtain⟨g,o,rfl,hS,hg⟩:=hpos h0
  obtain⟨v1,w1,hr,hown1,hgr1,-⟩:=run_append_own (P:=Tryz.prog) w w.heap.size 22 22 9 ii _ 1 16 Tryz.underlying22 hi iz0 iz1 iz2 rfl (by decide) (.slice none 0 0) 0 [] ho ⟨g,o,none⟩ ss.length c (ss.map Value.string) (by simp) (J5 hS) (Z2 ss) (by unfold maxLen;omega) (by omega) (A3 _);have hr2:=(AcB (w:=w) (ty:=22) Tryz.underlying22 Tryz.underlying171 (.slice none 0 0) (.slice (some ⟨g,o,none⟩) ss.length c)).trans hr;have hB1:=G4 (A4 _ _) ho hgr1 (A3 _);have ho1:OwnT w1 w.heap.size v1 ss:=by unfold OwnT;simpa using hown1
  clear hown1 hgr1 hr hpos;go_enter Tryz.func166,Tryz.ntmps166
  go_wp2_with (at_builtin;refine N6 _ rfl _ _ _ _ rfl _ _ _ _ rfl rfl hr2 ?_)
  go_ret
  exact⟨⟨_,rfl,ho1⟩,hB1⟩
theorem Aa1 (b:Bk) (v:Value) (w:World) (h:BkV w v b) (hn:b.things.length<=100) (hn5:b.bs.length<=100) (hsm:∀y∈b.bs,y.has.length<=100/\y.needs.length<=100) :
  Calls Tryz.prog 139 #[v] w λe w'=>(∃a1 c1 a2 c2 ps,e=.returned (.agg #[.slice a1 b.things.length c1,.slice a2 b.bs.length c2])/\BsW w' w.heap.size (.slice a2 b.bs.length c2) ps/\ps.map (·.1)=b.bs/\Fam w' w.heap.size none ((.slice a1 b.things.length c1,b.things)::famB ps))/\Below w.heap.size w w':=by
 obtain⟨a1,c1,a2,c2,rfl,h1,h2⟩:=h.parts;obtain⟨ii,hi,iz0,iz1,iz2⟩:=info_parts Aan;obtain⟨W1,hW1,kA,kR,hB1,hs1⟩:=L8 w [.slice a1 (b).things.length c1,.slice a2 (b).bs.length c2] 37 [.slice none 0 0,.slice none 0 0] 37;go_enter Tryz.func139,Tryz.ntmps139
 go_upto_region 1 with fail
 try rw[hW1]
 clear hW1;have l1:=h1.up hB1;have l2:=h2.up hB1;obtain⟨e0,e1⟩:=kA.c2';clear h h1 h2;go_wp2_with fail
 refine (Aad b.things _ _ l1 (by omega)).mono ?_;rintro e w2 ⟨⟨tu,rfl,hot⟩,hb2⟩;obtain⟨at1,ct1,rfl⟩:=hot.lst.shape;have hz2:=hb2.size;have kA2:=kA.up hb2 (by omega);have kR2:=kR.up hb2 (by omega);have l2':=l2.up hb2;have hBw2:=D5 hB1 hb2;have hW1z:w.heap.size+1<W1.heap.size:=by omega
 have hW1l:w.heap.size<=W1.heap.size:=by omega
 have hF2:Fam w2 W1.heap.size (some w2.heap.size) [((.slice at1 b.things.length ct1),b.things)]:=((Ae5 w2 W1.heap.size none).mk1 hot).avoid (A3 _);clear e0 e1 l1 l2 kA kR hs1 hB1 hb2 hot;go_upto_region 2 with fail
 obtain⟨W3,hW3,kX,hb3,hs3⟩:=K6 w2 [(.slice at1 b.things.length ct1),.slice none 0 0] 37;try rw[hW3]
 clear hW3 hs3;have hF3:=hF2.up hb3;clear hF2;obtain⟨f0,f1⟩:=kA2.c2';have hla:=kA2.2.2;have f1:=(hb3.cell (p:=⟨w.heap.size,1,none⟩) hla).trans f1;obtain⟨-,hpos⟩:=l2'.at;go_wp2_with fail
 go_loopw [5,13] (λ_ i w'=>∃(k:Nat) (ps:List Bv) (xv:Value),k<=b.bs.length/\i=.int .i64 k/\ps.map (·.1)=b.bs.take k/\CB w' w2.heap.size [(.slice at1 b.things.length ct1),xv]/\w'.ownsRow (w2.heap.size+1) 118 3 xv ps.length (rowsB ps)/\(∀p∈ps,p.1.nm.size<=maxLen)/\Below w2.heap.size w2 w'/\Fam w' W1.heap.size (some w2.heap.size) (((.slice at1 b.things.length ct1),b.things)::famB ps)) (λ_ i _=>b.bs.length-(intOf i).toNat)
 case atStart=>exact⟨0,[],.slice none 0 0,by omega,rfl,by simp,kX,B7 _ _ _ _,λp hp=>by simp at hp,hb3,hF3⟩
 case round =>
  clear kX hb3 hF3 f1;obtain⟨k,ps,xv,hk,rfl,hps,kX,hrow,hnm,hB,hF⟩:=hrel;have Hps:Hid (ps.map (·.1)=b.bs.take k):=hps;have Hnm:Hid (∀p∈ps,p.1.nm.size<=maxLen):=hnm;have hpl:ps.length=k:=by have:=congrArg List.length hps;simp at this;omega
  have hpl':ps.length<=100:=by omega
  have Hpl:Hid (ps.length=k):=hpl;clear hps hnm hpl;by_cases hp:k<b.bs.length
  ·obtain⟨bb,o,rfl,hS,hb⟩:=hpos (by omega)
   obtain⟨a3,d3,a4,d4,c3,c4,c5,l3,l4,z0⟩:=(hS.at hp).cells;have c3:=(hB.cell (p:=⟨bb,o+k*3,none⟩) hb).trans c3;have c4:=(hB.cell (p:=⟨bb,o+k*3+1,none⟩) hb).trans c4;have c5:=(hB.cell (p:=⟨bb,o+k*3+2,none⟩) hb).trans c5;obtain⟨s1,s2⟩:=hsm b.bs[k] (by simp);have L4:Hid (∀X,Below w2.heap.size w2 X->Ls X (.slice a4 (b.bs[k]).needs.length d4) (b.bs[k]).needs):=λX hX=>l4.up hX;have l3:=l3.up hB;have HX:Hid (b.bs.take (k+1)=b.bs.take k++[b.bs[k]]):=A7 hp;have Hz0:Hid ((b.bs[k]).nm.size<=maxLen):=z0;generalize b.bs[k]=x0 at *;have hzb:=hB.size;go_upto_region 5 with fail
   obtain⟨W4,hW4,kB,hb4,hs4⟩:=K6 wr [.string x0.nm,.slice a3 x0.has.length d3,.slice a4 x0.needs.length d4] 118;try rw[hW4]
   clear hW4 c3 c4 c5 hS z0;have hxl:=kX.2.2;have kX4:=kX.up hb4 hxl;have hrow4:=E0 hrow hb4;have hF4:=hF.up hb4;have hG4:=(hF.avoid (A3 _)).up hb4
   have hrq:∀g,xv.ownBlock=some g->some g≠some wr.heap.size:=λg hg e=>by
    have h1:=(hrow.lt g hg).2;have:g=wr.heap.size:=by simpa using e
    omega
   have hB4:=D5 hB hb4;have l3:=l3.up hb4;have hbt:=kB.2.2;have hx4:w2.heap.size<W4.heap.size:=by omega
   have hX1:W1.heap.size<=wr.heap.size:=by omega
   clear hb4 kX hrow hF hB;obtain⟨⟨j0,j1,j2⟩,m0,m1,m2⟩:=kB.c3;go_wp2_with fail
   refine (Aad x0.has _ _ l3 (by omega)).mono ?_;rintro e W5 ⟨⟨hu,rfl,hoh⟩,hb5⟩;obtain⟨ah,ch,rfl⟩:=hoh.lst.shape;have kB5:=kB.up hb5 hbt;have kX5:=kX4.up hb5 hx4;have hrow5:=E0 hrow4 hb5;have hF5:=hF4.new (hF4.up hb5) hoh (A3 _) (by omega) (Abf hx4);have hG5:=hG4.new (hG4.up hb5) hoh (A3 _) (by omega) (Abf hbt);have hB5:=D5 hB4 hb5;have hz5:=hb5.size;clear j0 j1 j2 m0 m1 m2 kB kX4 hrow4 hF4 hG4 hB4 hb5 hoh l3;obtain⟨⟨j0,j1,j2⟩,m0,m1,m2⟩:=kB5.c3;go_upto_region 6 with fail
   have kB6:CB (W5.setCell ⟨wr.heap.size,1,none⟩ (.slice ah x0.has.length ch)) wr.heap.size [.string x0.nm,.slice ah x0.has.length ch,.slice a4 x0.needs.length d4]:=kB5.set (j:=1) (by simp);have hxb:w2.heap.size≠wr.heap.size:=by omega
   have kX6:=kX5.other (q:=wr.heap.size) (j:=1) (u:=.slice ah x0.has.length ch) hxb;have hrow6:=E4 hrow5 (D9 (rb:=wr.heap.size) (off:=1) (E1 W5 _) (.slice ah x0.has.length ch)) hrq;have hF6:=hF5.set2 hG5 1 (.slice ah x0.has.length ch);have hG6:=hG5.set 1 (.slice ah x0.has.length ch);have hB6:Below w2.heap.size w2 (W5.setCell ⟨wr.heap.size,1,none⟩ (.slice ah x0.has.length ch)):=hB5.setCell (p:=⟨wr.heap.size,1,none⟩) (by show _<=wr.heap.size;omega) _;have l4:Ls (W5.setCell ⟨wr.heap.size,1,none⟩ (.slice ah x0.has.length ch)) (.slice a4 x0.needs.length d4) x0.needs:=L4.out _ hB6;have hz6:(W5.setCell ⟨wr.heap.size,1,none⟩ (.slice ah x0.has.length ch)).heap.size=W5.heap.size:=by simp
   clear j0 j1 j2 m0 m1 m2 kB5 kX5 hrow5 hF5 hG5 hB5;generalize W5.setCell ⟨wr.heap.size,1,none⟩ (.slice ah x0.has.length ch)=W6 at *;have hbt6:=kB6.2.2;have hx6:=kX6.2.2;obtain⟨⟨j0,j1,j2⟩,m0,m1,m2⟩:=kB6.c3;clear hz6;go_wp2_with fail
   refine (Aad x0.needs _ _ l4 (by omega)).mono ?_;rintro e W7 ⟨⟨nu,rfl,hon⟩,hb7⟩;obtain⟨an,cn,rfl⟩:=hon.lst.shape;have kB7:=kB6.up hb7 hbt6;have kX7:=kX6.up hb7 hx6;have hrow7:=E0 hrow6 hb7;have hF7:=hF6.new (hF6.up hb7) hon (A3 _) (by omega) (Abf hx6);have hG7:=hG6.new (hG6.up hb7) hon (A3 _) (by omega) (Abf hbt6);have hB7:=D5 hB6 hb7;clear j0 j1 j2 m0 m1 m2 kB6 kX6 hrow6 hF6 hG6 hB6 hb7 hon l4;obtain⟨⟨j0,j1,j2⟩,m0,m1,m2⟩:=kB7.c3;go_upto_region 7 with fail
   have kB8:CB (W7.setCell ⟨wr.heap.size,2,none⟩ (.slice an x0.needs.length cn)) wr.heap.size [.string x0.nm,.slice ah x0.has.length ch,.slice an x0.needs.length cn]:=kB7.set (j:=2) (by simp);have kX8:=kX7.other (q:=wr.heap.size) (j:=2) (u:=.slice an x0.needs.length cn) hxb;have hrow8:=E4 hrow7 (D9 (rb:=wr.heap.size) (off:=2) (E1 W7 _) (.slice an x0.needs.length cn)) hrq;have hF8:=hF7.set2 hG7 2 (.slice an x0.needs.length cn);have hB8:Below w2.heap.size w2 (W7.setCell ⟨wr.heap.size,2,none⟩ (.slice an x0.needs.length cn)):=hB7.setCell (p:=⟨wr.heap.size,2,none⟩) (by show _<=wr.heap.size;omega) _;clear j0 j1 j2 m0 m1 m2 kB7 kX7 hrow7 hF7 hG7 hB7;generalize W7.setCell ⟨wr.heap.size,2,none⟩ (.slice an x0.needs.length cn)=W8 at *;obtain⟨⟨j0,j1,j2⟩,-⟩:=kB8.c3;obtain⟨⟨x0c,x1c⟩,-⟩:=kX8.c2;obtain⟨ax,cx,rfl⟩:=E9 hrow8;have hrowA:=World.ownsRow.alloc hrow8 (.cells #[.string x0.nm,.slice ah x0.has.length ch,.slice an x0.needs.length cn] 118);have hx8:=kX8.2.2;have hbA:Below W8.heap.size W8 (W8.alloc (.cells #[.string x0.nm,.slice ah x0.has.length ch,.slice an x0.needs.length cn] 118)):=(A4 _ _).alloc (A3 _) _;have kXA:=kX8.up hbA hx8;have hFA:=hF8.up hbA;have hzA:w2.heap.size+1<=(W8.alloc (.cells #[.string x0.nm,.slice ah x0.has.length ch,.slice an x0.needs.length cn] 118)).heap.size:=by simp;omega
   have hBA:Below w2.heap.size w2 (W8.alloc (.cells #[.string x0.nm,.slice ah x0.has.length ch,.slice an x0.needs.length cn] 118)):=D5 hB8 hbA;go_wp2_with (at_builtin;refine wpList_append_own _ rfl _ _ 35 rfl (w2.heap.size+1) 118 ii _ 3 64 Tryz.underlying35 hi iz0 iz1 iz2 rfl (by decide) _ _ _ rfl hrowA ⟨W8.heap.size,0,none⟩ 1 1 [.string x0.nm,.slice ah x0.has.length ch,.slice an x0.needs.length cn] rfl rfl (λj u hj=>Af7 _ _ _ _ _ hj) (by simp[Value.oneCell']) (by unfold maxLen;omega) (by omega) hzA ?_)
   intro v9 W9 hown9 hgr9 _;have kX9:=kXA.kept hgr9 (Z3 hrowA (by omega));have hF9:=hFA.row hrowA hgr9;have hB9:Below w2.heap.size w2 W9:=G4 hBA hrowA hgr9 (by omega);have hF9':=hF9.turn.perm (AeP ps ((x0,.slice ah x0.has.length ch,.slice an x0.needs.length cn):Bv) [((.slice at1 b.things.length ct1),b.things)])
   have hrow9:W9.ownsRow (w2.heap.size+1) 118 3 v9 (ps++[((x0,.slice ah x0.has.length ch,.slice an x0.needs.length cn):Bv)]).length (rowsB (ps++[((x0,.slice ah x0.has.length ch,.slice an x0.needs.length cn):Bv)])):=by
    rw[Aa4,A9];exact hown9
   have HM:Hid ((ps++[((x0,.slice ah x0.has.length ch,.slice an x0.needs.length cn):Bv)]).map (·.1)=b.bs.take (k+1)):=by
    show _=_
    rw[HX.out,List.map_append,Hps.out];rfl
   have HN:Hid (∀p∈ps++[((x0,.slice ah x0.has.length ch,.slice an x0.needs.length cn):Bv)],p.1.nm.size<=maxLen):=λp hp=>by
    rcases D0.1 hp with h|h
    ·exact Hnm.out p h
    ·obtain rfl:p=_:=by simpa using h
     exact Hz0.out
   obtain⟨a9,c9,rfl⟩:=E9 hown9;clear hown9 hgr9 hrowA kXA hFA hBA hbA hF8 hrow8 kX8 hB8 x0c x1c j0 j1 j2 hF9 kB8 hzA;obtain⟨⟨y0,y1⟩,g0,g1⟩:=kX9.c2;have kX10:CB (W9.setCell ⟨w2.heap.size,1,none⟩ (.slice a9 (ps.length+1) c9)) w2.heap.size [(.slice at1 b.things.length ct1),.slice a9 (ps.length+1) c9]:=kX9.set (j:=1) (by simp);have hrow10:=E6 hrow9 (D9 (rb:=w2.heap.size) (off:=1) (E1 W9 _) (.slice a9 (ps.length+1) c9)) (Nat.lt_succ_self _);have hF10:=hF9'.set 1 (.slice a9 (ps.length+1) c9);have hB10:Below w2.heap.size w2 (W9.setCell ⟨w2.heap.size,1,none⟩ (.slice a9 (ps.length+1) c9)):=hB9.setCell (p:=⟨w2.heap.size,1,none⟩) (A3 _) _;clear kX9 hrow9 hF9' hB9;go_wp2_with fail
   go_roundw
   case rel=>exact⟨k+1,_,_,by omega,by go_num,HM.out,kX10,hrow10,HN.out,hB10,hF10⟩
   case measure=>simp[intOf];omega
  ·obtain rfl:k=b.bs.length:=by omega
   have kR:=kR2.up hB kR2.2.2;obtain⟨⟨x0c,x1c⟩,-⟩:=kX.c2;obtain⟨⟨y0c,y1c⟩,yf0,yf1⟩:=kR.c2;have Hps2:Hid (ps.map (·.1)=b.bs):=by show _=_;rw[Hps.out,List.take_length]
   have hBB:=D5 hBw2 hB;obtain⟨ax,cx,rfl⟩:=E9 hrow;have Hlen:Hid (ps.length=b.bs.length):=Hpl.out;clear Hpl hpos;go_wp2_with fail
   refine Aby Tryz.results139 Tryz.underlying37 rfl I9 kR rfl ?_;have hrow2:=F9 (E6 (E6 hrow (D9 (rb:=w.heap.size+1) (off:=0) (E1 _ _) (.slice at1 b.things.length ct1)) (by omega)) (D9 (rb:=w.heap.size+1) (off:=1) (E1 _ _) (.slice ax ps.length cx)) (by omega)) (show w.heap.size<=w2.heap.size+1 by omega);have hFam:=((hF.free.setLow hW1z 0 (.slice at1 b.things.length ct1)).setLow hW1z 1 (.slice ax ps.length cx)).low hW1l;have hW:=hFam.bsW (fs:=[((.slice at1 b.things.length ct1),b.things)]) hrow2 Hnm.out;rw[Hlen.out] at hW hFam ⊢
   exact⟨⟨_,_,_,_,ps,rfl,hW,Hps2.out,hFam⟩,G3 hBB (Nat.le_succ _) _ _⟩
def lowN (ss:List ByteArray) (s:ByteArray):Nat:=(ss.takeWhile λx=>ltS x s).length
def LowTo (ss:List ByteArray) (s:ByteArray) (i:Nat):Prop:=∀(k:Nat) (x:ByteArray),k<i->ss[k]?=some x->ltS x s=true
def HighFrom (ss:List ByteArray) (s:ByteArray) (j:Nat):Prop:=∀(k:Nat) (x:ByteArray),j<=k->ss[k]?=some x->ltS x s=false
theorem AeA {ss:List ByteArray} {s:ByteArray} {i:Nat} (hi:i<=ss.length) (hl:LowTo ss s i) (hh:HighFrom ss s i):lowN ss s=i :=
 AfN _ _ _ hi hl (λx hx=>hh i x (A3 _) hx)
theorem AlP {ss:List ByteArray} {s:ByteArray} {i h:Nat} (ha:Asc ss) (_:LowTo ss s i) (hh:h<ss.length) (hs:ltS ss[h] s=true):LowTo ss s (h+1):=λk x hk hx=>by
 by_cases e:k=h
 ·subst e
  rw[A0 hh] at hx;obtain rfl:=A5 hx;exact hs
 ·exact Aaz (R9 ha (h-k-1) k x _ hx (by rw[show k+1+(h-k-1)=h by omega];exact A0 hh)) hs
theorem Akx {ss:List ByteArray} {s:ByteArray} {h:Nat} (ha:Asc ss) (hh:h<ss.length) (hs:ltS ss[h] s=false):HighFrom ss s h:=λk x hk hx=>by
 by_cases e:k=h
 ·subst e
  rw[A0 hh] at hx;obtain rfl:=A5 hx;exact hs
 ·cases hq:ltS x s
  ·rfl
  ·have:=Aaz (R9 ha (k-h-1) h _ x (A0 hh) (by rw[show h+1+(k-h-1)=k by omega];exact hx)) hq
   rw[hs] at this;cases this
theorem AmR {ss:List ByteArray} {s:ByteArray} {i:Nat} (hl:LowTo ss s i) (hh:HighFrom ss s i) (ha:Asc ss) (hi:i<ss.length):memS ss s=((ss[i]).toList==s.toList):=by
 cases hq:((ss[i]).toList==s.toList)
 ·rw[S3]
  intro hm;obtain⟨k,hk,rfl⟩:=B5 hm;rcases Nat.lt_trichotomy k i with h1|h1|h1
  ·have:=hl k _ h1 (A0 hk)
   rw[O5] at this;cases this
  ·subst h1;simp at hq
  ·have h2:=R9 ha (k-i-1) i _ _ (A0 hi) (by rw[show i+1+(k-i-1)=k by omega];exact A0 hk)
   have h3:=hh i _ (A3 _) (A0 hi);rw[h2] at h3;cases h3
 ·exact AbD hi hq
theorem AlQ {ss:List ByteArray} {s:ByteArray} {i:Nat} (hl:LowTo ss s i) (hi:¬i<ss.length):memS ss s=false:=by
 rw[S3];intro hm;obtain⟨k,hk,rfl⟩:=B5 hm;have:=hl k _ (by omega) (A0 hk);rw[O5] at this;cases this
theorem Aky (s:ByteArray) (w:World):Calls Tryz.prog 220 #[.string s] w λe w'=>e=.returned (.bool false)/\w'=w:=by
 go_enter Tryz.func220,Tryz.ntmps220
 go_wp2
 go_ret
 exact⟨rfl,rfl⟩
theorem AiN (s:ByteArray) (w:World):Calls Tryz.prog 215 #[.string s] w λe w'=>e=.returned (.bool false)/\w'=w:=by
 go_enter Tryz.func215,Tryz.ntmps215
 go_wp2
 go_ret
 exact⟨rfl,rfl⟩
theorem Ahr (a b:ByteArray) (w:World):Calls Tryz.prog 196 #[.string a,.string b] w λe w'=>e=.returned (.bool (ltS a b))/\w'=w:=by
 have Hl:Hid (ltS a b=Op.bytesLess a.toList b.toList):=rfl;go_enter Tryz.func196,Tryz.ntmps196
 go_wp2_with (go_at_call 215;refine (AiN _ _).mono ?_;rintro e w' ⟨rfl,hw⟩;obtain rfl:=hw.symm;clear hw)
 go_ret
 exact⟨D6 Hl.out.symm,rfl⟩
theorem Ad7 {i j:Nat} {a b:Bool} (h1:i=j) (h2:a=b):Ending.returned (.tuple #[.int .i64 (i:Int),.bool a])=.returned (.tuple #[.int .i64 (j:Int),.bool b]):=by rw[h1,h2]
theorem Ahs (ss:List ByteArray) (v:Value) (s:ByteArray) (w:World) (h:Ls w v ss) (ha:Asc ss) (hn:ss.length<=1000) :
  Calls Tryz.prog 203 #[v,.string s] w λe w'=>e=.returned (.tuple #[.int .i64 (lowN ss s:Int),.bool (memS ss s)])/\w'=w:=by
 obtain⟨a,c,rfl,-,-,hpos⟩:=h;have Ha:Hid (Asc ss):=ha;clear ha;go_enter Tryz.func203,Tryz.ntmps203
 go_wp2_with fail
 go_loopw [7,8,9] (λvi vj _ w'=>∃i j:Nat,i<=j/\j<=ss.length/\vi=.int .i64 i/\vj=.int .i64 j/\LowTo ss s i/\HighFrom ss s j/\w'=w) (λvi vj _ _=>(intOf vj).toNat-(intOf vi).toNat)
 case atStart=>exact⟨0,ss.length,by omega,by omega,rfl,rfl,λk x hk=>by omega,λk x hk hx=>by have:=(A2.1 hx).1;omega,rfl⟩
 case round =>
  obtain⟨i,j,hij,hjn,rfl,rfl,hlo,hhi,hw⟩:=hrel;obtain rfl:=hw.symm;clear hw;have HL:Hid (LowTo ss s i):=hlo;have HH:Hid (HighFrom ss s j):=hhi;clear hlo hhi;by_cases hp:i<j
  ·have hp':(i:Int)<(j:Int):=by omega
   obtain⟨b,o,rfl,hS,hb⟩:=hpos (by omega);have hm:(i+j) / 2<ss.length:=by omega
   have c0:=hS.cell hm;have HY:Hid (ltS ss[(i+j) / 2] s=true->LowTo ss s ((i+j) / 2+1)):=λhq=>AlP Ha.out HL.out hm hq;have HN:Hid (ltS ss[(i+j) / 2] s=false->HighFrom ss s ((i+j) / 2)):=λhq=>Akx Ha.out hm hq;generalize ss[(i+j) / 2]=s0 at *;obtain⟨m,hmm,hm1,hm2⟩:∃m:Nat,(i+j) / 2=m/\i<=m/\m<j:=⟨_,rfl,by omega,by omega⟩;rw[hmm] at c0 HY HN;have hI:((i:Int)+(j:Int)) / 2=(m:Int):=by omega
   have hml:m<ss.length:=by omega
   go_upto_region 5 with fail
   try rw[hI]
   clear hI hmm hm;go_wp2_with fail
   refine (Ahr s0 s _).mono ?_;rintro e w' ⟨rfl,hw⟩;obtain rfl:=hw.symm;clear hw;cases hq:ltS s0 s
   ·have Hq:Hid (HighFrom ss s m):=HN.out hq
    go_wp2_with fail
    go_roundw
    case rel=>exact⟨i,m,by omega,by omega,rfl,rfl,HL.out,Hq.out,by first|rfl|trivial⟩
    case measure=>simp[intOf];omega
   ·have Hq:Hid (LowTo ss s (m+1)):=HY.out hq
    go_wp2_with fail
    go_roundw
    case rel=>exact⟨m+1,j,by omega,by omega,by go_num,rfl,Hq.out,HH.out,by first|rfl|trivial⟩
    case measure=>simp[intOf];omega
  ·obtain rfl:i=j:=by omega
   have hp':¬(i:Int)<(i:Int):=by omega
   have HI:Hid (lowN ss s=i):=AeA hjn HL.out HH.out;by_cases he:i<ss.length
   ·have he':(i:Int)<(ss.length:Int):=by omega
    obtain⟨b,o,rfl,hS,hb⟩:=hpos (by omega);have c0:=hS.cell he;have HM:Hid (memS ss s=((ss[i]).toList==s.toList)):=AmR HL.out HH.out Ha.out he;generalize ss[i]=s0 at *;cases hq:(s0.toList==s.toList)
    ·have Hm:Hid (memS ss s=false):=by show _=_;rw[HM.out,hq]
     go_wp2_with (go_at_call 220;refine (Aky _ _).mono ?_;rintro e w' ⟨rfl,hw⟩;obtain rfl:=hw.symm;clear hw)
     go_returns
     exact⟨Ad7 HI.out.symm Hm.out.symm,rfl⟩
    ·have Hm:Hid (memS ss s=true):=by show _=_;rw[HM.out,hq]
     go_wp2_with fail
     go_returns
     exact⟨Ad7 HI.out.symm Hm.out.symm,rfl⟩
   ·have he':¬(i:Int)<(ss.length:Int):=by omega
    have Hm:Hid (memS ss s=false):=AlQ HL.out he;go_wp2_with fail
    go_returns
    exact⟨Ad7 HI.out.symm Hm.out.symm,rfl⟩
theorem AaN (b:Bk) (v:Value) (nm:ByteArray) (w:World) (h:BkV w v b) (hok:BookOk b) :
  Calls Tryz.prog 179 #[v,.string nm] w λe w'=>e=.returned (.tuple #[.int .i64 (lowN (nms b.bs) nm:Int),.bool (memS (nms b.bs) nm)])/\Below w.heap.size w w':=by
 obtain⟨a1,c1,a2,c2,rfl,-,h2⟩:=h.parts;obtain⟨W1,hW1,kA,hB1,hs1⟩:=K6 w [.slice a1 (b).things.length c1,.slice a2 (b).bs.length c2] 37;have hn5:b.bs.length<=5:=hok.2.1;have Ha:Hid (Asc (nms b.bs)):=hok.2.2.2.1;go_enter Tryz.func179,Tryz.ntmps179
 go_upto_region 1 with fail
 try rw[hW1]
 clear hW1 hs1;obtain⟨e0,e1⟩:=kA.c2';go_wp2_with fail
 refine (U9 b.bs _ _ (h2.up hB1) (by omega)).mono ?_;rintro e w2 ⟨⟨u,rfl,-,hl⟩,hb2⟩;obtain⟨ax,cx,rfl,-⟩:=id hl;have hB2:=D5 hB1 hb2;clear e0 e1;go_wp2_with fail
 refine (Ahs (nms b.bs) _ nm _ hl Ha.out (by rw[I0];omega)).mono ?_;rintro e w3 ⟨rfl,hw⟩;obtain rfl:=hw.symm;go_wp2_with fail
 go_returns
 exact⟨rfl,hB2⟩
theorem Ab5 (ps:List Ph) (v:Value) (w:World) (h:Src w v ps) (hn:ps.length<=1048576) :
  Calls Tryz.prog 9 #[v] w λe w'=>(∃b,e=.returned (.slice (some ⟨b,0,none⟩) ps.length ps.length)/\Own w' b ps/\w.heap.size<=b)/\Below w.heap.size w w':=by
 rcases h with⟨a,c,rfl,rfl⟩|⟨b,o,c,rfl,hr,hb,hl⟩
 ·exact (AmH a c w).mono λe w' ⟨he,ho,hB⟩=>⟨⟨_,he,ho,A3 _⟩,hB⟩
 ·exact (AmI ps b o c w hr hb hn).mono λe w' ⟨he,ho,hB⟩=>⟨⟨_,he,ho,A3 _⟩,hB⟩
theorem Own.up {w w':World} {b:Nat} {ps:List Ph} (h:Own w b ps) (hb:Below w.heap.size w w'):Own w' b ps :=
 ⟨h.1.up hb h.2.2,I3 h.2.1 hb h.2.2,A1 h.2.2 hb.size⟩
theorem AcC (ss:List ByteArray) (v:Value) (l:Int) (w:World) (h:Ls w v ss) (hl:0<=l) (hl':l<=1048576) :
  Calls Tryz.prog 53 #[v,.int .i64 l] w λe w'=>(∃x:Int,e=.returned (.int .i64 x)/\x<=l/\(0<=x->(ss.length:Int)<=l))/\w'=w:=by
 obtain⟨a,c,rfl,hn,hz,hpos⟩:=h;unfold maxLen at hn hz;by_cases h0:l-ss.length<0
 ·go_enter Tryz.func53,Tryz.ntmps53
  go_wp2
  go_ret
  exact⟨⟨_,rfl,by omega,by omega⟩,rfl⟩
 have H0:Hid ((ss.length:Int)<=l):=by show _<=_;omega
 go_enter Tryz.func53,Tryz.ntmps53
 go_wp2
 go_loop [1,5] (λx i=>∃(k:Nat) (y:Int),k<=ss.length/\i=.int .i64 k/\x=.int .i64 y/\0<=y/\y<=l) (λ_ i=>ss.length-(intOf i).toNat)
 case atStart=>exact⟨0,_,by omega,rfl,rfl,by omega,by omega⟩
 case round =>
  obtain⟨k,y,hk,rfl,rfl,hy,hy'⟩:=hrel;by_cases hp:k<ss.length
  ·obtain⟨b,o,rfl,hS,hb⟩:=hpos (by omega)
   have c0:=hS.cell hp;have z0:=hz ss[k] (by simp);generalize ss[k]=s0 at *;by_cases hq:y-s0.size<0
   ·go_wp2
    go_ret
    exact⟨⟨_,rfl,by omega,by omega⟩,rfl⟩
   ·go_wp2
    go_round
    case rel=>exact⟨k+1,_,by omega,by go_num,rfl,by omega,by omega⟩
    case measure=>simp[intOf];omega
  ·go_wp2
   go_ret
   exact⟨⟨_,rfl,by omega,λ_=>H0.out⟩,rfl⟩
theorem Agt (n:Nat) (hn:n<=1048576):∃C:Array Value,C.size=n/\∀w,(Instr.makeSlice 22 (.int .i64 (n:Int)) (.int .i64 (n:Int))).run Tryz.prog w=.ok (.slice (some ⟨w.heap.size,0,none⟩) n n) (w.alloc (.cells C 9)):=by
 obtain⟨i,hi,hz⟩:=B4.1 L9;simp only[Prod.mk.injEq] at hz;obtain⟨hz,hs,hb⟩:=hz;refine⟨madeCells (Value.string ⟨#[]⟩).cells (n*1),by rw[size_madeCells,Nat.mul_one],λw=>?_⟩;have:=run_make (P:=Tryz.prog) w 22 9 i _ Tryz.underlying22 hi hz .i64 .i64 (n:Int) (n:Int) (by omega) (by omega) (by rw[hb];omega) (by omega);simp only[Int.toNat_natCast,hs] at this;exact this
theorem AiO {w1:World} {b k:Nat} {ss:List ByteArray} (hk:k<ss.length) (h:StrsAt w1 b 0 (ss.take k)) (ht:w1.there b 0 ss.length):StrsAt (w1.setCell ⟨b,k,none⟩ (.string ss[k])) b 0 (ss.take (k+1)):=by
 intro i s hs;rw[Nat.zero_add];by_cases hi:i=k
 ·subst hi
  rw[List.getElem?_take,if_pos (by omega),A0 hk] at hs;obtain rfl:=A5 hs;have h1:=(ht i hk).1;rw[Nat.zero_add] at h1;obtain⟨x,hx⟩:=Option.isSome_iff_exists.1 h1;exact World.cell?_setCell_same _ _ _ hx
 ·rw[B9 _ _ _ _ (by simp<;>omega)]
  have:=h i s (by
   rw[List.getElem?_take] at hs ⊢
   split at hs
   ·rw[if_pos (by omega)];exact hs
   ·cases hs)
  rwa [Nat.zero_add] at this
theorem AiP {w:World} {b n j:Nat} {u:Value} (h:w.there b 0 n):(w.setCell ⟨b,j,none⟩ u).there b 0 n:=by
 have:=World.there_setCells h b j [u];simpa [World.setCells] using this
theorem I7 {B:Nat} {a w:World} {b j:Nat} (h:Below B a w) (hb:B<=b) (u:Value):Below B a (w.setCell ⟨b,j,none⟩ u):=h.setCell (p:=⟨b,j,none⟩) hb u
theorem AcD (ss:List ByteArray) (v:Value) (w:World) (h:Ls w v ss) (hn:ss.length<=1048576) :
  Calls Tryz.prog 76 #[v] w λe w'=>(∃u,e=.returned u/\LsO w' w.heap.size u ss)/\Below w.heap.size w w':=by
 obtain⟨a,c,rfl,hm,hz,hpos⟩:=h;have Hz:Hid (ss.length<=maxLen/\∀s∈ss,s.size<=maxLen):=⟨hm,hz⟩;clear hm hz;obtain⟨C,hC,hmk⟩:=Agt ss.length hn;have HC:Hid (C.size=ss.length):=hC;clear hC;go_enter Tryz.func76,Tryz.ntmps76
 go_wp2
 go_loopw [4] (λi w'=>∃k:Nat,k<=ss.length/\i=.int .i64 k/\StrsAt w' w.heap.size 0 (ss.take k)/\w'.there w.heap.size 0 ss.length/\w.heap.size<w'.heap.size/\Below w.heap.size w w') (λi _=>ss.length-(intOf i).toNat)
 case atStart=>exact⟨0,by omega,rfl,λi p hp=>by simp at hp,by rw[← HC.out];exact S2 _ _ _,by simp,by go_grown⟩
 case round =>
  obtain⟨k,hk,rfl,hra,hth,hlt,hB⟩:=hrel;by_cases hp:k<ss.length
  ·obtain⟨b,o,rfl,hS,hb⟩:=hpos (by omega)
   have c0:=(hB.cell (p:=⟨b,o+k,none⟩) hb).trans (hS.cell hp);have Hst:Hid (StrsAt (wr.setCell ⟨w.heap.size,k,none⟩ (.string ss[k])) w.heap.size 0 (ss.take (k+1))/\(wr.setCell ⟨w.heap.size,k,none⟩ (.string ss[k])).there w.heap.size 0 ss.length/\Below w.heap.size w (wr.setCell ⟨w.heap.size,k,none⟩ (.string ss[k]))):=⟨AiO hp hra hth,AiP hth,I7 hB (A3 _) _⟩
   obtain⟨⟨x0,d0⟩,f0⟩:(∃x,wr.cell? ⟨w.heap.size,k,none⟩=some x)/\wr.frozen? ⟨w.heap.size,k,none⟩=false:=by
    have:=hth k hp;rw[Nat.zero_add] at this;exact⟨Option.isSome_iff_exists.1 this.1,this.2⟩
   clear hra hth;generalize ss[k]=s0 at *;go_wp2_with fail
   go_roundw
   case rel=>exact⟨k+1,by omega,by go_num,Hst.out.1,Hst.out.2.1,by simpa using hlt,Hst.out.2.2⟩
   case measure=>simp[intOf];omega
  ·go_wp2_with fail
   go_ret
   exact⟨⟨_,rfl,w.heap.size,rfl,by rwa [D2 (by omega)] at hra,hth,A3 _,hlt,Hz.out⟩,hB⟩
theorem LsO.set {w:World} {base r j:Nat} {v u:Value} {ss:List ByteArray} (h:LsO w base v ss) (hr:r<base):LsO (w.setCell ⟨r,j,none⟩ u) base v ss:=h.kept (D9 (E1 _ _) _) hr
theorem LsO.shape {w:World} {base:Nat} {v:Value} {ss:List ByteArray} (h:LsO w base v ss):∃b,v=.slice (some ⟨b,0,none⟩) ss.length ss.length:=by
 obtain⟨b,rfl,-⟩:=h;exact⟨b,rfl⟩
theorem Ad8 (ss:List ByteArray) (va vb:Value) (w:World) (ha:Ls w va ss) (hb:Ls w vb ss) :
  Calls Tryz.prog 87 #[va,vb] w λe w'=>e=.returned (.bool true)/\Below w.heap.size w w':=by
 obtain⟨a1,c1,rfl,hn,-,hp1⟩:=ha;obtain⟨a2,c2,rfl,-,-,hp2⟩:=hb;unfold maxLen at hn;go_enter Tryz.func87,Tryz.ntmps87
 go_wp2
 go_loopw [5] (λi w'=>∃k:Nat,k<=ss.length/\i=.int .i64 k/\Below w.heap.size w w') (λi _=>ss.length-(intOf i).toNat)
 case atStart=>exact⟨0,by omega,rfl,A4 _ _⟩
 case round =>
  obtain⟨k,hk,rfl,hB⟩:=hrel;by_cases hp:k<ss.length
  ·obtain⟨g1,o1,rfl,hS1,hg1⟩:=hp1 (by omega)
   obtain⟨g2,o2,rfl,hS2,hg2⟩:=hp2 (by omega);have c1:=(hS1.up hB hg1).cell hp;have c2:=(hS2.up hB hg2).cell hp;go_wp2_with fail
   go_quiet (fail)
   go_wp2_with fail
   go_roundw
   case rel=>exact⟨k+1,by omega,by go_num,E7 hB nq⟩
   case measure=>simp[intOf];omega
  ·go_wp2_with fail
   go_ret
   exact⟨rfl,hB⟩
def Thr (w w':World):Prop:=∀b n,b<w.heap.size->w.there b 0 n->w'.there b 0 n
theorem Thr.trans {a b c:World} (h:Thr a b) (hz:a.heap.size<=b.heap.size) (k:Thr b c):Thr a c:=λx n hx ht=>k x n (A1 hx hz) (h x n hx ht)
theorem Aee {w w':World} (hb:Below w.heap.size w w'):Thr w w':=λ_ _ hx ht=>I3 ht hb hx
theorem S5 {w:World} {b j:Nat} {u:Value}:Thr w (w.setCell ⟨b,j,none⟩ u):=λx n _ ht=>by
 have:=World.there_setCells ht b j [u];simpa [World.setCells] using this
theorem Ad9 (N bb:Nat) (m:Int) (w:World) (ht:w.there bb 0 N) (hb:bb<w.heap.size) (hN:N<=1048576) (hm:1<=m) (hm9:m<=4000000000000) :
  Calls Tryz.prog 91 #[.slice (some ⟨bb,0,none⟩) N N,.int .i64 m] w λe w'=>e=.returned (.int .i64 (m+N))/\w.grownBy w' (some bb)/\Thr w w':=by
 go_enter Tryz.func91,Tryz.ntmps91
 go_wp2
 go_loopw [1,5] (λkk i w'=>∃k:Nat,k<=N/\i=.int .i64 k/\kk=.int .i64 (m+k)/\w.grownBy w' (some bb)/\Thr w w') (λ_ i _=>N-(intOf i).toNat)
 case atStart=>exact⟨0,by omega,rfl,by simp,E1 _ _,λ_ _ _ h=>h⟩
 case round =>
  obtain⟨k,hk,rfl,rfl,hG,hR⟩:=hrel;by_cases hp:k<N
  ·go_wp2_with fail
   refine (F8 (m+k) wr (by omega)).mono ?_;rintro e w1 ⟨rfl,hB1⟩;have hz:=hG.size;have hG1:=E3 hG (K1 (r:=some bb) hB1);have hR1:=hR.trans hz (Aee hB1);have hc:=hR1 bb N hb ht k hp;rw[Nat.zero_add] at hc;obtain⟨x0,c0⟩:=Option.isSome_iff_exists.1 hc.1;have f0:=hc.2;have hz1:=hG1.size;have hR2:Hid (Thr w (w1.setCell ⟨bb,k,none⟩ (.string (mkB (m+k))))):=hR1.trans hz1 S5;have hG2:=D9 (off:=k) hG1 (.string (mkB (m+k)));clear hG hR hB1 hR1 hc hG1;generalize mkB (m+k)=mb at *;go_wp2_with fail
   go_roundw
   case rel=>exact⟨k+1,by omega,by go_num,by go_num,hG2,hR2.out⟩
   case measure=>simp[intOf];omega
  ·obtain rfl:k=N:=by omega
   go_wp2_with fail
   go_ret
   exact⟨rfl,hG,hR⟩
end Go.Proofs.YtgecdacgmehmbaaGreatDoor
namespace Go.Proofs.YtgecdacgmehmbaaGreatDoor
open Go
theorem AiQ {P:Program} {ops:Array Oper} {Q:Exit->Act->World->Prop} {md:Region.Mode} {S:World->Prop} {L i j l:Nat} {o o' o'':Oper} {fuel:Nat} {listed:Array Bool} {a:Act} {w:World} (hr:Region.ready md ops listed=[i,j,l]) (ho:ops[i]?=some o) (ho':ops[j]?=some o') (ho'':ops[l]?=some o'')
  (h:∀K':Act->World->Prop,Shut (∀a w,(i≠L->S w)->AnyX P md ops Q S L fuel (listed.setIfInBounds i true) a w->K' a w)->if Region.wanted o (yielded ops a.tmps)=true then Oper.wp P o a w K' Q else K' (a.put o.dst undef) w)
  (h':∀K':Act->World->Prop,Shut (∀a w,(j≠L->S w)->AnyX P md ops Q S L fuel (listed.setIfInBounds j true) a w->K' a w)->if Region.wanted o' (yielded ops a.tmps)=true then Oper.wp P o' a w K' Q else K' (a.put o'.dst undef) w)
  (h'':∀K':Act->World->Prop,Shut (∀a w,(l≠L->S w)->AnyX P md ops Q S L fuel (listed.setIfInBounds l true) a w->K' a w)->if Region.wanted o'' (yielded ops a.tmps)=true then Oper.wp P o'' a w K' Q else K' (a.put o''.dst undef) w) :
  AnyX P md ops Q S L (fuel+1) listed a w:=by
 refine⟨λh0=>(by rw[hr] at h0;cases h0),λk hk=>?_⟩;rw[hr] at hk;rcases (by simpa using hk:k=i∨k=j∨k=l) with rfl|rfl|rfl
 ·exact wpOp_step ho λK' hK=>h K' λa w hS hA=>hK a w ⟨hS,hA⟩
 ·exact wpOp_step ho' λK' hK=>h' K' λa w hS hA=>hK a w ⟨hS,hA⟩
 ·exact wpOp_step ho'' λK' hK=>h'' K' λa w hS hA=>hK a w ⟨hS,hA⟩
end Go.Proofs.YtgecdacgmehmbaaGreatDoor
