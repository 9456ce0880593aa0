/- The program's chapter 13: copies. -/
import Derived.Test.YtcgkgmmclfeohaaGreatDoorJ12
import Derived.Test.YtcgkgmmclfeohaaGreatDoorKf
import Derived.Test.YtcgkgmmclfeohaaGreatDoorJ7
import Derived.Test.YtcgkgmmclfeohaaGreatDoorJ3
import Derived.Laws.Bits64
import Derived.Deep.QuietTactic
import Derived.BigQuiet
import Derived.Test.YtcgkgmmclfeohaaGreatDoorKs2
set_option maxRecDepth 20000
set_option maxHeartbeats 4000000
namespace Go.Proofs.YtcgkgmmclfeohaaGreatDoor
open Go.Proofs.Tryz
open Go.RowKit
variable{ac:Act}{ops:Array Oper}{x:Ba}{b:Bk}{nm s:BA}{nd ss:List BA}{rest:List Oper}{xs:List Value}{N base c e g h i k len m n p rb size:Nat}{o:Oper}{a:Option Addr}{P:Program}{u v:Value}{w w':World}
theorem KA{t u ty e e':TypeId}(ht:P.underlying t=some (.slice e))(hu:P.underlying u=some (.slice e'))(v x:Value):
  (Builtin.append_ #[t,u] ty #[v,x]).run P w=(Builtin.append_ #[t,t] ty #[v,x]).run P w:=by
 unfold Builtin.append_;simp only[List.getElem?_toArray,List.getElem?_cons_zero,List.getElem?_cons_succ,Sem.run_bind,run_underlying ht,Result.andThen_ok];cases v with
 | slice a n c=>simp only[Sem.run_bind,run_underlying ht,run_underlying hu,Result.andThen_ok,Sem.run_pure]
 | _=>rfl
theorem BJ(w:World){Q:Exit->Act->World->Prop}(hg:o.guard=none)(s x:Operand)(t u:TypeId)(hop:o.op=.call {callee:=.builtin .append,args:=#[s,x],argTypes:=#[t,u]})
  (v xv v':Value) (w':World) (hs:ac.eval s=v) (hx:ac.eval x=xv) (hr:(Builtin.append_ #[t,u] o.type #[v,xv]).run P w=.ok v' w') (h:wpList P ops Q rest (ac.put o.dst v') w'):wpList P ops Q (o::rest) ac w:=by
 refine wpList_plain hg λK hK=>?_;unfold Oper.wp;simp[execOp,hop,resolve,invoke,builtin,hs,hx,hr,Result.andThen];exact hK _ _ h
theorem DY(ss:List BA)(v:Value)(w:World)(h:Ls w v ss)(hn:ss.length<=1048576):
  Calls prog 79 #[v] w λe w'=>(∃u,e=.returned u/\G3 w' w.heap.size u ss)/\Up w w':=by
 obtain⟨a,c,rfl,-,-,a1⟩:=h;obtain⟨ii,hi,a3,a4,a5⟩:=info_parts Bg;have ho:G3 w w.heap.size (.slice none 0 0) []:=B9 _ _ _ _;rcases C4 ss.length with h0|h0
 ·obtain rfl:=C5.1 h0;simp only[List.length_nil];have hr:=(KA (w:=w) (ty:=23) underlying23 underlying49 (.slice none 0 0) (.slice a 0 c)).trans (Dr w.heap.size 23 23 9 ii 1 underlying23 hi _ 0 [] ho a c);clear a1 hn h0;go_in;go_wp2_with (at_builtin;refine BJ _ rfl _ _ _ _ rfl _ _ _ _ rfl rfl hr ?_)
  go_ret;exact⟨⟨_,rfl,ho⟩,A4 _ _⟩
 ·obtain⟨g,o,rfl,hS,hg⟩:=a1 h0;obtain⟨v1,w1,hr,a0,a2,-⟩:=run_append_own (P:=prog) w w.heap.size 23 23 9 ii _ 1 16 underlying23 hi a3 a4 a5 rfl (by decide) (.slice none 0 0) 0 [] ho ⟨g,o,none⟩ ss.length c (ss.map Value.string) (by simp) (CD hS) (Mc ss) (by unfold maxLen;omega) (by omega) (A3 _);have a6:=(KA (w:=w) (ty:=23) underlying23 underlying49 (.slice none 0 0) (.slice (some ⟨g,o,none⟩) ss.length c)).trans hr;have a7:=O6 (A4 _ _) ho a2 (A3 _);have a8:G3 w1 w.heap.size v1 ss:=by unfold G3;simpa using a0
  clear a0 a2 hr a1;go_in;go_wp2_with (at_builtin;refine BJ _ rfl _ _ _ _ rfl _ _ _ _ rfl rfl a6 ?_)
  go_ret;exact⟨⟨_,rfl,a8⟩,a7⟩
theorem FY(b:Bk)(v:Value)(w:World)(h:K6 w v b)(hn:b.tg.length<=100)(hn5:b.bs.length<=100)(hsm:∀y∈b.bs,y.has.length<=100/\y.nd.length<=100):
  Calls prog 60 #[v] w λe w'=>(∃a1 c1 a2 c2 ps,e=.returned (.agg #[Vz a1 b.tg.length c1,Vz a2 b.bs.length c2])/\BM w' w.heap.size (Vz a2 b.bs.length c2) ps/\ps.map (·.1)=b.bs/\M2 w' w.heap.size none ((Vz a1 b.tg.length c1,b.tg)::V6 ps))/\Up w w':=by
 obtain⟨a1,c1,a2,c2,rfl,h1,h2⟩:=h.parts;obtain⟨ii,hi,k4,k5,k6⟩:=info_parts CR;obtain⟨W1,g5,kA,kR,d5,k7⟩:=cbE2 w [Vz a1 (b).tg.length c1,Vz a2 (b).bs.length c2] 26 [Nz,Nz] 26;go_in;go_upto_region 1 with fail;try rw[g5]
 clear g5;have l1:=h1.up d5;have l2:=h2.up d5;obtain⟨e0,e1⟩:=kA.c2';clear h h1 h2;go_wp2_with fail;refine (DY b.tg _ _ l1 (by omega)).mono ?_;rintro e w2 ⟨⟨tu,rfl,g4⟩,c6⟩;obtain⟨a7,a8,rfl⟩:=g4.lst.shape;have m8:=c6.size;have h3:=kA.up c6 (by omega);have h4:=kR.up c6 (by omega);have k9:=l2.up c6;have e5:=D4 d5 c6;have c8:w.heap.size+1<W1.heap.size:=by omega
 have e6:w.heap.size<=W1.heap.size:=by omega
 have h5:M2 w2 W1.heap.size (some w2.heap.size) [((Vz a7 b.tg.length a8),b.tg)]:=((Oo w2 W1.heap.size none).mk1 g4).avoid (A3 _);clear e0 e1 l1 l2 kA kR k7 d5 c6 g4;go_upto_region 2 with fail;obtain⟨W3,g6,kX,d6,k8⟩:=cbE1 w2 [(Vz a7 b.tg.length a8),Nz] 26;try rw[g6]
 clear g6 k8;have h6:=h5.up d6;clear h5;obtain⟨f0,f1⟩:=h3.c2';have l0:=h3.2.2;have f1:=(d6.cell (p:=⟨w.heap.size,1,none⟩) l0).trans f1;obtain⟨-,c7⟩:=k9.at;go_wp2_with fail;(try dsimp only[Iz,Sz,Sy,Nz,Vz,Tz,Ez,Pz]);go_loopw [5,13] (λ_ i w'=>∃(k:Nat)(ps:List Bv)(xv:Value),k<=b.bs.length/\i=.int .i64 k/\ps.map (·.1)=b.bs.take k/\CB w' w2.heap.size [(Vz a7 b.tg.length a8),xv]/\w'.ownsRow (w2.heap.size+1) 57 3 xv ps.length (E4 ps)/\(∀p∈ps,p.1.nm.size<=maxLen)/\Up w2 w'/\M2 w' W1.heap.size (some w2.heap.size) (((Vz a7 b.tg.length a8),b.tg)::V6 ps)) (λ_ i _=>b.bs.length-(intOf i).toNat)
 case atStart=>exact⟨0,[],Nz,by omega,rfl,by simp,kX,B9 _ _ _ _,λp hp=>by simp at hp,d6,h6⟩
 case round =>
  clear kX d6 h6 f1;obtain⟨k,ps,xv,hk,rfl,e4,kX,a5,g7,hB,hF⟩:=hrel;have Hps:Hid (ps.map (·.1)=b.bs.take k):=e4;have Hnm:Hid (∀p∈ps,p.1.nm.size<=maxLen):=g7;have h7:ps.length=k:=by have:=congrArg List.length e4;simp at this;omega
  have l5:ps.length<=100:=by omega
  have Hpl:Hid (ps.length=k):=h7;clear e4 g7 h7;by_cases hp:k<b.bs.length
  ·obtain⟨bb,o,rfl,hS,hb⟩:=c7 (by omega);obtain⟨a3,d3,a4,d4,c3,c4,c5,l3,l4,z0⟩:=(hS.at hp).cells;have c3:=(hB.cell (p:=⟨bb,o+k*3,none⟩) hb).trans c3;have c4:=(hB.cell (p:=⟨bb,o+k*3+1,none⟩) hb).trans c4;have c5:=(hB.cell (p:=⟨bb,o+k*3+2,none⟩) hb).trans c5;obtain⟨s1,s2⟩:=hsm b.bs[k] (by simp);have L4:Hid (∀X,Up w2 X->Ls X (Vz a4 (b.bs[k]).nd.length d4) (b.bs[k]).nd):=λX hX=>l4.up hX;have l3:=l3.up hB;have HX:Hid (b.bs.take (k+1)=b.bs.take k++[b.bs[k]]):=A7 hp;have Hz0:Hid ((b.bs[k]).nm.size<=maxLen):=z0;generalize b.bs[k]=x0 at *;have m9:=hB.size;go_upto_region 5 with fail;obtain⟨W4,g8,kB,b6,m3⟩:=cbE1 wr [Tz x0.nm,Vz a3 x0.has.length d3,Vz a4 x0.nd.length d4] 57;try rw[g8]
   clear g8 c3 c4 c5 hS z0;have l6:=kX.2.2;have h8:=kX.up b6 l6;have b0:=P0 a5 b6;have e7:=hF.up b6;have e8:=(hF.avoid (A3 _)).up b6
   have h9:∀g,xv.ownBlock=some g->some g≠some wr.heap.size:=λg hg e=>by
    have h1:=(a5.lt g hg).2;have:g=wr.heap.size:=by simpa using e
    omega
   have i0:=D4 hB b6;have l3:=l3.up b6;have i1:=kB.2.2;have i2:w2.heap.size<W4.heap.size:=by omega
   have n0:W1.heap.size<=wr.heap.size:=by omega
   clear b6 kX a5 hF hB;obtain⟨⟨j0,j1,j2⟩,m0,m1,m2⟩:=kB.c3;go_wp2_with fail;refine (DY x0.has _ _ l3 (by omega)).mono ?_;rintro e W5 ⟨⟨hu,rfl,e2⟩,b5⟩;obtain⟨ah,ch,rfl⟩:=e2.lst.shape;have e9:=kB.up b5 i1;have i3:=h8.up b5 i2;have b1:=P0 b0 b5;have i4:=e7.new (e7.up b5) e2 (A3 _) (by omega) (FJ i2);have f2:=e8.new (e8.up b5) e2 (A3 _) (by omega) (FJ i1);have i5:=D4 i0 b5;have n1:=b5.size;clear j0 j1 j2 m0 m1 m2 kB h8 b0 e7 e8 i0 b5 e2 l3;obtain⟨⟨j0,j1,j2⟩,m0,m1,m2⟩:=e9.c3;go_upto_region 6 with fail;have d7:CB (W5.setCell ⟨wr.heap.size,1,none⟩ (Vz ah x0.has.length ch)) wr.heap.size [Tz x0.nm,Vz ah x0.has.length ch,Vz a4 x0.nd.length d4]:=e9.set (j:=1) (by simp);have i6:w2.heap.size≠wr.heap.size:=by omega
   have f3:=i3.other (q:=wr.heap.size) (j:=1) (u:=Vz ah x0.has.length ch) i6;have b2:=P4 b1 (E6 (rb:=wr.heap.size) (off:=1) (F4 W5 _) (Vz ah x0.has.length ch)) h9;have f4:=i4.set2 f2 1 (Vz ah x0.has.length ch);have f5:=f2.set 1 (Vz ah x0.has.length ch);have f6:Up w2 (W5.setCell ⟨wr.heap.size,1,none⟩ (Vz ah x0.has.length ch)):=i5.setCell (p:=⟨wr.heap.size,1,none⟩) (by show _<=wr.heap.size;omega) _;have l4:Ls (W5.setCell ⟨wr.heap.size,1,none⟩ (Vz ah x0.has.length ch)) (Vz a4 x0.nd.length d4) x0.nd:=L4.out _ f6;have l7:(W5.setCell ⟨wr.heap.size,1,none⟩ (Vz ah x0.has.length ch)).heap.size=W5.heap.size:=by simp
   clear j0 j1 j2 m0 m1 m2 e9 i3 b1 i4 f2 i5;generalize W5.setCell ⟨wr.heap.size,1,none⟩ (Vz ah x0.has.length ch)=W6 at *;have d0:=d7.2.2;have i7:=f3.2.2;obtain⟨⟨j0,j1,j2⟩,m0,m1,m2⟩:=d7.c3;clear l7;go_wp2_with fail;refine (DY x0.nd _ _ l4 (by omega)).mono ?_;rintro e W7 ⟨⟨nu,rfl,e3⟩,b9⟩;obtain⟨an,cn,rfl⟩:=e3.lst.shape;have f7:=d7.up b9 d0;have i8:=f3.up b9 i7;have b3:=P0 b2 b9;have i9:=f4.new (f4.up b9) e3 (A3 _) (by omega) (FJ i7);have j3:=f5.new (f5.up b9) e3 (A3 _) (by omega) (FJ d0);have j4:=D4 f6 b9;clear j0 j1 j2 m0 m1 m2 d7 f3 b2 f4 f5 f6 b9 e3 l4;obtain⟨⟨j0,j1,j2⟩,m0,m1,m2⟩:=f7.c3;go_upto_region 7 with fail;have j5:CB (W7.setCell ⟨wr.heap.size,2,none⟩ (Vz an x0.nd.length cn)) wr.heap.size [Tz x0.nm,Vz ah x0.has.length ch,Vz an x0.nd.length cn]:=f7.set (j:=2) (by simp);have d8:=i8.other (q:=wr.heap.size) (j:=2) (u:=Vz an x0.nd.length cn) i6;have a6:=P4 b3 (E6 (rb:=wr.heap.size) (off:=2) (F4 W7 _) (Vz an x0.nd.length cn)) h9;have j6:=i9.set2 j3 2 (Vz an x0.nd.length cn);have j7:Up w2 (W7.setCell ⟨wr.heap.size,2,none⟩ (Vz an x0.nd.length cn)):=j4.setCell (p:=⟨wr.heap.size,2,none⟩) (by show _<=wr.heap.size;omega) _;clear j0 j1 j2 m0 m1 m2 f7 i8 b3 i9 j3 j4;generalize W7.setCell ⟨wr.heap.size,2,none⟩ (Vz an x0.nd.length cn)=W8 at *;obtain⟨⟨j0,j1,j2⟩,-⟩:=j5.c3;obtain⟨⟨g9,h0⟩,-⟩:=d8.c2;obtain⟨ax,cx,rfl⟩:=L9 a6;have a0:=World.ownsRow.alloc a6 (Kz [Tz x0.nm,Vz ah x0.has.length ch,Vz an x0.nd.length cn] 57);have l8:=d8.2.2;have d9:Up W8 (W8.alloc (Kz [Tz x0.nm,Vz ah x0.has.length ch,Vz an x0.nd.length cn] 57)):=(A4 _ _).alloc (A3 _) _;have j8:=d8.up d9 l8;have j9:=j6.up d9;have k0:w2.heap.size+1<=(W8.alloc (Kz [Tz x0.nm,Vz ah x0.has.length ch,Vz an x0.nd.length cn] 57)).heap.size:=by simp;omega
   have k1:Up w2 (W8.alloc (Kz [Tz x0.nm,Vz ah x0.has.length ch,Vz an x0.nd.length cn] 57)):=D4 j7 d9;go_wp2_with (at_builtin;refine wpList_append_own _ rfl _ _ 24 rfl (w2.heap.size+1) 57 ii _ 3 64 underlying24 hi k4 k5 k6 rfl (by decide) _ _ _ rfl a0 ⟨W8.heap.size,0,none⟩ 1 1 [Tz x0.nm,Vz ah x0.has.length ch,Vz an x0.nd.length cn] rfl rfl (λj u hj=>Qv _ _ _ _ _ hj) (by simp[Value.oneCell']) (by unfold maxLen;omega) (by omega) k0 ?_)
   intro v9 W9 hown9 hgr9 _;have f8:=j8.kept hgr9 (Af a0 (by omega));have k2:=j9.row a0 hgr9;have k3:Up w2 W9:=O6 k1 a0 hgr9 (by omega);have d1:=k2.turn.perm (Pt ps ((x0,Vz ah x0.has.length ch,Vz an x0.nd.length cn):Bv) [((Vz a7 b.tg.length a8),b.tg)])
   have b4:W9.ownsRow (w2.heap.size+1) 57 3 v9 (ps++[((x0,Vz ah x0.has.length ch,Vz an x0.nd.length cn):Bv)]).length (E4 (ps++[((x0,Vz ah x0.has.length ch,Vz an x0.nd.length cn):Bv)])):=by
    rw[Gw,A9];exact hown9
   have HM:Hid ((ps++[((x0,Vz ah x0.has.length ch,Vz an x0.nd.length cn):Bv)]).map (·.1)=b.bs.take (k+1)):=by
    show _=_
    rw[HX.out,List.map_append,Hps.out];rfl
   have HN:Hid (∀p∈ps++[((x0,Vz ah x0.has.length ch,Vz an x0.nd.length cn):Bv)],p.1.nm.size<=maxLen):=λp hp=>by
    rcases C9.1 hp with h|h
    ·exact Hnm.out p h
    ·obtain rfl:p=_:=by simpa using h
     exact Hz0.out
   obtain⟨a9,c9,rfl⟩:=L9 hown9;clear hown9 hgr9 a0 j8 j9 k1 d9 j6 a6 d8 j7 g9 h0 j0 j1 j2 k2 j5 k0;obtain⟨⟨y0,y1⟩,g0,g1⟩:=f8.c2;have f9:CB (W9.setCell ⟨w2.heap.size,1,none⟩ (Vz a9 (ps.length+1) c9)) w2.heap.size [(Vz a7 b.tg.length a8),Vz a9 (ps.length+1) c9]:=f8.set (j:=1) (by simp);have b7:=J0 b4 (E6 (rb:=w2.heap.size) (off:=1) (F4 W9 _) (Vz a9 (ps.length+1) c9)) (Nat.lt_succ_self _);have g2:=d1.set 1 (Vz a9 (ps.length+1) c9);have g3:Up w2 (W9.setCell ⟨w2.heap.size,1,none⟩ (Vz a9 (ps.length+1) c9)):=k3.setCell (p:=⟨w2.heap.size,1,none⟩) (A3 _) _;clear f8 b4 d1 k3;go_wp2_with fail;go_roundw
   case rel=>exact⟨k+1,_,_,by omega,by go_num,HM.out,f9,b7,HN.out,g3,g2⟩
   case measure=>simp[intOf];omega
  ·obtain rfl:k=b.bs.length:=by omega
   have kR:=h4.up hB h4.2.2;obtain⟨⟨g9,h0⟩,-⟩:=kX.c2;obtain⟨⟨m4,m5⟩,m6,m7⟩:=kR.c2;have Hps2:Hid (ps.map (·.1)=b.bs):=by show _=_;rw[Hps.out,List.take_length]
   have l9:=D4 e5 hB;obtain⟨ax,cx,rfl⟩:=L9 a5;have Hlen:Hid (ps.length=b.bs.length):=Hpl.out;clear Hpl c7;go_wp2_with fail;refine CF results60 underlying26 rfl M4 kR rfl ?_;have d2:=N1 (J0 (J0 a5 (E6 (rb:=w.heap.size+1) (off:=0) (F4 _ _) (Vz a7 b.tg.length a8)) (by omega)) (E6 (rb:=w.heap.size+1) (off:=1) (F4 _ _) (Vz ax ps.length cx)) (by omega)) (show w.heap.size<=w2.heap.size+1 by omega);have b8:=((hF.free.setLow c8 0 (Vz a7 b.tg.length a8)).setLow c8 1 (Vz ax ps.length cx)).low e6;have hW:=b8.bsW (fs:=[((Vz a7 b.tg.length a8),b.tg)]) d2 Hnm.out;rw[Hlen.out] at hW b8 ⊢
   exact⟨⟨_,_,_,_,ps,rfl,hW,Hps2.out,b8⟩,I4 l9 (Nat.le_succ _) _ _⟩
theorem MZ{P:Program}{a:Act}{w:World}{K:Act->World->Prop}{Q:Exit->Act->World->Prop}{E:Prop}
  (hw:Region.wanted o (yielded ops a.tmps)=true) (s x:Operand) (t u:TypeId) (hop:o.op=Op.call {callee:=Callee.builtin Builtin.append,args:=#[s,x],argTypes:=#[t,u]})
  (v xv v':Value) (w':World) (hs:a.eval s=v) (hx:a.eval x=xv) (hr:(Builtin.append_ #[t,u] o.type #[v,xv]).run P w=.ok v' w') (hK:K (a.put o.dst v') w') :
  if Region.wanted o (yielded ops a.tmps)=true then Oper.wp P o a w K Q else E:=by
 rw[if_pos hw];unfold Oper.wp;simp[execOp,hop,resolve,invoke,builtin,hs,hx,hr,Result.andThen];exact hK
theorem Mm(w:World){Q:Exit->Act->World->Prop}(hg:o.guard=none)(x:Operand)(t:TypeId)(hop:o.op=.call {callee:=.builtin .clear,args:=#[x],argTypes:=#[t]})
  (xv v':Value) (w':World) (hx:ac.eval x=xv) (hr:(Builtin.clear_ #[t] o.type #[xv]).run P w=.ok v' w') (h:wpList P ops Q rest (ac.put o.dst v') w'):wpList P ops Q (o::rest) ac w:=by
 refine wpList_plain hg λK hK=>?_;unfold Oper.wp;simp[execOp,hop,resolve,invoke,builtin,hx,hr,Result.andThen];exact hK _ _ h
theorem Aax(h:w.ownsRow base e size (Sz g n c) n xs)(hm:m<=n):w.ownsRow base e size (Sz g m c) m (xs.take (m*size)):=by
 refine⟨?_,?_⟩
 ·rw[B8,h.1];exact Nat.min_eq_left (Nat.mul_le_mul_right _ hm)
 ·rcases h.2 with⟨h0,_⟩|⟨g',cap,cur,h',h1,h2,h3,h4,h5,h6⟩
  ·simp at h0
  ·obtain⟨e1,-,rfl⟩:=Value.slice.inj h';obtain rfl:g=g':=by simpa using e1
   refine .inr ⟨g,c,cur,rfl,h1,h2,by omega,h4,h5,?_⟩;rw[← h6,List.take_take,Nat.min_eq_left (Nat.mul_le_mul_right _ hm)]
theorem Aay(h:w.ownsRow base e size (.slice (some ⟨g,0,none⟩) n c) n xs)(j:Nat)(hj:j<c*size):(∃u,w.cell? ⟨g,j,none⟩=some u)/\w.frozen? ⟨g,j,none⟩=false:=by
 refine⟨?_,h.frozenAt j⟩;rcases h.2 with⟨h0,_⟩|⟨g',cap,cur,h',h1,h2,h3,h4,h5,h6⟩
 ·simp at h0
 ·obtain⟨e1,-,rfl⟩:=Value.slice.inj h';obtain rfl:g=g':=by simpa using e1
  rw[cell_of_row w g j cur e (0,0) h2];exact⟨cur[j]'(by omega),Array.getElem?_eq_getElem (by omega)⟩
theorem Wb(h:w.ownsRow base 57 3 (Sz g n c) n xs)(hn:n<c)(cc:Nat)(ty:TypeId):
  ∃w',(Builtin.clear_ #[24] ty #[Sy g (n*3) 1 cc]).run prog w=.ok (.tuple #[]) w'/\w'.ownsRow base 57 3 (Sz g n c) n xs/\w.grownBy w' (some g):=by
 have st:∀(W:World),W.ownsRow base 57 3 (Sz g n c) n xs->∀(j:Nat)(u:Value),u.oneCell'=true->j<3->(store ⟨g,n*3+j,none⟩ u).run prog W=.ok () (W.setCell ⟨g,n*3+j,none⟩ u)/\(W.setCell ⟨g,n*3+j,none⟩ u).ownsRow base 57 3 (Sz g n c) n xs/\W.grownBy (W.setCell ⟨g,n*3+j,none⟩ u) (some g):=λW hW j u hu hj=>by
  obtain⟨⟨a0,ho⟩,hf⟩:=Aay hW (n*3+j) (by omega);obtain⟨s1,s2⟩:=World.ownsRow.stored hW (n*3+j) u;have hl:=hW.1;rw[List.set_eq_of_length_le (by omega)] at s1;refine⟨?_,s1,s2⟩;rw[run_store prog W ⟨g,n*3+j,none⟩ _ _ hu];simp[ho,hf]
 obtain⟨r0,o0,g0⟩:=st w h 0 (Ez) rfl (by omega);obtain⟨r1,o1,g1⟩:=st _ o0 1 (Nz) rfl (by omega);obtain⟨r2,o2,g2⟩:=st _ o1 2 (Nz) rfl (by omega);refine⟨_,?_,o2,S3 g0 (S3 g1 g2)⟩
 have hs:(storeCells ⟨g,n*3,none⟩ [Ez,Nz,Nz]).run prog w=.ok () (((w.setCell ⟨g,n*3+0,none⟩ (Ez)).setCell ⟨g,n*3+1,none⟩ (Nz)).setCell ⟨g,n*3+2,none⟩ (Nz)):=by
  simp only[Nat.add_zero] at r0 r1 r2 ⊢
  simp[storeCells,Addr.add,r0,r1,r2,Result.andThen]
 simp[Builtin.clear_,run_underlying underlying24,Builtin.zeroCells,Value.cells,Result.andThen];have hm:List.map (λi=>([Tz ⟨#[]⟩,Vz none 0 0,Vz none 0 0][i % 3]?).getD default) (List.range 3)=[Ez,Nz,Nz]:=by simp[List.range,List.range.loop]
 rw[hm,hs];simp
end Go.Proofs.YtcgkgmmclfeohaaGreatDoor
namespace Go.Proofs.YtcgkgmmclfeohaaGreatDoor
open Go.Proofs.Tryz
variable{ac:Act}{ops:Array Oper}{x:Ba}{b:Bk}{nm s:BA}{nd ss:List BA}{rest:List Oper}{xs:List Value}{N base c e g h i k len m n p rb size:Nat}{o:Oper}{a:Option Addr}{P:Program}{u v:Value}{w w':World}
def X8(b:Bk)(p:Nat)(f:Ba->Ba):Bk:=match b.bs[p]? with
 | some x=>⟨b.tg,b.bs.set p (f x)⟩
 | none=>b
theorem BQ{f:Ba->Ba}(h:b.bs[p]?=some x):X8 b p f=⟨b.tg,b.bs.set p (f x)⟩:=by simp[X8,h]
def N8(b:Bk)(nm:BA):List BA:=((b.bs[F3 b nm]?).map (·.nd)).getD []
theorem BL(h:b.bs[F3 b nm]?=some x):N8 b nm=x.nd:=by simp[N8,h]
def R6(nd:List BA)(x:Ba):Ba:=⟨x.nm,x.has.filter (D7 nd),nd⟩
def Y8(has tg:List BA):List BA:=tg.foldl U7 has
def P7(tg:List BA)(x:Ba):Ba:=⟨x.nm,Y8 x.has tg,x.nd⟩
theorem TD(has tg:List BA)(k:Nat)(hk:k<tg.length):Y8 has (tg.take (k+1))=U7 (Y8 has (tg.take k)) tg[k]:=by
 unfold Y8;rw[A7 hk,List.foldl_append];rfl
theorem Js(has:List BA):∀tg:List BA,(Y8 has tg).length<=has.length+tg.length:=by
 intro tg;induction tg generalizing has with
 | nil=>simp[Y8]
 | cons x r ih =>
  have h1:=ih (U7 has x);have h2:=Aau has x;simp only[Y8,List.foldl_cons,List.length_cons] at *;omega
theorem Aaz(ss:List BA)(x:BA):∀s∈U7 ss x,s∈ss∨s=x:=by
 induction ss with
 | nil=>intro s hs;simp[U7] at hs;exact .inr hs
 | cons y r ih =>
  intro s hs;simp only[U7] at hs;split at hs
  ·rcases List.mem_cons.1 hs with h|h
   ·exact .inl (by simp[h])
   ·rcases ih s h with h|h
    ·exact .inl (by simp[h])
    ·exact .inr h
  ·split at hs
   ·exact .inl hs
   ·rcases List.mem_cons.1 hs with h|h
    ·exact .inr h
    ·exact .inl h
theorem EV(has:List BA):∀tg:List BA,∀s∈Y8 has tg,s∈has∨s∈tg:=by
 intro tg;induction tg generalizing has with
 | nil=>intro s hs;exact .inl hs
 | cons x r ih =>
  intro s hs;rcases ih (U7 has x) s hs with h|h
  ·rcases Aaz has x s h with h|h
   ·exact .inl h
   ·exact .inr (by simp[h])
  ·exact .inr (by simp[h])
noncomputable def AF(b:Bk)(nm:BA)(nd:List BA):Int :=
 if J6 b=false then 1 else if D7 (I3 b.bs) nm=false then 3 else if pB (J3 nd (N8 b nm))=false then 2 else 0
noncomputable def Z5(b:Bk)(nm:BA)(nd:List BA):Bk :=
 if J6 b=false then Z7 else if AF b nm nd=0 then X8 b (F3 b nm) (R6 nd) else b
theorem IW(h:J6 b=false):AF b nm nd=1/\Z5 b nm nd=Z7:=by simp[AF,Z5,h]
theorem EK(h:J6 b=true)(hm:D7 (I3 b.bs) nm=false):AF b nm nd=3/\Z5 b nm nd=b:=by simp[AF,Z5,h,hm]
theorem Fq(h:J6 b=true)(hm:D7 (I3 b.bs) nm=true)(hp:pB (J3 nd (N8 b nm))=false):AF b nm nd=2/\Z5 b nm nd=b:=by simp[AF,Z5,h,hm,hp]
theorem Fs(h:J6 b=true)(hm:D7 (I3 b.bs) nm=true)(hp:pB (J3 nd (N8 b nm))=true):AF b nm nd=0/\Z5 b nm nd=X8 b (F3 b nm) (R6 nd):=by
 have hc:AF b nm nd=0:=by simp[AF,h,hm,hp]
 exact⟨hc,by rw[Z5,h,if_neg (by simp),if_pos hc]⟩
theorem TE{f:BA->Bool}(hk:k<ss.length):(ss.take (k+1)).filter f=(ss.take k).filter f++(if f ss[k]=true then [ss[k]] else []):=by
 rw[A7 hk,List.filter_append];congr 1
 by_cases h:f ss[k]=true
 ·simp[h]
 ·simp[h]
end Go.Proofs.YtcgkgmmclfeohaaGreatDoor
namespace Go.Proofs.YtcgkgmmclfeohaaGreatDoor
open Go.Proofs.Tryz
open Go.RowKit
variable{ac:Act}{ops:Array Oper}{x:Ba}{b:Bk}{nm s:BA}{nd ss:List BA}{rest:List Oper}{xs:List Value}{N base c e g h i k len m n p rb size:Nat}{o:Oper}{a:Option Addr}{P:Program}{u v:Value}{w w':World}
def Jt(ss:List BA)(s:BA):Nat:=(ss.takeWhile λx=>Z9 x s).length
def Gx(ss:List BA)(s:BA)(i:Nat):Prop:=∀(k:Nat)(x:BA),k<i->ss[k]?=some x->Z9 x s=true
def EC(ss:List BA)(s:BA)(j:Nat):Prop:=∀(k:Nat)(x:BA),j<=k->ss[k]?=some x->Z9 x s=false
theorem Ux(hi:i<=ss.length)(hl:Gx ss s i)(hh:EC ss s i):Jt ss s=i :=
 Rz _ _ _ hi hl (λx hx=>hh i x (A3 _) hx)
theorem Aa0(ha:AM ss)(_:Gx ss s i)(hh:h<ss.length)(hs:Z9 ss[h] s=true):Gx ss s (h+1):=λk x hk hx=>by
 by_cases e:k=h
 ·subst e;rw[A0 hh] at hx;obtain rfl:=A5 hx;exact hs
 ·exact FV (El ha (h-k-1) k x _ hx (by rw[show k+1+(h-k-1)=h by omega];exact A0 hh)) hs
theorem Yh(ha:AM ss)(hh:h<ss.length)(hs:Z9 ss[h] s=false):EC ss s h:=λk x hk hx=>by
 by_cases e:k=h
 ·subst e;rw[A0 hh] at hx;obtain rfl:=A5 hx;exact hs
 ·cases hq:Z9 x s
  ·rfl
  ·have:=FV (El ha (k-h-1) h _ x (A0 hh) (by rw[show h+1+(k-h-1)=k by omega];exact hx)) hq;rw[hs] at this;cases this
theorem AcL(hl:Gx ss s i)(hh:EC ss s i)(ha:AM ss)(hi:i<ss.length):D7 ss s=((ss[i]).toList==s.toList):=by
 cases hq:((ss[i]).toList==s.toList)
 ·rw[Av];intro hm;obtain⟨k,hk,rfl⟩:=B7 hm;rcases Nat.lt_trichotomy k i with h1|h1|h1
  ·have:=hl k _ h1 (A0 hk);rw[DU] at this;cases this
  ·subst h1;simp at hq
  ·have h2:=El ha (k-i-1) i _ _ (A0 hi) (by rw[show i+1+(k-i-1)=k by omega];exact A0 hk);have h3:=hh i _ (A3 _) (A0 hi);rw[h2] at h3;cases h3
 ·exact Gt hi hq
theorem Aa1(hl:Gx ss s i)(hi:¬i<ss.length):D7 ss s=false:=by
 rw[Av];intro hm;obtain⟨k,hk,rfl⟩:=B7 hm;have:=hl k _ (by omega) (A0 hk);rw[DU] at this;cases this
theorem Yi(s:BA)(w:World):Calls prog 120 #[Tz s] w λe w'=>e=.returned (.bool false)/\w'=w:=by
 go_in;go_wp2;go_ret;exact⟨rfl,rfl⟩
theorem Wc(s:BA)(w:World):Calls prog 123 #[Tz s] w λe w'=>e=.returned (.bool false)/\w'=w:=by
 go_in;go_wp2;go_ret;exact⟨rfl,rfl⟩
theorem TF(a b:BA)(w:World):Calls prog 119 #[Tz a,Tz b] w λe w'=>e=.returned (.bool (Z9 a b))/\w'=w:=by
 have Hl:Hid (Z9 a b=Op.bytesLess a.toList b.toList):=rfl;go_in;go_wp2_with (go_at_call 123;refine Swz (Wc _ _) ?_)
 go_ret;exact⟨J5 Hl.out.symm,rfl⟩
theorem Mn{j:Nat}{a b:Bool}(h1:i=j)(h2:a=b):Ending.returned (.tuple #[Iz (i:Int),.bool a])=.returned (.tuple #[Iz (j:Int),.bool b]):=by rw[h1,h2]
theorem TG(ss:List BA)(v:Value)(s:BA)(w:World)(h:Ls w v ss)(ha:AM ss)(hn:ss.length<=1000):
  Calls prog 110 #[v,Tz s] w λe w'=>e=.returned (.tuple #[Iz (Jt ss s:Int),.bool (D7 ss s)])/\w'=w:=by
 obtain⟨a,c,rfl,-,-,a0⟩:=h;have Ha:Hid (AM ss):=ha;clear ha;go_in;go_wp2_with fail;(try dsimp only[Iz,Sz,Sy,Nz,Vz,Tz,Ez,Pz]);go_loopw [7,8,9] (λvi vj _ w'=>∃i j:Nat,i<=j/\j<=ss.length/\vi=.int .i64 i/\vj=.int .i64 j/\Gx ss s i/\EC ss s j/\w'=w) (λvi vj _ _=>(intOf vj).toNat-(intOf vi).toNat)
 case atStart=>exact⟨0,ss.length,by omega,by omega,rfl,rfl,λk x hk=>by omega,λk x hk hx=>by have:=(A2.1 hx).1;omega,rfl⟩
 case round =>
  obtain⟨i,j,a7,a4,rfl,rfl,a1,a2,hw⟩:=hrel;obtain rfl:=hw.symm;clear hw;have HL:Hid (Gx ss s i):=a1;have HH:Hid (EC ss s j):=a2;clear a1 a2;by_cases hp:i<j
  ·have a5:(i:Int)<(j:Int):=by omega
   obtain⟨b,o,rfl,hS,hb⟩:=a0 (by omega);have hm:(i+j) / 2<ss.length:=by omega
   have c0:=hS.cell hm;have HY:Hid (Z9 ss[(i+j) / 2] s=true->Gx ss s ((i+j) / 2+1)):=λhq=>Aa0 Ha.out HL.out hm hq;have HN:Hid (Z9 ss[(i+j) / 2] s=false->EC ss s ((i+j) / 2)):=λhq=>Yh Ha.out hm hq;generalize ss[(i+j) / 2]=s0 at *;obtain⟨m,a3,a8,a9⟩:∃m:Nat,(i+j) / 2=m/\i<=m/\m<j:=⟨_,rfl,by omega,by omega⟩;rw[a3] at c0 HY HN;have hI:((i:Int)+(j:Int)) / 2=(m:Int):=by omega
   have b0:m<ss.length:=by omega
   go_upto_region 5 with fail;try rw[hI]
   clear hI a3 hm;go_wp2_with fail;refine Swz (TF s0 s _) ?_;cases hq:Z9 s0 s
   ·have Hq:Hid (EC ss s m):=HN.out hq;go_wp2_with fail;go_roundw
    case rel=>exact⟨i,m,by omega,by omega,rfl,rfl,HL.out,Hq.out,by first|rfl|trivial⟩
    case measure=>simp[intOf];omega
   ·have Hq:Hid (Gx ss s (m+1)):=HY.out hq;go_wp2_with fail;go_roundw
    case rel=>exact⟨m+1,j,by omega,by omega,by go_num,rfl,Hq.out,HH.out,by first|rfl|trivial⟩
    case measure=>simp[intOf];omega
  ·obtain rfl:i=j:=by omega
   have a5:¬(i:Int)<(i:Int):=by omega
   have HI:Hid (Jt ss s=i):=Ux a4 HL.out HH.out;by_cases he:i<ss.length
   ·have a6:(i:Int)<(ss.length:Int):=by omega
    obtain⟨b,o,rfl,hS,hb⟩:=a0 (by omega);have c0:=hS.cell he;have HM:Hid (D7 ss s=((ss[i]).toList==s.toList)):=AcL HL.out HH.out Ha.out he;generalize ss[i]=s0 at *;cases hq:(s0.toList==s.toList)
    ·have Hm:Hid (D7 ss s=false):=by show _=_;rw[HM.out,hq]
     go_wp2_with (go_at_call 120;refine Swz (Yi _ _) ?_)
     go_returns
     exact⟨Mn HI.out.symm Hm.out.symm,rfl⟩
    ·have Hm:Hid (D7 ss s=true):=by show _=_;rw[HM.out,hq]
     go_wp2_with fail;go_returns
     exact⟨Mn HI.out.symm Hm.out.symm,rfl⟩
   ·have a6:¬(i:Int)<(ss.length:Int):=by omega
    have Hm:Hid (D7 ss s=false):=Aa1 HL.out he;go_wp2_with fail;go_returns
    exact⟨Mn HI.out.symm Hm.out.symm,rfl⟩
theorem Ft(b:Bk)(v:Value)(nm:BA)(w:World)(h:K6 w v b)(hok:I8 b):
  Calls prog 80 #[v,Tz nm] w λe w'=>e=.returned (.tuple #[Iz (Jt (I3 b.bs) nm:Int),.bool (D7 (I3 b.bs) nm)])/\Up w w':=by
 obtain⟨a1,c1,a2,c2,rfl,-,h2⟩:=h.parts;obtain⟨W1,a0,kA,a3,a4⟩:=cbE1 w [Vz a1 (b).tg.length c1,Vz a2 (b).bs.length c2] 26;have a7:b.bs.length<=5:=hok.2.1;have Ha:Hid (AM (I3 b.bs)):=hok.2.2.2.1;go_in;go_upto_region 1 with fail;try rw[a0]
 clear a0 a4;obtain⟨e0,e1⟩:=kA.c2';go_wp2_with fail;refine (IQ b.bs _ _ (h2.up a3) (by omega)).mono ?_;rintro e w2 ⟨⟨u,rfl,-,hl⟩,a6⟩;obtain⟨ax,cx,rfl,-⟩:=id hl;have a5:=D4 a3 a6;clear e0 e1;go_wp2_with fail;refine (TG (I3 b.bs) _ nm _ hl Ha.out (by rw[N7];omega)).mono ?_;rintro e w3 ⟨rfl,hw⟩;obtain rfl:=hw.symm;go_wp2_with fail;go_returns
 exact⟨rfl,a5⟩
theorem AcM(a b:Nat)(ha:a<4611686018427387904)(hb:b<4611686018427387904):0<=bits .xor .i64 (a:Int) (b:Int)/\bits .xor .i64 (a:Int) (b:Int)<4611686018427387904:=by
 have hx:a ^^^ b<2 ^ 62:=Nat.xor_lt_two_pow (by omega) (by omega)
 have h1:(BitVec.ofInt 64 (a:Int)).toNat=a:=by
  rw[BitVec.ofInt_natCast,BitVec.toNat_ofNat];exact Nat.mod_eq_of_lt (by omega)
 have h2:(BitVec.ofInt 64 (b:Int)).toNat=b:=by
  rw[BitVec.ofInt_natCast,BitVec.toNat_ofNat];exact Nat.mod_eq_of_lt (by omega)
 have e:bits .xor .i64 (a:Int) (b:Int)=IntKind.i64.wrap ((a ^^^ b:Nat):Int):=by
  show IntKind.i64.wrap ((BitVec.ofInt 64 (a:Int) ^^^ BitVec.ofInt 64 (b:Int)).toNat:Int)=_
  rw[BitVec.toNat_xor,h1,h2]
 rw[e,IntKind.wrap_i64];omega
def Ax(w:World)(rb:Nat)(v:Value)(len:Nat):Prop:=∃(a:Option Addr)(cap:Nat),v=.slice a len cap/\(len=0∨∃(b o:Nat)(z:Nat->Int),a=some ⟨b,o,none⟩/\b<rb/\∀i,i<len->w.cell? ⟨b,o+i,none⟩=some (.int .u8 (z i))/\0<=z i/\z i<=255)
def Rd(w:World)(rb:Nat)(v:Value)(len N:Nat):Prop:=∃p:Nat,p<=N/\w.cell? ⟨rb,0,none⟩=some v/\w.cell? ⟨rb,1,none⟩=some (.int .i64 p)/\w.frozen? ⟨rb,1,none⟩=false/\Ax w rb v len/\len<=2000
theorem Ax.kept(h:Ax w rb v len)(hg:w.grownBy w' (some rb)):Ax w' rb v len:=by
 obtain⟨a,a0,hv,h⟩:=h;refine⟨a,a0,hv,?_⟩;rcases h with h|⟨b,o,z,ha,hb,hz⟩
 ·exact .inl h
 ·exact .inr ⟨b,o,z,ha,hb,λi hi=>⟨hg.cell (hz i hi).1 (by simp;omega),(hz i hi).2⟩⟩
theorem Rd.drewN(h:Rd w rb v len N)(n:Nat):Rd (w.drewN n) rb v len N:=h
theorem Rd.mono{M:Nat}(h:Rd w rb v len N)(hM:N<=M):Rd w rb v len M:=by
 obtain⟨p,hp,r⟩:=h;exact⟨p,by omega,r⟩
theorem Rd.lt(h:Rd w rb v len N):rb<w.heap.size:=by
 obtain⟨p,hp,c0,_⟩:=h;exact World.block_lt_of_cell? w _ c0
theorem Rd.kept(h:Rd w rb v len N)(hb:Up w w'):Rd w' rb v len N:=by
 have a0:=h.lt;obtain⟨p,hp,c0,c1,f1,a1,hl⟩:=h;exact⟨p,hp,(hb.cell (p:=⟨rb,0,none⟩) a0).trans c0,(hb.cell (p:=⟨rb,1,none⟩) a0).trans c1,(hb.frozen (p:=⟨rb,1,none⟩) a0).trans f1,a1.kept (Bm hb),hl⟩
theorem Rd.alloc(h:Rd w rb v len N)(o:Obj):Rd (w.alloc o) rb v len N:=h.kept ((A4 _ _).alloc (A3 _) _)
theorem Rd.setCell{pb off:Nat}(h:Rd w rb v len N)(hlt:rb<pb):Rd (w.setCell ⟨pb,off,none⟩ u) rb v len N:=by
 obtain⟨p,hp,c0,c1,f1,⟨a,a0,hv,hb⟩,hl⟩:=h;refine⟨p,hp,?_,?_,?_,⟨a,a0,hv,?_⟩,hl⟩
 ·rw[C1 _ _ _ _ (by simp<;>omega)];exact c0
 ·rw[C1 _ _ _ _ (by simp<;>omega)];exact c1
 ·rw[World.frozen?_setCell];exact f1
 ·rcases hb with hb|⟨b,o,z,rfl,h1,hz⟩
  ·exact .inl hb
  ·refine .inr ⟨b,o,z,rfl,h1,λi hi=>⟨?_,(hz i hi).2⟩⟩;rw[C1 _ _ _ _ (by simp<;>omega)];exact (hz i hi).1
def SzS(ss:List BA):Prop:=∀s∈ss,s.size<=maxLen
theorem GX(h:(ss.all λs=>decide (s.size<=100))=true):SzS ss:=λs hs=>by
 have:=List.all_eq_true.1 h s hs;simp only[decide_eq_true_eq] at this;unfold maxLen;omega
theorem BR(w:World)(ss:List BA)(t:TypeId):N3 (w.alloc (.cells (ss.map Value.string).toArray t)) w.heap.size 0 ss:=λi s hs=>by
 have:((ss.map Value.string).toArray)[i]?=some (Tz s):=by simp[hs]
 simp[go_sem,World.cell?_alloc_at,this]
theorem Rd.row(h:Rd w rb v len N)(hg:w.grownBy w' (some k))(hk:rb<k):Rd w' rb v len N:=by
 have a2:=h.lt;obtain⟨p,hp,c0,c1,f1,⟨a,a1,hv,hb⟩,hl⟩:=h;have a0:=hg.block rb a2 (by simp;omega);refine⟨p,hp,(C2 (w:=w) (a:=⟨rb,0,none⟩) a0).trans c0,(C2 (w:=w) (a:=⟨rb,1,none⟩) a0).trans c1,(World.frozen?_of_block (w:=w) (a:=⟨rb,1,none⟩) a0).trans f1,⟨a,a1,hv,?_⟩,hl⟩;rcases hb with hb|⟨b,o,z,ha,h1,hz⟩
 ·exact .inl hb
 ·exact .inr ⟨b,o,z,ha,h1,λi hi=>⟨hg.cell (hz i hi).1 (by simp;omega),(hz i hi).2⟩⟩
theorem Rd.own(h:Rd w rb v len N)(hown:w.ownsRow base e size u n xs)(hg:w.grownBy w' u.ownBlock)(hk:rb<base):Rd w' rb v len N:=by
 have a2:=h.lt;obtain⟨p,hp,c0,c1,f1,⟨a,a1,hv,hb⟩,hl⟩:=h;have a0:=hg.block rb a2 (Af hown hk);refine⟨p,hp,(C2 (w:=w) (a:=⟨rb,0,none⟩) a0).trans c0,(C2 (w:=w) (a:=⟨rb,1,none⟩) a0).trans c1,(World.frozen?_of_block (w:=w) (a:=⟨rb,1,none⟩) a0).trans f1,⟨a,a1,hv,?_⟩,hl⟩;rcases hb with hb|⟨b,o,z,ha,h1,hz⟩
 ·exact .inl hb
 ·exact .inr ⟨b,o,z,ha,h1,λi hi=>⟨hg.cell (hz i hi).1 (Af hown (b:=b) (by omega)),(hz i hi).2⟩⟩
theorem Rd.drew(h:Rd w rb v len N):Rd w.drew rb v len N:=h
theorem Ax.cut{cap:Nat}(h:Ax w rb (Vz a n cap) n)(hm:m<=n):Ax w rb (Vz a m cap) m:=by
 obtain⟨a',a0,hv,h⟩:=h;cases hv
 refine⟨a,cap,rfl,?_⟩;rcases h with h|⟨b,o,z,ha,hb,hz⟩
 ·exact .inl (by omega)
 ·exact .inr ⟨b,o,z,ha,hb,λi hi=>hz i (by omega)⟩
theorem Ax.up{B:Nat}(h:Ax w B v len)(hg:Below B w w')(hB:B<=rb):Ax w' rb v len:=by
 obtain⟨a,a0,hv,h⟩:=h;refine⟨a,a0,hv,?_⟩;rcases h with h|⟨b,o,z,ha,hb,hz⟩
 ·exact .inl h
 ·exact .inr ⟨b,o,z,ha,by omega,λi hi=>⟨(hg.cell (p:=⟨b,o+i,none⟩) hb).trans (hz i hi).1,(hz i hi).2⟩⟩
theorem RU(w:World)(v:Value)(n:Nat)(t:TypeId)(h:Ax w w.heap.size v n)(hn:n<=2000):Rd (w.alloc (Kz [v,Iz 0] t)) w.heap.size v n 0 :=
 ⟨0,A3 _,by simp[go_sem],by simp[go_sem],by simp[go_sem],h.up ((A4 _ _).alloc (A3 _) _) (A3 _),hn⟩
theorem GY(b:Bk)(v:Value)(s:BA)(w:World)(h:K6 w v b):
  Calls prog 29 #[v,Tz s] w λe w'=>e=.returned (Iz (BK (I3 b.bs) s))/\Up w w':=by
 obtain⟨a1,c1,a2,c2,rfl,h1,h2⟩:=h.parts;have hC:CB (w.alloc (Kz [Vz a1 (b).tg.length c1,Vz a2 (b).bs.length c2] 26)) w.heap.size [Vz a1 b.tg.length c1,Vz a2 b.bs.length c2]:=O7 w _ _;have a5:=(A4 w.heap.size w).alloc (A3 _) (Kz [Vz a1 (b).tg.length c1,Vz a2 (b).bs.length c2] 26);have g2:=h2.at.1;unfold maxLen at g2;go_in;go_upto_region 1 with fail;generalize w.alloc (Kz [Vz a1 (b).tg.length c1,Vz a2 (b).bs.length c2] 26)=W1 at *;have l2:=h2.up a5;clear h h1 h2;obtain⟨e0,e1⟩:=hC.c2';obtain⟨-,a0⟩:=l2.at;go_wp2_with fail;go_loop [5] (λi=>∃k:Nat,k<=b.bs.length/\i=.int .i64 k/\D7 ((I3 b.bs).take k) s=false) (λi=>b.bs.length-(intOf i).toNat)
 case atStart=>exact⟨0,by omega,rfl,rfl⟩
 case round =>
  obtain⟨k,hk,rfl,a6⟩:=hrel;have Hal:Hid (D7 ((I3 b.bs).take k) s=false):=a6;clear a6;by_cases hp:k<b.bs.length
  ·obtain⟨bb,o,rfl,hS,hb⟩:=a0 (by omega);obtain⟨a3,d3,a4,d4,c3,c4,c5,-,-,-⟩:=(hS.at hp).cells;have a7:k<(I3 b.bs).length:=by rw[N7];exact hp
   have Hn:Hid ((I3 b.bs)[k]=(b.bs[k]).nm):=CE b.bs k hp;cases hq:((b.bs[k]).nm.toList==s.toList)
   ·have Hq:Hid (D7 ((I3 b.bs).take (k+1)) s=false):=FU a7 Hal.out (by rw[Hn.out];exact hq);generalize b.bs[k]=x0 at *;go_wp2_with fail;go_round
    case rel=>exact⟨k+1,by omega,by go_num,Hq.out⟩
    case measure=>simp[intOf];omega
   ·have Hq:Hid (BK (I3 b.bs) s=(k:Int)):=Gu a7 Hal.out (by rw[Hn.out];exact hq);generalize b.bs[k]=x0 at *;go_wp2_with fail;go_ret;exact⟨GC Hq.out.symm,a5⟩
  ·have Hq:Hid (BK (I3 b.bs) s=-1):=Cd (GN (by rw[N7];exact hp) Hal.out);go_wp2_with fail;go_ret;exact⟨GC Hq.out.symm,a5⟩
end Go.Proofs.YtcgkgmmclfeohaaGreatDoor
