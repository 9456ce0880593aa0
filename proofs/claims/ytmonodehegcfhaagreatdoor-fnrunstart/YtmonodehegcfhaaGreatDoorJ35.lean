/- The program's chapter 13: what is done where somebody needs less. -/
import Derived.Test.YtmonodehegcfhaaGreatDoorJ18
import Derived.Test.YtmonodehegcfhaaGreatDoorJ25
import Derived.Test.YtmonodehegcfhaaGreatDoorJ31
import Derived.Test.YtmonodehegcfhaaGreatDoorJ9
namespace Go.Proofs.YtmonodehegcfhaaGreatDoor
open Go.Proofs.Tryz
open Go.RowKit
variable{a b l ss:List BA}{Y:Nat}{u x0 x1:Value}{W w w0:World}
theorem Xp(h:Ad l):(F1 l).Pairwise (· < ·):=by
 rw[List.pairwise_iff_getElem];intro i j hi hj hij;have a0:i<l.length:=by simpa [F1] using hi
 have a1:j<l.length:=by simpa [F1] using hj
 have:=Ca h (j-i-1) i _ _ (A0 a0) (by rw[show i+1+(j-i-1)=j by omega];exact A0 a1);rw[Hu] at this;simpa [F1] using this
theorem Zj(h:F1 a=F1 b):a=b:=by
 refine List.ext_getElem (by simpa [F1] using congrArg List.length h) λi h1 h2=>?_;have:(F1 a)[i]?=(F1 b)[i]?:=by rw[h]
 simp only[F1,B1,A0 h1,A0 h2,Option.map_some,Option.some.injEq] at this;exact AE this
theorem PL:∀(ps:List Bv)(k:Nat)(p:Bv)(x:Ba)(u:Value),ps[k]?=some p->x.nm=p.1.nm->(E8 ps).set (k*3+1) u=E8 (ps.set k ((x,u,p.2.2):Bv))
 | q::r,0,p,x,u,h,e=>by
  obtain rfl:q=p:=by simpa using h
  simp[E8,O3,e]
 | q::r,k+1,p,x,u,h,e=>by
  have:=PL r k p x u (by simpa using h) e;rw[show (k+1)*3+1=(k*3+1)+3 by omega];simp[E8,O3,this]
theorem Nv{base:Nat}(h:F7 w base u ss)(hne:∀g,u.ownBlock=some g->g≠Y)(x y z:Value):F7 (((w.setCell ⟨Y,0,none⟩ x).setCell ⟨Y,1,none⟩ y).setCell ⟨Y,2,none⟩ z) base u ss :=
 E5 h (E1 (rb:=Y) (off:=2) (E1 (rb:=Y) (off:=1) (E1 (rb:=Y) (off:=0) (E2 w _) x) y) z) (λg hg e=>hne g hg (by simpa using e))
theorem Va{q:Nat}(h:Up W w0/\w0.cell? ⟨q,0,none⟩=some x0/\w0.cell? ⟨q,1,none⟩=some x1)(hY:W.heap.size<=Y)(hq:q<W.heap.size)(x y z:Value):
  Up W (((w0.setCell ⟨Y,0,none⟩ x).setCell ⟨Y,1,none⟩ y).setCell ⟨Y,2,none⟩ z)/\(((w0.setCell ⟨Y,0,none⟩ x).setCell ⟨Y,1,none⟩ y).setCell ⟨Y,2,none⟩ z).cell? ⟨q,0,none⟩=some x0/\(((w0.setCell ⟨Y,0,none⟩ x).setCell ⟨Y,1,none⟩ y).setCell ⟨Y,2,none⟩ z).cell? ⟨q,1,none⟩=some x1:=by
 refine⟨((h.1.setCell (p:=⟨Y,0,none⟩) hY _).setCell (p:=⟨Y,1,none⟩) hY _).setCell (p:=⟨Y,2,none⟩) hY _,?_,?_⟩
 ·rw[C1 _ _ _ _ (by simp<;>omega),C1 _ _ _ _ (by simp<;>omega),C1 _ _ _ _ (by simp<;>omega)];exact h.2.1
 ·rw[C1 _ _ _ _ (by simp<;>omega),C1 _ _ _ _ (by simp<;>omega),C1 _ _ _ _ (by simp<;>omega)];exact h.2.2
theorem Yc(ps:List Bv)(k:Nat)(p:Bv)(t:Value×List BA)(hk:k<=ps.length):((p.2.1,p.1.has)::(p.2.2,p.1.nj)::t::N0 ps).Perm (t::N0 (ps.take k++p::ps.drop k)):=by
 have hl:(ps.take k).length=k:=by rw[B8];omega
 have h1:=KC (ps.take k++p::ps.drop k) k p (by rw[C8 (by omega),hl,Nat.sub_self];rfl)
 have h2:(ps.take k++p::ps.drop k).eraseIdx k=ps:=by
  rw[List.eraseIdx_append_of_length_le (by omega),hl,Nat.sub_self,List.eraseIdx_cons_zero,List.take_append_drop]
 rw[h2] at h1;exact ((h1.cons t).trans (SP _ _ _ _)).symm
theorem YM(b:Bk)(nm:BA):Ga (G7 b.bs) nm=U3 b nm:=by
 unfold Ga U3 G7;rw[List.takeWhile_map,B5];rfl
theorem Zk(b:Bk)(nm:BA):U3 b nm<=b.bs.length:=(List.takeWhile_sublist _).length_le
set_option maxRecDepth 20000 in
set_option maxHeartbeats 8000000 in
theorem Ob(b:Bk)(v:Value)(nm:BA)(lv:Value)(ls:List BA)(w:World)(h:Q6 w v b)(hl:Ls w lv ls)(hls:ls.length<=100)(hnz:nm.size<=maxLen)(hok:J1 b):
  Calls prog 190 #[v,.iface 180 (.agg #[Tz nm,lv])] w λe w'=>(∃u,e=.returned u/\S4 w' w.heap.size u ⟨b.tg,b.bs.take (U3 b nm)++⟨nm,[],ls⟩::b.bs.drop (U3 b nm)⟩)/\Up w w':=by
 have f1:=RD;have f2:=Zd;obtain⟨a1,c1,a2,c2,rfl,-,-⟩:=h.parts;obtain⟨la,lc,rfl,-⟩:=id hl;obtain⟨s1,s2,s3⟩:=An hok;obtain⟨W1,f8,kA,kR,e5,l7⟩:=cbE2 w [Vz a1 (b).tg.length c1,Vz a2 (b).bs.length c2] 26 [Nz,Nz] 26;go_in;go_upto_region 1 with fail;try rw[f8]
 clear f8;have hk:=h.up e5;obtain⟨e0,e1⟩:=kA.c2';go_wp2_with fail;refine (Fn b _ _ hk (by omega) (by omega) (λy hy=>by have:=s3 y hy;omega)).mono ?_;rintro e w2 ⟨⟨a3,c3,a4,c4,ps,rfl,x2,x3,hF⟩,d3⟩;have m4:=d3.size;have e6:∀g',(Vz a4 b.bs.length c4).ownBlock=some g'->g'<w2.heap.size:=λg' hg'=>(x2.1.lt g' hg').2;replace hF:=hF.avoid (A4 _);have Hnm:Hid (∀p∈ps,p.1.nm.size<=maxLen):=λp hp=>(x2.2 p hp).2.2;have h0:=kA.up d3 (by omega);have h1:=kR.up d3 (by omega);have h2:=hk.up d3;have h3:=D5 e5 d3;clear e0 e1 kA kR hk e5 d3;go_upto_region 2 with fail;obtain⟨W3,f9,kX,b9,l8⟩:=cbE1 w2 [(Vz a3 b.tg.length c3),Vz a4 b.bs.length c4] 26;try rw[f9]
 clear f9;have h4:=h0.up b9 (by omega);have h5:=h1.up b9 (by omega);have h6:=h2.up b9;have h7:=D5 h3 b9;have h8:=x2.up b9;have h9:=hF.up b9;clear h0 h1 h2 h3 x2 hF b9;obtain⟨e0,e1⟩:=h4.c2';have i0:Up W3 W3/\At W3 w.heap.size 0 (Vz a1 b.tg.length c1)/\At W3 w.heap.size 1 (Vz a2 b.bs.length c2):=⟨A5 _ _,e0,e1⟩;have k8:w.heap.size<W3.heap.size:=by omega
 clear e0 e1;go_wp2_with fail
 go_region_held (λw'=>Up W3 w'/\At w' w.heap.size 0 (Vz a1 b.tg.length c1)/\At w' w.heap.size 1 (Vz a2 b.bs.length c2)) (first|exact RF i0|exact Kx k8 (by assumption) (by assumption))
  (first
   | (go_at_call 242;refine (Gz nm _).mono ?_;rintro e' w9 ⟨rfl,b4⟩)
   | (go_at_call 146;refine (Gb b _ nm _ ((h6.up (A5 _ _).drew).up b4) hok).mono ?_;rintro e' wA ⟨rfl,l5⟩))
 rename_i hHeld;have c0:=hHeld.1;clear hHeld i0 b4 l5;have m5:=c0.size;have i1:=kX.up c0 (by omega);have i2:=h5.up c0 (by omega);have d5:=D5 h7 c0;have i3:=h8.up c0;have i4:=h9.up c0;clear kX h5 h4 h7 h8 h9 h6 c0;rw[YM b nm];have m6:=Zk b nm;have k9:ps.length=b.bs.length:=by rw[← x3,B5]
 go_upto_region 6 with fail;obtain⟨W5,g2,g3,d0,g4⟩:=cbE1 wA [Tz nm,Vz la ls.length lc] 180;try rw[g2]
 clear g2;have Hs5:Hid (W5.heap.size=wA.heap.size+1):=g4;have i5:=i1.up d0 (by omega);have i6:=i2.up d0 (by omega);have e7:=D5 d5 d0;have i7:=i3.up d0;have e8:=i4.up d0;have e9:=hl.up e7;have d2:wA.heap.size<W5.heap.size:=by omega
 clear i1 i2 d5 i3 i4 d0 hl h g4;obtain⟨z0,z1⟩:=g3.c2';have b3:Up W5 W5.drew/\At W5.drew wA.heap.size 0 (Tz nm)/\At W5.drew wA.heap.size 1 (Vz la ls.length lc):=⟨(A5 _ _).drew,z0,z1⟩;clear z0 z1 g3;go_cut [9] (λv9 wc=>∃(Y:Nat)(un:Value),v9=Pz Y 0/\CB wc Y [Tz nm,Nz,un]/\F7 wc W5.heap.size un ls/\W5.heap.size<=Y/\(∀g,un.ownBlock=some g->g≠Y)/\Up W5 wc)
 case first =>
  refine F5 99 (λw'=>Up W5 w'/\At w' wA.heap.size 0 (Tz nm)/\At w' wA.heap.size 1 (Vz la ls.length lc)) (by kernel_rfl) ?_;refine D6 0 rfl b3 ?_;refine D6 1 rfl b3 ?_;refine D6 2 rfl b3 ?_;refine D6 3 rfl b3 ?_;refine D6 4 rfl b3 ?_;refine R4 (i:=5) (j:=7) (by kernel_rfl) rfl rfl (λK hK=>?_) (λK hK=>?_)
  ·go_simp;go_wp2_with (go_at_call 189;refine (Eh ls _ W5.drew e9 (by omega)).mono ?_;rintro e w6 ⟨⟨un,rfl,a6⟩,c7⟩)
   obtain⟨an,cn,rfl⟩:=a6.lst.shape;have b6:Up W5 w6/\At w6 wA.heap.size 0 (Tz nm)/\At w6 wA.heap.size 1 (Vz la ls.length lc):=Kx d2 b3 c7;refine E6 hK b6 ?_;clear hK K;refine D6 6 rfl b6 ?_;have kY:=F3 w6 [Ez,Nz,Nz] 115;have c5:Up w6 (w6.alloc (Kz [Ez,Nz,Nz] 115)):=(A5 _ _).alloc (A4 _) _;have b7:Up W5 (w6.alloc (Kz [Ez,Nz,Nz] 115))/\At (w6.alloc (Kz [Ez,Nz,Nz] 115)) wA.heap.size 0 (Tz nm)/\At (w6.alloc (Kz [Ez,Nz,Nz] 115)) wA.heap.size 1 (Vz la ls.length lc):=Kx d2 b6 c5;have d6:=a6.up c5;have d7:W5.heap.size<=w6.heap.size:=c7.size;have a8:∀g,(Vz an ls.length cn).ownBlock=some g->g<w6.heap.size:=λg hg=>(a6.lt g hg).2;refine E7 7 rfl (λK hK=>?_);go_simp;refine E6 hK b7 ?_;clear hK K;have kY:CB (w6.alloc (Kz [Ez,Nz,Nz] 115)) w6.heap.size [Ez,Nz,Nz]:=kY;clear a6 b3 b6 c7 c5;generalize w6.alloc (Kz [Ez,Nz,Nz] 115)=W7 at *;have HF:Hid (CB (((W7.setCell ⟨w6.heap.size,0,none⟩ (Tz nm)).setCell ⟨w6.heap.size,1,none⟩ (Nz)).setCell ⟨w6.heap.size,2,none⟩ (Vz an ls.length cn)) w6.heap.size [Tz nm,Nz,Vz an ls.length cn]):=((kY.set (j:=0) (u:=Tz nm) (by simp)).set (j:=1) (u:=Nz) (by simp)).set (j:=2) (u:=Vz an ls.length cn) (by simp);have HO:Hid (F7 (((W7.setCell ⟨w6.heap.size,0,none⟩ (Tz nm)).setCell ⟨w6.heap.size,1,none⟩ (Nz)).setCell ⟨w6.heap.size,2,none⟩ (Vz an ls.length cn)) W5.heap.size (Vz an ls.length cn) ls):=Nv d6 (λg hg=>by have:=a8 g hg;omega) _ _ _;have c6:=Va b7 d7 d2 (Tz nm) (Nz) (Vz an ls.length cn);obtain⟨⟨j0,j1,j2⟩,m0,m1,m2⟩:=kY.c3;refine E7 8 rfl (λK hK=>?_);go_simp;refine E6 hK c6 ?_;clear hK K;refine F0 (by kernel_rfl) ?_ _;have f0:=c6.1;clear j0 j1 j2 m0 m1 m2 kY b7 c6 d6;go_wp2_with fail;go_meet
   case rel=>exact⟨w6.heap.size,_,rfl,HF.out,HO.out,d7,λg hg=>by have:=a8 g hg;omega,f0⟩
  ·go_simp;have c7:Up W5 (W5.alloc (Kz [Ez,Nz,Nz] 115)).drew:=((A5 W5.heap.size W5).alloc (A4 _) (Kz [Ez,Nz,Nz] 115)).drew;have kY:CB (W5.alloc (Kz [Ez,Nz,Nz] 115)).drew W5.heap.size [Ez,Nz,Nz]:=F3 W5 [Ez,Nz,Nz] 115;have b6:Up W5 (W5.alloc (Kz [Ez,Nz,Nz] 115)).drew/\World.cell? (W5.alloc (Kz [Ez,Nz,Nz] 115)).drew ⟨wA.heap.size,0,none⟩=some (Tz nm)/\World.cell? (W5.alloc (Kz [Ez,Nz,Nz] 115)).drew ⟨wA.heap.size,1,none⟩=some (Vz la ls.length lc):=Kx d2 ⟨A5 _ _,b3.2⟩ c7;have i8:=e9.up c7;have i9:W5.heap.size<(W5.alloc (Kz [Ez,Nz,Nz] 115)).drew.heap.size:=kY.2.2;refine E6 hK b6 ?_;clear hK K;clear b3 c7;generalize (W5.alloc (Kz [Ez,Nz,Nz] 115)).drew=W6 at *;refine E7 5 rfl (λK hK=>?_);go_simp;go_wp2_with (go_at_call 189;refine (Eh ls _ W6 i8 (by omega)).mono ?_;rintro e w7 ⟨⟨un,rfl,a6⟩,c5⟩)
   obtain⟨an,cn,rfl⟩:=a6.lst.shape;have b7:Up W5 w7/\At w7 wA.heap.size 0 (Tz nm)/\At w7 wA.heap.size 1 (Vz la ls.length lc):=Kx d2 b6 c5;have f3:=kY.up c5 i9;have a8:∀g,(Vz an ls.length cn).ownBlock=some g->W6.heap.size<=g:=λg hg=>(a6.lt g hg).1;refine E6 hK b7 ?_;clear hK K;refine D6 6 rfl b7 ?_;clear kY b6 i8 c5;have HF:Hid (CB (((w7.setCell ⟨W5.heap.size,0,none⟩ (Tz nm)).setCell ⟨W5.heap.size,1,none⟩ (Nz)).setCell ⟨W5.heap.size,2,none⟩ (Vz an ls.length cn)) W5.heap.size [Tz nm,Nz,Vz an ls.length cn]):=((f3.set (j:=0) (u:=Tz nm) (by simp)).set (j:=1) (u:=Nz) (by simp)).set (j:=2) (u:=Vz an ls.length cn) (by simp);have HO:Hid (F7 (((w7.setCell ⟨W5.heap.size,0,none⟩ (Tz nm)).setCell ⟨W5.heap.size,1,none⟩ (Nz)).setCell ⟨W5.heap.size,2,none⟩ (Vz an ls.length cn)) W5.heap.size (Vz an ls.length cn) ls):=Nv (I8 a6 (Nat.le_of_lt i9)) (λg hg=>by have:=a8 g hg;omega) _ _ _;have c6:=Va b7 (A4 _) d2 (Tz nm) (Nz) (Vz an ls.length cn);obtain⟨⟨j0,j1,j2⟩,m0,m1,m2⟩:=f3.c3;refine E7 8 rfl (λK hK=>?_);go_simp;refine E6 hK c6 ?_;clear hK K;refine F0 (by kernel_rfl) ?_ _;have f0:=c6.1;clear j0 j1 j2 m0 m1 m2 f3 b7 c6 a6;go_wp2_with fail;go_meet
   case rel=>exact⟨W5.heap.size,_,rfl,HF.out,HO.out,A4 _,λg hg=>by have:=a8 g hg;omega,f0⟩
 case rest =>
  obtain⟨Y,un,rfl,g5,a6,hY,l9,d1⟩:=hcut;obtain⟨an,cn,k3⟩:=a6.lst.shape;subst k3;have m7:=d1.size;have l0:=Hs5.out;have f4:=i5.up d1 (by omega);have j3:=i6.up d1 (by omega);have d5:=D5 e7 d1;have j4:=e8.up d1;have j5:=(L7.new e8 j4 a6 (A4 _) (by omega) (Ef (by omega))).nil_new;have j6:=j5.perm (Yc ps (U3 b nm) ((⟨nm,[],ls⟩,Nz,Vz an ls.length cn):Bv) ((Vz a3 b.tg.length c3),b.tg) (by omega));have f5:=i7.up d1;have a9:=f5.1;have b8:=f5.one ps (λ_ h=>h);clear b3 e8 j4 j5 i7 f5 i5 i6 e7 e9;obtain⟨⟨y0,y1⟩,-⟩:=f4.c2;obtain⟨⟨b0,b1,b2⟩,-⟩:=g5.c3;obtain⟨W9,g6,g7,b4,m3⟩:∃W9,wc.alloc (Kz [Tz nm,Nz,Vz an ls.length cn] 115)=W9/\CU W9 wc.heap.size ((⟨nm,[],ls⟩,Nz,Vz an ls.length cn):Bv)/\Up wc W9/\W9.heap.size=wc.heap.size+1:=⟨_,rfl,heap_alloc_new _ _,(A5 _ _).alloc (A4 _) _,by simp⟩;have a0:=E4 a9 b4;have f6:(Vz a4 b.bs.length c4).ownBlock≠some wc.heap.size:=λe=>by have:=(a9.lt _ e).2;omega
  have c8:=QP ps ((⟨nm,[],ls⟩,Nz,Vz an ls.length cn):Bv) (U3 b nm) _ W1.heap.size wc.heap.size W9 (by omega) (by omega) a0 b8 g7 (by simp[O3,Value.oneCell']) f6 (by omega);have d8:∀g,(Vz a4 b.bs.length c4).ownBlock=some g->g<w2.heap.size:=e6;have j7:=f4.up b4 (by omega);have j8:=j3.up b4 (by omega);have j9:=D5 d5 b4;have k0:=j6.up b4;rw[k9] at c8 a0;clear a9 b8 f4 j3 g5 a6 j6 g7 d5 b4;go_wp2_with fail;try rw[g6]
  clear g6;refine c8.mono ?_;rintro e f7 ⟨uB,rfl,a5,a7,l6⟩;obtain⟨ux,uc,k4⟩:=I7 a5;subst k4;have c9:=j7.kept a7 (λe=>by have:=d8 _ e.symm;omega);have d9:=j8.kept a7 (Aj a0 (by omega));have e2:=k0.row a0 a7;have e3:Up w f7:=M1 j9 a0 a7 (by omega);have m8:=(a5.lt);have l1:=a7.size;clear y0 y1 b0 b1 b2 c8 a0 j7 j8 k0 j9
  have Hne:Hid (∀g,(Vz ux (b.bs.length+1) uc).ownBlock=some g->some g≠some w2.heap.size):=λg hg e=>by
   have e':=A6 e;rcases l6 g hg with k|k
   ·have:=d8 g k;omega
   ·omega
  obtain⟨W7,g8,k5,g9,k6,k7,d4⟩:∃W7,f7.setCell ⟨w2.heap.size,1,none⟩ (Vz ux (b.bs.length+1) uc)=W7/\CB W7 w2.heap.size [(Vz a3 b.tg.length c3),Vz ux (b.bs.length+1) uc]/\CB W7 (w.heap.size+1) [Nz,Nz]/\L7 W7 W1.heap.size (some w2.heap.size) (((Vz a3 b.tg.length c3),b.tg)::N0 (ps.take (U3 b nm)++((⟨nm,[],ls⟩,Nz,Vz an ls.length cn):Bv)::ps.drop (U3 b nm)))/\Up w W7/\W7.ownsRow W1.heap.size 115 3 (Vz ux (b.bs.length+1) uc) (b.bs.length+1) (E8 (ps.take (U3 b nm)++((⟨nm,[],ls⟩,Nz,Vz an ls.length cn):Bv)::ps.drop (U3 b nm))) :=
   ⟨_,rfl,c9.set (j:=1) (by simp),d9.other (by omega),e2.set 1 _,e3.setCell (p:=⟨w2.heap.size,1,none⟩) (by show _<=w2.heap.size;omega) _,E5 a5 (E1 (rb:=w2.heap.size) (off:=1) (E2 f7 _) _) Hne.out⟩
  obtain⟨⟨y0,y1⟩,g0,g1⟩:=c9.c2;go_upto_region 20 with fail;try rw[g8]
  clear g8 y0 y1 g0 g1 c9 d9 e2 e3 a5 a7;obtain⟨⟨y0,y1⟩,-⟩:=k5.c2;obtain⟨⟨r0,r1⟩,q0,q1⟩:=g9.c2;have b5:w.heap.size+1<W1.heap.size:=by omega
  have k1:(b.bs.take (U3 b nm)++⟨nm,[],ls⟩::b.bs.drop (U3 b nm)).length=b.bs.length+1:=by rw[B0,B8,List.length_cons,A9];omega
  have l2:(ps.take (U3 b nm)++((⟨nm,[],ls⟩,Nz,Vz an ls.length cn):Bv)::ps.drop (U3 b nm)).length=b.bs.length+1:=by rw[B0,B8,List.length_cons,A9];omega
  have l3:(ps.take (U3 b nm)++((⟨nm,[],ls⟩,Nz,Vz an ls.length cn):Bv)::ps.drop (U3 b nm)).map (·.1)=b.bs.take (U3 b nm)++⟨nm,[],ls⟩::b.bs.drop (U3 b nm):=by rw[← x3,List.map_append,List.map_take,List.map_cons,List.map_drop]
  go_wp2_with fail;refine FM results190 underlying26 rfl M5 g9 rfl ?_;have e4:=F2 (F2 d4 (E1 (rb:=w.heap.size+1) (off:=0) (E2 _ _) (Vz a3 b.tg.length c3)) b5) (E1 (rb:=w.heap.size+1) (off:=1) (E2 _ _) (Vz ux (b.bs.length+1) uc)) b5;have k2:=(k6.free.setLow b5 0 (Vz a3 b.tg.length c3)).setLow b5 1 (Vz ux (b.bs.length+1) uc)
  have l4:=k2.bsW (fs:=[((Vz a3 b.tg.length c3),b.tg)]) (v:=Vz ux (b.bs.length+1) uc) (by rw[l2];exact e4) (λq hq=>by
   rcases D0.1 hq with h|h
   ·exact Hnm.out q (List.mem_of_mem_take h)
   ·rcases List.mem_cons.1 h with h|h
    ·subst h;exact hnz
    ·exact Hnm.out q (List.mem_of_mem_drop h))
  refine⟨⟨_,rfl,a3,c3,ux,uc,_,?_,?_,l3,k2.low (by omega)⟩,K6 k7 (Nat.le_succ _) _ _⟩
  ·show Value.agg #[_,_]=Value.agg #[_,Vz _ (b.bs.take (U3 b nm)++⟨nm,[],ls⟩::b.bs.drop (U3 b nm)).length _]
   rw[k1]
  ·show Bq _ _ (Vz _ (b.bs.take (U3 b nm)++⟨nm,[],ls⟩::b.bs.drop (U3 b nm)).length _) _
   rw[k1];exact l4.low (by omega)
end Go.Proofs.YtmonodehegcfhaaGreatDoor
