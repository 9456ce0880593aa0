/- The program's chapter 13: what is done where somebody comes in. -/
import Derived.Test.YtcgkgmmclfeohaaGreatDoorJ42
namespace Go.Proofs.YtcgkgmmclfeohaaGreatDoor
open Go.Proofs.Tryz
open Go.RowKit
variable{ss:List BA}{Y:Nat}{u x0 x1:Value}{W w w0:World}
theorem Qc{base:Nat}(h:G3 w base u ss)(hne:∀g,u.ownBlock=some g->g≠Y)(x y z:Value):G3 (((w.setCell ⟨Y,0,none⟩ x).setCell ⟨Y,1,none⟩ y).setCell ⟨Y,2,none⟩ z) base u ss :=
 P4 h (E6 (rb:=Y) (off:=2) (E6 (rb:=Y) (off:=1) (E6 (rb:=Y) (off:=0) (F4 w _) x) y) z) (λg hg e=>hne g hg (by simpa using e))
theorem ZL{q:Nat}(h:Up W w0/\w0.cell? ⟨q,0,none⟩=some x0/\w0.cell? ⟨q,1,none⟩=some x1)(hY:W.heap.size<=Y)(hq:q<W.heap.size)(x y z:Value):
  Up W (((w0.setCell ⟨Y,0,none⟩ x).setCell ⟨Y,1,none⟩ y).setCell ⟨Y,2,none⟩ z)/\(((w0.setCell ⟨Y,0,none⟩ x).setCell ⟨Y,1,none⟩ y).setCell ⟨Y,2,none⟩ z).cell? ⟨q,0,none⟩=some x0/\(((w0.setCell ⟨Y,0,none⟩ x).setCell ⟨Y,1,none⟩ y).setCell ⟨Y,2,none⟩ z).cell? ⟨q,1,none⟩=some x1:=by
 refine⟨((h.1.setCell (p:=⟨Y,0,none⟩) hY _).setCell (p:=⟨Y,1,none⟩) hY _).setCell (p:=⟨Y,2,none⟩) hY _,?_,?_⟩
 ·rw[C1 _ _ _ _ (by simp<;>omega),C1 _ _ _ _ (by simp<;>omega),C1 _ _ _ _ (by simp<;>omega)];exact h.2.1
 ·rw[C1 _ _ _ _ (by simp<;>omega),C1 _ _ _ _ (by simp<;>omega),C1 _ _ _ _ (by simp<;>omega)];exact h.2.2
theorem AdY(ps:List Bv)(k:Nat)(p:Bv)(t:Value×List BA)(hk:k<=ps.length):((p.2.1,p.1.has)::(p.2.2,p.1.nd)::t::V6 ps).Perm (t::V6 (ps.take k++p::ps.drop k)):=by
 have hl:(ps.take k).length=k:=by rw[B8];omega
 have h1:=Ll (ps.take k++p::ps.drop k) k p (by rw[C8 (by omega),hl,Nat.sub_self];rfl)
 have h2:(ps.take k++p::ps.drop k).eraseIdx k=ps:=by
  rw[List.eraseIdx_append_of_length_le (by omega),hl,Nat.sub_self,List.eraseIdx_cons_zero,List.take_append_drop]
 rw[h2] at h1;exact ((h1.cons t).trans (Wr _ _ _ _)).symm
theorem AgB(b:Bk)(nm:BA):Jt (I3 b.bs) nm=U3 b nm:=by
 unfold Jt U3 I3;rw[List.takeWhile_map,B5];rfl
theorem Akd(b:Bk)(nm:BA):U3 b nm<=b.bs.length:=(List.takeWhile_sublist _).length_le
set_option maxRecDepth 20000 in
set_option maxHeartbeats 8000000 in
theorem Qs(b:Bk)(v:Value)(nm:BA)(lv:Value)(ls:List BA)(w:World)(h:K6 w v b)(hl:Ls w lv ls)(hls:ls.length<=100)(hnz:nm.size<=maxLen)(hok:I8 b):
  Calls prog 61 #[v,.iface 51 (.agg #[Tz nm,lv])] w λe w'=>(∃u,e=.returned u/\K8 w' w.heap.size u ⟨b.tg,b.bs.take (U3 b nm)++⟨nm,[],ls⟩::b.bs.drop (U3 b nm)⟩)/\Up w w':=by
 have f1:=UA;have f2:=Ahv;obtain⟨a1,c1,a2,c2,rfl,-,-⟩:=h.parts;obtain⟨la,lc,rfl,-⟩:=id hl;obtain⟨s1,s2,s3⟩:=Ai hok;obtain⟨W1,f9,kA,kR,e6,l8⟩:=cbE2 w [Vz a1 (b).tg.length c1,Vz a2 (b).bs.length c2] 26 [Nz,Nz] 26;go_in;go_upto_region 1 with fail;try rw[f9]
 clear f9;have hk:=h.up e6;obtain⟨e0,e1⟩:=kA.c2';go_wp2_with fail;refine (FY b _ _ hk (by omega) (by omega) (λy hy=>by have:=s3 y hy;omega)).mono ?_;rintro e w2 ⟨⟨a3,c3,a4,c4,ps,rfl,x2,x3,hF⟩,d4⟩;have m5:=d4.size;have e7:∀g',(Vz a4 b.bs.length c4).ownBlock=some g'->g'<w2.heap.size:=λg' hg'=>(x2.1.lt g' hg').2;replace hF:=hF.avoid (A3 _);have Hnm:Hid (∀p∈ps,p.1.nm.size<=maxLen):=λp hp=>(x2.2 p hp).2.2;have h1:=kA.up d4 (by omega);have h2:=kR.up d4 (by omega);have h3:=hk.up d4;have h4:=D4 e6 d4;clear e0 e1 kA kR hk e6 d4;go_upto_region 2 with fail;obtain⟨W3,g2,kX,b9,l9⟩:=cbE1 w2 [(Vz a3 b.tg.length c3),Vz a4 b.bs.length c4] 26;try rw[g2]
 clear g2;have h5:=h1.up b9 (by omega);have h6:=h2.up b9 (by omega);have h7:=h3.up b9;have h8:=D4 h4 b9;have h9:=x2.up b9;have i0:=hF.up b9;clear h1 h2 h3 h4 x2 hF b9;obtain⟨e0,e1⟩:=h5.c2';have i1:Up W3 W3/\At W3 w.heap.size 0 (Vz a1 b.tg.length c1)/\At W3 w.heap.size 1 (Vz a2 b.bs.length c2):=⟨A4 _ _,e0,e1⟩;have k9:w.heap.size<W3.heap.size:=by omega
 clear e0 e1;go_wp2_with fail
 go_region_held (λw'=>Up W3 w'/\At w' w.heap.size 0 (Vz a1 b.tg.length c1)/\At w' w.heap.size 1 (Vz a2 b.bs.length c2)) (first|exact Lh i1|exact Il k9 (by assumption) (by assumption))
  (first
   | (go_at_call 142;refine (EM nm _).mono ?_;rintro e' w9 ⟨rfl,b4⟩)
   | (go_at_call 80;refine (Ft b _ nm _ ((h7.up (A4 _ _).drew).up b4) hok).mono ?_;rintro e' wA ⟨rfl,l6⟩))
 rename_i hHeld;have c5:=hHeld.1;clear hHeld i1 b4 l6;have m6:=c5.size;have i2:=kX.up c5 (by omega);have i3:=h6.up c5 (by omega);have d6:=D4 h8 c5;have i4:=h9.up c5;have i5:=i0.up c5;clear kX h6 h5 h8 h9 i0 h7 c5;rw[AgB b nm];have m7:=Akd b nm;have l0:ps.length=b.bs.length:=by rw[← x3,B5]
 go_upto_region 6 with fail;obtain⟨W5,g3,g4,d1,g5⟩:=cbE1 wA [Tz nm,Vz la ls.length lc] 51;try rw[g3]
 clear g3;have Hs5:Hid (W5.heap.size=wA.heap.size+1):=g5;have i6:=i2.up d1 (by omega);have i7:=i3.up d1 (by omega);have e8:=D4 d6 d1;have i8:=i4.up d1;have e9:=i5.up d1;have f0:=hl.up e8;have d3:wA.heap.size<W5.heap.size:=by omega
 clear i2 i3 d6 i4 i5 d1 hl h g5;obtain⟨z0,z1⟩:=g4.c2';have b3:Up W5 W5.drew/\At W5.drew wA.heap.size 0 (Tz nm)/\At W5.drew wA.heap.size 1 (Vz la ls.length lc):=⟨(A4 _ _).drew,z0,z1⟩;clear z0 z1 g4;go_cut [9] (λv9 wc=>∃(Y:Nat)(un:Value),v9=Pz Y 0/\CB wc Y [Tz nm,Nz,un]/\G3 wc W5.heap.size un ls/\W5.heap.size<=Y/\(∀g,un.ownBlock=some g->g≠Y)/\Up W5 wc)
 case first =>
  refine T9 99 (λw'=>Up W5 w'/\At w' wA.heap.size 0 (Tz nm)/\At w' wA.heap.size 1 (Vz la ls.length lc)) (by kernel_rfl) ?_;refine I2 0 rfl b3 ?_;refine I2 1 rfl b3 ?_;refine I2 2 rfl b3 ?_;refine I2 3 rfl b3 ?_;refine I2 4 rfl b3 ?_;refine Aap (i:=5) (j:=7) (by kernel_rfl) rfl rfl (λK hK=>?_) (λK hK=>?_)
  ·go_simp;go_wp2_with (go_at_call 79;refine (DY ls _ W5.drew f0 (by omega)).mono ?_;rintro e w6 ⟨⟨un,rfl,a6⟩,c8⟩)
   obtain⟨an,cn,rfl⟩:=a6.lst.shape;have b6:Up W5 w6/\At w6 wA.heap.size 0 (Tz nm)/\At w6 wA.heap.size 1 (Vz la ls.length lc):=Il d3 b3 c8;refine Y1 hK b6 ?_;clear hK K;refine I2 6 rfl b6 ?_;have kY:=O7 w6 [Ez,Nz,Nz] 57;have c6:Up w6 (w6.alloc (Kz [Ez,Nz,Nz] 57)):=(A4 _ _).alloc (A3 _) _;have b7:Up W5 (w6.alloc (Kz [Ez,Nz,Nz] 57))/\At (w6.alloc (Kz [Ez,Nz,Nz] 57)) wA.heap.size 0 (Tz nm)/\At (w6.alloc (Kz [Ez,Nz,Nz] 57)) wA.heap.size 1 (Vz la ls.length lc):=Il d3 b6 c6;have d7:=a6.up c6;have d8:W5.heap.size<=w6.heap.size:=c8.size;have a8:∀g,(Vz an ls.length cn).ownBlock=some g->g<w6.heap.size:=λg hg=>(a6.lt g hg).2;refine T0 7 rfl (λK hK=>?_);go_simp;refine Y1 hK b7 ?_;clear hK K;have kY:CB (w6.alloc (Kz [Ez,Nz,Nz] 57)) w6.heap.size [Ez,Nz,Nz]:=kY;clear a6 b3 b6 c8 c6;generalize w6.alloc (Kz [Ez,Nz,Nz] 57)=W7 at *;have HF:Hid (CB (((W7.setCell ⟨w6.heap.size,0,none⟩ (Tz nm)).setCell ⟨w6.heap.size,1,none⟩ (Nz)).setCell ⟨w6.heap.size,2,none⟩ (Vz an ls.length cn)) w6.heap.size [Tz nm,Nz,Vz an ls.length cn]):=((kY.set (j:=0) (u:=Tz nm) (by simp)).set (j:=1) (u:=Nz) (by simp)).set (j:=2) (u:=Vz an ls.length cn) (by simp);have HO:Hid (G3 (((W7.setCell ⟨w6.heap.size,0,none⟩ (Tz nm)).setCell ⟨w6.heap.size,1,none⟩ (Nz)).setCell ⟨w6.heap.size,2,none⟩ (Vz an ls.length cn)) W5.heap.size (Vz an ls.length cn) ls):=Qc d7 (λg hg=>by have:=a8 g hg;omega) _ _ _;have c7:=ZL b7 d8 d3 (Tz nm) (Nz) (Vz an ls.length cn);obtain⟨⟨j0,j1,j2⟩,m0,m1,m2⟩:=kY.c3;refine T0 8 rfl (λK hK=>?_);go_simp;refine Y1 hK c7 ?_;clear hK K;refine Y2 (by kernel_rfl) ?_ _;have f3:=c7.1;clear j0 j1 j2 m0 m1 m2 kY b7 c7 d7;go_wp2_with fail;go_meet
   case rel=>exact⟨w6.heap.size,_,rfl,HF.out,HO.out,d8,λg hg=>by have:=a8 g hg;omega,f3⟩
  ·go_simp;have c8:Up W5 (W5.alloc (Kz [Ez,Nz,Nz] 57)).drew:=((A4 W5.heap.size W5).alloc (A3 _) (Kz [Ez,Nz,Nz] 57)).drew;have kY:CB (W5.alloc (Kz [Ez,Nz,Nz] 57)).drew W5.heap.size [Ez,Nz,Nz]:=O7 W5 [Ez,Nz,Nz] 57;have b6:Up W5 (W5.alloc (Kz [Ez,Nz,Nz] 57)).drew/\World.cell? (W5.alloc (Kz [Ez,Nz,Nz] 57)).drew ⟨wA.heap.size,0,none⟩=some (Tz nm)/\World.cell? (W5.alloc (Kz [Ez,Nz,Nz] 57)).drew ⟨wA.heap.size,1,none⟩=some (Vz la ls.length lc):=Il d3 ⟨A4 _ _,b3.2⟩ c8;have i9:=f0.up c8;have j3:W5.heap.size<(W5.alloc (Kz [Ez,Nz,Nz] 57)).drew.heap.size:=kY.2.2;refine Y1 hK b6 ?_;clear hK K;clear b3 c8;generalize (W5.alloc (Kz [Ez,Nz,Nz] 57)).drew=W6 at *;refine T0 5 rfl (λK hK=>?_);go_simp;go_wp2_with (go_at_call 79;refine (DY ls _ W6 i9 (by omega)).mono ?_;rintro e w7 ⟨⟨un,rfl,a6⟩,c6⟩)
   obtain⟨an,cn,rfl⟩:=a6.lst.shape;have b7:Up W5 w7/\At w7 wA.heap.size 0 (Tz nm)/\At w7 wA.heap.size 1 (Vz la ls.length lc):=Il d3 b6 c6;have f4:=kY.up c6 j3;have a8:∀g,(Vz an ls.length cn).ownBlock=some g->W6.heap.size<=g:=λg hg=>(a6.lt g hg).1;refine Y1 hK b7 ?_;clear hK K;refine I2 6 rfl b7 ?_;clear kY b6 i9 c6;have HF:Hid (CB (((w7.setCell ⟨W5.heap.size,0,none⟩ (Tz nm)).setCell ⟨W5.heap.size,1,none⟩ (Nz)).setCell ⟨W5.heap.size,2,none⟩ (Vz an ls.length cn)) W5.heap.size [Tz nm,Nz,Vz an ls.length cn]):=((f4.set (j:=0) (u:=Tz nm) (by simp)).set (j:=1) (u:=Nz) (by simp)).set (j:=2) (u:=Vz an ls.length cn) (by simp);have HO:Hid (G3 (((w7.setCell ⟨W5.heap.size,0,none⟩ (Tz nm)).setCell ⟨W5.heap.size,1,none⟩ (Nz)).setCell ⟨W5.heap.size,2,none⟩ (Vz an ls.length cn)) W5.heap.size (Vz an ls.length cn) ls):=Qc (N1 a6 (Nat.le_of_lt j3)) (λg hg=>by have:=a8 g hg;omega) _ _ _;have c7:=ZL b7 (A3 _) d3 (Tz nm) (Nz) (Vz an ls.length cn);obtain⟨⟨j0,j1,j2⟩,m0,m1,m2⟩:=f4.c3;refine T0 8 rfl (λK hK=>?_);go_simp;refine Y1 hK c7 ?_;clear hK K;refine Y2 (by kernel_rfl) ?_ _;have f3:=c7.1;clear j0 j1 j2 m0 m1 m2 f4 b7 c7 a6;go_wp2_with fail;go_meet
   case rel=>exact⟨W5.heap.size,_,rfl,HF.out,HO.out,A3 _,λg hg=>by have:=a8 g hg;omega,f3⟩
 case rest =>
  obtain⟨Y,un,rfl,g6,a6,hY,m3,d2⟩:=hcut;obtain⟨an,cn,k4⟩:=a6.lst.shape;subst k4;have m8:=d2.size;have l1:=Hs5.out;have f5:=i6.up d2 (by omega);have j4:=i7.up d2 (by omega);have d6:=D4 e8 d2;have j5:=e9.up d2;have j6:=(M2.new e9 j5 a6 (A3 _) (by omega) (FJ (by omega))).nil_new;have j7:=j6.perm (AdY ps (U3 b nm) ((⟨nm,[],ls⟩,Nz,Vz an ls.length cn):Bv) ((Vz a3 b.tg.length c3),b.tg) (by omega));have f6:=i8.up d2;have a9:=f6.1;have b8:=f6.one ps (λ_ h=>h);clear b3 e9 j5 j6 i8 f6 i6 i7 e8 f0;obtain⟨⟨y0,y1⟩,-⟩:=f5.c2;obtain⟨⟨b0,b1,b2⟩,-⟩:=g6.c3;obtain⟨W9,g7,g8,b4,m4⟩:∃W9,wc.alloc (Kz [Tz nm,Nz,Vz an ls.length cn] 57)=W9/\DN W9 wc.heap.size ((⟨nm,[],ls⟩,Nz,Vz an ls.length cn):Bv)/\Up wc W9/\W9.heap.size=wc.heap.size+1:=⟨_,rfl,heap_alloc_new _ _,(A4 _ _).alloc (A3 _) _,by simp⟩;have a0:=P0 a9 b4;have f7:(Vz a4 b.bs.length c4).ownBlock≠some wc.heap.size:=λe=>by have:=(a9.lt _ e).2;omega
  have c9:=Ud ps ((⟨nm,[],ls⟩,Nz,Vz an ls.length cn):Bv) (U3 b nm) _ W1.heap.size wc.heap.size W9 (by omega) (by omega) a0 b8 g8 (by simp[P6,Value.oneCell']) f7 (by omega);have d9:∀g,(Vz a4 b.bs.length c4).ownBlock=some g->g<w2.heap.size:=e7;have j8:=f5.up b4 (by omega);have j9:=j4.up b4 (by omega);have k0:=D4 d6 b4;have k1:=j7.up b4;rw[l0] at c9 a0;clear a9 b8 f5 j4 g6 a6 j7 g8 d6 b4;go_wp2_with fail;try rw[g7]
  clear g7;refine c9.mono ?_;rintro e f8 ⟨uB,rfl,a5,a7,l7⟩;obtain⟨ux,uc,k5⟩:=L9 a5;subst k5;have d0:=j8.kept a7 (λe=>by have:=d9 _ e.symm;omega);have e2:=j9.kept a7 (Af a0 (by omega));have e3:=k1.row a0 a7;have e4:Up w f8:=O6 k0 a0 a7 (by omega);have m9:=(a5.lt);have l2:=a7.size;clear y0 y1 b0 b1 b2 c9 a0 j8 j9 k1 k0
  have Hne:Hid (∀g,(Vz ux (b.bs.length+1) uc).ownBlock=some g->some g≠some w2.heap.size):=λg hg e=>by
   have e':=A5 e;rcases l7 g hg with k|k
   ·have:=d9 g k;omega
   ·omega
  obtain⟨W7,g9,k6,h0,k7,k8,d5⟩:∃W7,f8.setCell ⟨w2.heap.size,1,none⟩ (Vz ux (b.bs.length+1) uc)=W7/\CB W7 w2.heap.size [(Vz a3 b.tg.length c3),Vz ux (b.bs.length+1) uc]/\CB W7 (w.heap.size+1) [Nz,Nz]/\M2 W7 W1.heap.size (some w2.heap.size) (((Vz a3 b.tg.length c3),b.tg)::V6 (ps.take (U3 b nm)++((⟨nm,[],ls⟩,Nz,Vz an ls.length cn):Bv)::ps.drop (U3 b nm)))/\Up w W7/\W7.ownsRow W1.heap.size 57 3 (Vz ux (b.bs.length+1) uc) (b.bs.length+1) (E4 (ps.take (U3 b nm)++((⟨nm,[],ls⟩,Nz,Vz an ls.length cn):Bv)::ps.drop (U3 b nm))) :=
   ⟨_,rfl,d0.set (j:=1) (by simp),e2.other (by omega),e3.set 1 _,e4.setCell (p:=⟨w2.heap.size,1,none⟩) (by show _<=w2.heap.size;omega) _,P4 a5 (E6 (rb:=w2.heap.size) (off:=1) (F4 f8 _) _) Hne.out⟩
  obtain⟨⟨y0,y1⟩,g0,g1⟩:=d0.c2;go_upto_region 20 with fail;try rw[g9]
  clear g9 y0 y1 g0 g1 d0 e2 e3 e4 a5 a7;obtain⟨⟨y0,y1⟩,-⟩:=k6.c2;obtain⟨⟨r0,r1⟩,q0,q1⟩:=h0.c2;have b5:w.heap.size+1<W1.heap.size:=by omega
  have k2:(b.bs.take (U3 b nm)++⟨nm,[],ls⟩::b.bs.drop (U3 b nm)).length=b.bs.length+1:=by rw[A9,B8,List.length_cons,A8];omega
  have l3:(ps.take (U3 b nm)++((⟨nm,[],ls⟩,Nz,Vz an ls.length cn):Bv)::ps.drop (U3 b nm)).length=b.bs.length+1:=by rw[A9,B8,List.length_cons,A8];omega
  have l4:(ps.take (U3 b nm)++((⟨nm,[],ls⟩,Nz,Vz an ls.length cn):Bv)::ps.drop (U3 b nm)).map (·.1)=b.bs.take (U3 b nm)++⟨nm,[],ls⟩::b.bs.drop (U3 b nm):=by rw[← x3,List.map_append,List.map_take,List.map_cons,List.map_drop]
  go_wp2_with fail;refine CF results61 underlying26 rfl M4 h0 rfl ?_;have e5:=J0 (J0 d5 (E6 (rb:=w.heap.size+1) (off:=0) (F4 _ _) (Vz a3 b.tg.length c3)) b5) (E6 (rb:=w.heap.size+1) (off:=1) (F4 _ _) (Vz ux (b.bs.length+1) uc)) b5;have k3:=(k7.free.setLow b5 0 (Vz a3 b.tg.length c3)).setLow b5 1 (Vz ux (b.bs.length+1) uc)
  have l5:=k3.bsW (fs:=[((Vz a3 b.tg.length c3),b.tg)]) (v:=Vz ux (b.bs.length+1) uc) (by rw[l3];exact e5) (λq hq=>by
   rcases C9.1 hq with h|h
   ·exact Hnm.out q (List.mem_of_mem_take h)
   ·rcases List.mem_cons.1 h with h|h
    ·subst h;exact hnz
    ·exact Hnm.out q (List.mem_of_mem_drop h))
  refine⟨⟨_,rfl,a3,c3,ux,uc,_,?_,?_,l4,k3.low (by omega)⟩,I4 k8 (Nat.le_succ _) _ _⟩
  ·show Value.agg #[_,_]=Value.agg #[_,Vz _ (b.bs.take (U3 b nm)++⟨nm,[],ls⟩::b.bs.drop (U3 b nm)).length _]
   rw[k2]
  ·show BM _ _ (Vz _ (b.bs.take (U3 b nm)++⟨nm,[],ls⟩::b.bs.drop (U3 b nm)).length _) _
   rw[k2];exact l5.low (by omega)
end Go.Proofs.YtcgkgmmclfeohaaGreatDoor
