/- The program's chapter 13: what is done where somebody needs less. -/
import Derived.Test.YtcgkgmmclfeohaaGreatDoorJ17
import Derived.Test.YtcgkgmmclfeohaaGreatDoorJ18
import Derived.Test.YtcgkgmmclfeohaaGreatDoorJ20
import Derived.Test.YtcgkgmmclfeohaaGreatDoorJ31
namespace Go.Proofs.YtcgkgmmclfeohaaGreatDoor
open Go.Proofs.Tryz
open Go.RowKit
variable{a b l:List BA}{x0 x1:Value}
theorem QH(h:AM l):(AH l).Pairwise (· < ·):=by
 rw[List.pairwise_iff_getElem];intro i j hi hj hij;have a0:i<l.length:=by simpa [AH] using hi
 have a1:j<l.length:=by simpa [AH] using hj
 have:=El h (j-i-1) i _ _ (A0 a0) (by rw[show i+1+(j-i-1)=j by omega];exact A0 a1);rw[DT] at this;simpa [AH] using this
theorem AbS(h:AH a=AH b):a=b:=by
 refine List.ext_getElem (by simpa [AH] using congrArg List.length h) λi h1 h2=>?_;have:(AH a)[i]?=(AH b)[i]?:=by rw[h]
 simp only[AH,B3,A0 h1,A0 h2,Option.map_some,Option.some.injEq] at this;exact Adp this
theorem Abb(ha:AM a)(hb:AM b)(f g:BA->Bool)(h:∀s,(s∈a/\f s=true)↔(s∈b/\g s=true)):a.filter f=b.filter g:=by
 refine AbS (JM _ _ ?_ ?_ λx=>?_)
 ·exact (QH ha).sublist (List.Sublist.map _ List.filter_sublist)
 ·exact (QH hb).sublist (List.Sublist.map _ List.filter_sublist)
 ·simp only[AH,List.mem_map,List.mem_filter];exact⟨λ⟨s,hs,e⟩=>⟨s,(h s).1 hs,e⟩,λ⟨s,hs,e⟩=>⟨s,(h s).2 hs,e⟩⟩
theorem TU(ha:AM a)(hb:AM b):a.filter (D7 b)=b.filter (D7 a):=Abb ha hb _ _ λs=>by
 rw[S0,S0];exact And.comm
theorem Sw:∀(ps:List Bv)(k:Nat)(p:Bv)(x:Ba)(u:Value),ps[k]?=some p->x.nm=p.1.nm->(E4 ps).set (k*3+2) u=E4 (ps.set k ((x,p.2.1,u):Bv))
 | q::r,0,p,x,u,h,e=>by
  obtain rfl:q=p:=by simpa using h
  simp[E4,P6,e]
 | q::r,k+1,p,x,u,h,e=>by
  have:=Sw r k p x u (by simpa using h) e;rw[show (k+1)*3+2=(k*3+2)+3 by omega];simp[E4,P6,this]
theorem Mu:∀(ps:List Bv)(k:Nat)(p:Bv)(x:Ba)(u:Value),ps[k]?=some p->x.nm=p.1.nm->(E4 ps).set (k*3+1) u=E4 (ps.set k ((x,u,p.2.2):Bv))
 | q::r,0,p,x,u,h,e=>by
  obtain rfl:q=p:=by simpa using h
  simp[E4,P6,e]
 | q::r,k+1,p,x,u,h,e=>by
  have:=Mu r k p x u (by simpa using h) e;rw[show (k+1)*3+1=(k*3+1)+3 by omega];simp[E4,P6,this]
theorem AbT{W w0 w1:World}{q i j:Nat}(hq:q<W.heap.size)(h:Up W w0/\At w0 q i x0/\At w0 q j x1)(hB:Up w0 w1):Up W w1/\At w1 q i x0/\At w1 q j x1:=by
 have lq:q<w0.heap.size:=A1 hq h.1.size;exact⟨D4 h.1 hB,(hB.cell (p:=⟨q,i,none⟩) lq).trans h.2.1,(hB.cell (p:=⟨q,j,none⟩) lq).trans h.2.2⟩
theorem Adr(ps:List Bv)(k:Nat)(a b:Bv):(ps.set k a).set k b=ps.set k b:=by simp
theorem Sx(f:Value×List BA):AQ [f] [f].length=f.2:=by simp[AQ]
theorem WK(ss has:List BA)(v hv:Value)(sb:Nat)(w:World)(h:Ls w v ss)(hs:ss.length<=100)(hc:At w sb 0 hv)(hl:Ls w hv has)(hsb:sb<w.heap.size)(hn:has.length<=900):
  Calls prog 82 #[v,Sz sb 1 1] w λe w'=>(∃u,e=.returned u/\G3 w' w.heap.size u (ss.filter (D7 has)))/\Up w w':=by
 have:=PA ss v [(hv,has)] sb w h hs (λi f hf=>by
  match i,hf with
  | 0,hf =>
   obtain rfl:(hv,has)=f:=by simpa using hf
   exact⟨hc,hl⟩) hsb (by simp) (by rw[Sx];exact hn)
 rw[Sx] at this;exact this
set_option maxRecDepth 20000 in
set_option maxHeartbeats 8000000 in
theorem SA(b:Bk)(v:Value)(nm:BA)(lv:Value)(ls:List BA)(w:World)(h:K6 w v b)(hl:Ls w lv ls)(hls:ls.length<=100)(hok:I8 b)(hasc:AM ls)(hm:D7 (I3 b.bs) nm=true):
  Calls prog 61 #[v,.iface 63 (.agg #[Tz nm,lv])] w λe w'=>(∃u,e=.returned u/\K8 w' w.heap.size u (X8 b (F3 b nm) (R6 ls)))/\Up w w':=by
 have f1:=Uz;have f2:=Ahq;have f3:=Ahr;have f4:=Ahs;obtain⟨a1,c1,a2,c2,rfl,-,-⟩:=h.parts;obtain⟨la,lc,rfl,-,k4,-⟩:=id hl;have e9:=h.szb;obtain⟨s1,s2,s3⟩:=Ai hok;obtain⟨W1,g2,kA,kR,e8,l3⟩:=cbE2 w [Vz a1 (b).tg.length c1,Vz a2 (b).bs.length c2] 26 [Nz,Nz] 26;go_in;go_upto_region 1 with fail;try rw[g2]
 clear g2;have hk:=h.up e8;obtain⟨e0,e1⟩:=kA.c2';go_wp2_with fail;refine (FY b _ _ hk (by omega) (by omega) (λy hy=>by have:=s3 y hy;omega)).mono ?_;rintro e w2 ⟨⟨a3,c3,a4,c4,ps,rfl,x2,x3,hF⟩,c6⟩;have l6:=c6.size;have c8:∀g',(Vz a4 b.bs.length c4).ownBlock=some g'->g'<w2.heap.size:=λg' hg'=>(x2.1.lt g' hg').2;replace hF:=hF.avoid (A3 _);have Hnm:Hid (∀p∈ps,p.1.nm.size<=maxLen):=λp hp=>(x2.2 p hp).2.2;have g8:=kA.up c6 (by omega);have g9:=kR.up c6 (by omega);have h0:=hk.up c6;have h2:=D4 e8 c6;clear e0 e1 kA kR hk e8 c6;go_upto_region 2 with fail;obtain⟨W3,g3,kX,b4,l4⟩:=cbE1 w2 [(Vz a3 b.tg.length c3),Vz a4 b.bs.length c4] 26;try rw[g3]
 clear g3;have h3:=g8.up b4 (by omega);have h4:=g9.up b4 (by omega);have h5:=h0.up b4;have h6:=D4 h2 b4;have h7:=x2.up b4;have h8:=hF.up b4;clear g8 g9 h0 h2 x2 hF b4;obtain⟨e0,e1⟩:=h3.c2';have h9:Up W3 W3/\At W3 w.heap.size 0 (Vz a1 b.tg.length c1)/\At W3 w.heap.size 1 (Vz a2 b.bs.length c2):=⟨A4 _ _,e0,e1⟩;have k6:w.heap.size<W3.heap.size:=by omega
 clear e0 e1;go_wp2_with fail
 go_region_held (λw'=>Up W3 w'/\At w' w.heap.size 0 (Vz a1 b.tg.length c1)/\At w' w.heap.size 1 (Vz a2 b.bs.length c2)) (first|exact Lh h9|exact Il k6 (by assumption) (by assumption))
  (first
   | (go_at_call 142;refine (EM nm _).mono ?_;rintro e' w9 ⟨rfl,c7⟩)
   | (go_at_call 80;refine (Ft b _ nm _ ((h5.up (A4 _ _).drew).up c7) hok).mono ?_;rintro e' wA ⟨rfl,l2⟩))
 rename_i hHeld;have b6:=hHeld.1;clear hHeld h9 c7 l2;have l7:=b6.size;have i0:=kX.up b6 (by omega);have i1:=h4.up b6 (by omega);have i2:=D4 h6 b6;have i3:=h7.up b6;have i4:=h8.up b6;clear kX h4 h3 h6 h7 h8 h5 b6;rw[Na hok.2.2.2.1 hm];obtain⟨-,e5⟩:=BI hm;have i5:ps.length=b.bs.length:=by rw[← x3,B5]
 have a8:=i3.1;rw[i5] at a8;obtain⟨g,cp,g4⟩:=U5 a8 (by omega);obtain⟨rfl,-,rfl⟩:=Value.slice.inj g4;clear g4
 have b5:∃hv nv,ps[F3 b nm]?=some (b.bs[F3 b nm],hv,nv):=by
  have h1:(ps.map (·.1))[F3 b nm]?=some b.bs[F3 b nm]:=by rw[x3,A0 e5]
  rw[B3] at h1;obtain⟨p,hp,e⟩:=B6.1 h1;exact⟨p.2.1,p.2.2,by rw[hp,← e]⟩
 obtain⟨hv,nv,b5⟩:=b5;have Hchg:Hid (X8 b (F3 b nm) (R6 ls)=⟨b.tg,b.bs.set (F3 b nm) (R6 ls b.bs[F3 b nm])⟩):=BQ (A0 e5);have c9:AM (b.bs[F3 b nm]).has:=(hok.2.2.2.2.1.at (k:=F3 b nm) e5 e5).2.2;obtain⟨s4,s5⟩:=s3 b.bs[F3 b nm] (by simp);have k7:=e9.2 b.bs[F3 b nm] (by simp);have Hflt:Hid (ls.filter (D7 (b.bs[F3 b nm]).has)=(b.bs[F3 b nm]).has.filter (D7 ls)):=TU hasc c9;have Hm3:Hid (∀(u1 u2:Value),(ps.set (F3 b nm) ((R6 ls b.bs[F3 b nm],u1,u2):Bv)).map (·.1)=b.bs.set (F3 b nm) (R6 ls b.bs[F3 b nm])):=λu1 u2=>by rw[List.map_set,x3]
 clear c9 hasc;generalize hp0:F3 b nm=p at *;have Hp0:Hid (F3 b nm=p):=hp0;clear hp0;generalize b.bs[p]=x0 at *;go_upto_region 14 with fail;obtain⟨W5,g5,g6,b9,l5⟩:=cbE1 wA [Tz nm,Vz la ls.length lc] 63;try rw[g5]
 clear g5;have f0:=i0.up b9 (by omega);have i6:=i1.up b9 (by omega);have f5:=D4 i2 b9;have f6:=i4.up b9;have l8:=c8 g rfl;have l9:=(a8.lt g rfl).1;have b3:=P0 a8 b9;have i7:=hl.up f5;clear i0 i1 i2 i3 i4 b9 a8 c8 h hl;obtain⟨⟨y0,y1⟩,-⟩:=f0.c2;obtain⟨z0,z1⟩:=g6.c2';go_wp2_with fail;refine (DY ls _ _ i7 (by omega)).mono ?_;rintro e w6 ⟨⟨un,rfl,g1⟩,b8⟩;obtain⟨an,cn,rfl⟩:=g1.lst.shape;have m0:=b8.size;have i8:=f0.up b8 (by omega);have i9:=i6.up b8 (by omega);have j0:=D4 f5 b8;have j1:=f6.up b8;have a0:=P0 b3 b8;have d0:=f6.front b5;have b7:=j1.front b5;have j2:=(M2.new d0.swap.tail b7.swap.tail g1 (A3 _) (by omega) (FJ (by omega))).swap;have d3:G3 w6 W1.heap.size hv x0.has:=b7.own _ List.mem_cons_self;obtain⟨ah,ch,k5⟩:=d3.lst.shape;subst k5;have c2:=a0.cellAt (p*3+2) (by omega);rw[Bh ps p _ b5 2 _ rfl] at c2;have q2:=a0.frozenAt (p*3+2);have st:=a0.stored (p*3+2) (Vz an ls.length cn);have a5:=st.1;rw[Sw ps p _ ⟨x0.nm,x0.has,ls⟩ (Vz an ls.length cn) b5 rfl] at a5;have d4:=j2.row a0 st.2;have j3:=i8.kept st.2 (by simp;omega);have j4:=i9.kept st.2 (by simp;omega);have j5:Up w (w6.setCell ⟨g,p*3+2,none⟩ (Vz an ls.length cn)):=O6 j0 a0 st.2 (by omega);have Hz7:Hid ((w6.setCell ⟨g,p*3+2,none⟩ (Vz an ls.length cn)).heap.size=w6.heap.size):=by show _=_;simp
 clear y0 y1 z0 z1 f0 i6 g6 f6 j1 d0 b7 j2 b3 a0 f5 j0 st g1 i7 d3 i8 i9 b8;go_upto_region 16 with fail;generalize w6.setCell ⟨g,p*3+2,none⟩ (Vz an ls.length cn)=W7 at *;clear c2 q2;have Hp2:Hid ((ps.set p ((⟨x0.nm,x0.has,ls⟩,Vz ah x0.has.length ch,Vz an ls.length cn):Bv))[p]?=some (⟨x0.nm,x0.has,ls⟩,Vz ah x0.has.length ch,Vz an ls.length cn)):=List.getElem?_set_self (by omega);have d1:=a5.cellAt (p*3+1) (by omega);rw[Bh _ p _ Hp2.out 1 _ rfl] at d1;have d2:=a5.cellAt (p*3+2) (by omega);rw[Bh _ p _ Hp2.out 2 _ rfl] at d2;have j6:g<W7.heap.size:=by have:=Hz7.out;omega
 have m1:w2.heap.size+1<W7.heap.size:=by have:=Hz7.out;omega
 have a9:Up W7 W7.drew/\At W7.drew g (p*3+1) (Vz ah x0.has.length ch)/\At W7.drew g (p*3+2) (Vz an ls.length cn):=⟨(A4 _ _).drew,d1,d2⟩;have k8:(∀s∈x0.has,s.size<=maxLen):=k7.1;have d5:Ls W7 (Vz ah x0.has.length ch) x0.has:=(d4.own _ List.mem_cons_self).lst.ls k8;have d6:Ls W7 (Vz an ls.length cn) ls:=(d4.own _ (C7 _ List.mem_cons_self)).lst.ls k4;have j7:Below W7.drew.heap.size W7.drew (W7.alloc (Kz [Vz ah x0.has.length ch] 23)).drew:=(A4 W7.drew.heap.size W7.drew).alloc (A3 _) (Kz [Vz ah x0.has.length ch] 23);have e6:Up W7 (W7.alloc (Kz [Vz ah x0.has.length ch] 23)).drew/\World.cell? (W7.alloc (Kz [Vz ah x0.has.length ch] 23)).drew ⟨g,p*3+1,none⟩=some (Vz ah x0.has.length ch)/\World.cell? (W7.alloc (Kz [Vz ah x0.has.length ch] 23)).drew ⟨g,p*3+2,none⟩=some (Vz an ls.length cn):=AbT j6 a9 j7;clear d1 d2;go_wp2_with fail;refine T9 13 (λw'=>Up W7 w'/\At w' g (p*3+1) (Vz ah x0.has.length ch)/\At w' g (p*3+2) (Vz an ls.length cn)) (by kernel_rfl) ?_;refine I2 0 rfl a9 ?_;refine I2 1 rfl a9 ?_;refine I2 2 rfl a9 ?_;refine I2 3 rfl a9 ?_;refine I2 4 rfl a9 ?_;refine I2 5 rfl a9 ?_;refine I2 6 rfl a9 ?_;refine I2 7 rfl a9 ?_;refine I2 8 rfl a9 ?_;refine T0 9 rfl (λK hK=>?_);go_simp;refine Y1 hK e6 ?_;clear hK K;have f7:Up W7 (W7.alloc (Kz [Vz ah x0.has.length ch] 23)).drew:=e6.1;have b0:(W7.alloc (Kz [Vz ah x0.has.length ch] 23)).drew.cell? ⟨W7.heap.size,0,none⟩=some (Vz ah x0.has.length ch):=(O7 W7 [Vz ah x0.has.length ch] 23).1 0 _ rfl;have d7:=d5.up f7;have d8:=d6.up f7;have Hz8:Hid ((W7.alloc (Kz [Vz ah x0.has.length ch] 23)).drew.heap.size=W7.heap.size+1):=by show _=_;simp
 generalize (W7.alloc (Kz [Vz ah x0.has.length ch] 23)).drew=W8 at *;have k9:W7.heap.size<W8.heap.size:=by have:=Hz8.out;omega
 refine T0 10 rfl (λK hK=>?_);go_simp;go_wp2_with (go_at_call 82;refine (WK ls x0.has _ _ W7.heap.size _ d8 hls b0 d7 k9 (by omega)).mono ?_;rintro e w9 ⟨⟨uh,rfl,e7⟩,c7⟩)
 obtain⟨xh,yh,g7⟩:=e7.lst.shape;rw[Hflt.out] at g7 e7;subst g7;have c5:Up W7 w9/\At w9 g (p*3+1) (Vz ah x0.has.length ch)/\At w9 g (p*3+2) (Vz an ls.length cn):=AbT j6 e6 c7;refine Y1 hK c5 ?_;clear hK K;refine T0 11 rfl (λK hK=>?_);go_simp;refine Y1 hK c5 ?_;clear hK K;refine I2 12 rfl c5 ?_;have m2:=c7.size;have a7:=c5.1;have j8:=j3.up a7 (by omega);have j9:=j4.up a7 (by omega);have k0:=D4 j5 a7;have a6:=P0 a5 a7;have k1:=d4.up a7;have k2:=M2.new d4.tail k1.tail e7 (by omega) (by omega) (FJ (by omega));have d1:=c5.2.1;have q1:=a6.frozenAt (p*3+1);have st:=a6.stored (p*3+1) (Vz xh (x0.has.filter (D7 ls)).length yh);have b1:=st.1;rw[Mu _ p _ (R6 ls x0) (Vz xh (x0.has.filter (D7 ls)).length yh) Hp2.out rfl,Adr] at b1;have d9:=k2.row a6 st.2;have f8:=j8.kept st.2 (by simp;omega);have e2:=j9.kept st.2 (by simp;omega);have f9:Up w (w9.setCell ⟨g,p*3+1,none⟩ (Vz xh (x0.has.filter (D7 ls)).length yh)):=O6 k0 a6 st.2 (by omega);clear a9 e6 j3 j4 j5 a5 d4 d5 d6 j7 f7 b0 d7 d8 e7 c7 a7 j8 j9 k0 a6 k1 k2 st;refine T0 13 rfl (λK hK=>?_);go_simp;refine GU hK ?_;clear hK K;refine Y2 (by kernel_rfl) ?_ _;clear d1 q1 c5;have Hlf:Hid (R6 ls x0=⟨x0.nm,x0.has.filter (D7 ls),ls⟩):=rfl;generalize x0.has.filter (D7 ls)=fl at *;generalize w9.setCell ⟨g,p*3+1,none⟩ (Vz xh fl.length yh)=W10 at *;obtain⟨⟨y0,y1⟩,-⟩:=f8.c2;obtain⟨⟨r0,r1⟩,q0,q1⟩:=e2.c2;have b2:w.heap.size+1<W1.heap.size:=by omega
 have g0:M2 W10 W1.heap.size (some w2.heap.size) (((Vz a3 b.tg.length c3),b.tg)::V6 (ps.set p ((R6 ls x0,Vz xh fl.length yh,Vz an ls.length cn):Bv))):=by
  refine M2.back ?_ (by omega);rw[Hlf.out];exact d9
 clear d9;go_wp2_with fail;refine CF results61 underlying26 rfl M4 e2 rfl ?_;have e3:=J0 (J0 b1 (E6 (rb:=w.heap.size+1) (off:=0) (F4 _ _) (Vz a3 b.tg.length c3)) b2) (E6 (rb:=w.heap.size+1) (off:=1) (F4 _ _) (Sz g b.bs.length c4)) b2;have k3:=(g0.free.setLow b2 0 (Vz a3 b.tg.length c3)).setLow b2 1 (Sz g b.bs.length c4)
 have l0:=k3.bsW (fs:=[((Vz a3 b.tg.length c3),b.tg)]) (v:=Sz g b.bs.length c4) (by rw[List.length_set,i5];exact e3) (λq hq=>by
  rcases List.mem_or_eq_of_mem_set hq with h|h
  ·exact Hnm.out q h
  ·subst h;exact Hnm.out ((x0,Vz ah x0.has.length ch,nv):Bv) (A6 b5))
 have l1:=Hm3.out (Vz xh fl.length yh) (Vz an ls.length cn);have e4:=Hchg.out;rw[← Hp0.out] at e4;rw[e4];refine⟨⟨_,rfl,a3,c3,some ⟨g,0,none⟩,c4,_,?_,?_,by rw[Hp0.out];exact l1,k3.low (by omega)⟩,I4 f9 (Nat.le_succ _) _ _⟩
 ·show Value.agg #[_,_]=Value.agg #[_,Vz _ (b.bs.set _ _).length _]
  rw[List.length_set]
 ·show BM _ _ (Vz _ (b.bs.set _ _).length _) _
  rw[List.length_set];exact l0.low (by omega)
end Go.Proofs.YtcgkgmmclfeohaaGreatDoor
