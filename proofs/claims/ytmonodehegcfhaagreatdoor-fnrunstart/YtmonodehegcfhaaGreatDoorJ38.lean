/- Asking, in plain: as the program tells it. -/
import Derived.Test.YtmonodehegcfhaaGreatDoorJ25
import Derived.Test.YtmonodehegcfhaaGreatDoorJ35
import Derived.Test.YtmonodehegcfhaaGreatDoorJ22
import Derived.Test.YtmonodehegcfhaaGreatDoorJ13
set_option maxRecDepth 20000
set_option maxHeartbeats 8000000
namespace Go.Proofs.YtmonodehegcfhaaGreatDoor
open Go.Proofs.Tryz
open Go.RowKit
variable{b:Bk}{nm s:BA}{cd:Int}{bs:List Ba}{has nj ss tg:List BA}{ts:List Tr}{xs xs':List Value}{base e i j k n tb:Nat}{r:Option Nat}{v v':Value}{w w':World}
theorem WV(hn:Ad nj)(h1:I4 has nj)(h2:I4 tg nj):nj.filter (E3 (has++tg))=T7 has tg:=by
 obtain⟨bm,bp⟩:=BJ tg has;refine Zj (Ed _ _ ((Xp hn).sublist (List.Sublist.map _ List.filter_sublist)) (bp (Xp h1.2)) λx=>?_);refine Iff.trans ?_ (bm x).symm;simp only[F1,List.mem_map,List.mem_filter,S5,D0];constructor
 ·rintro⟨s,⟨-,hs|hs⟩,e⟩
  ·exact .inl ⟨s,hs,e⟩
  ·exact .inr ⟨s,hs,e⟩
 ·rintro (⟨s,hs,e⟩|⟨s,hs,e⟩)
  ·exact⟨s,⟨FQ h1.1 hs,.inl hs⟩,e⟩
  ·exact⟨s,⟨FQ h2.1 hs,.inr hs⟩,e⟩
def Dn(b:Bk)(nm s:BA):Prop:=Dq b.bs s≠⟨#[]⟩/\Dq b.bs s≠nm
theorem Vf(h:G0 s=true):s≠⟨#[]⟩:=λe=>by subst e;revert h;decide
theorem YQ(hm:E3 (G7 b.bs) nm=true):∃hpl:L1 b nm<b.bs.length,(b.bs[L1 b nm]).nm=nm:=by
 obtain⟨hi,a0⟩:=Dx hm;obtain⟨k,hk,a2,a1⟩:=Ia (l:=G7 b.bs) (s:=nm) (by omega);obtain rfl:L1 b nm=k:=by omega
 exact⟨a0,by rw[← Au b.bs _ a0];exact a1⟩
theorem NA(hok:J1 b)(hm:E3 (G7 b.bs) nm=true):Dn b nm s↔∃(i:Nat)(x:Ba),i≠L1 b nm/\b.bs[i]?=some x/\E3 x.has s=true:=by
 obtain⟨a0,a1⟩:=YQ hm;constructor
 ·rintro⟨h1,h2⟩;cases hf:b.bs.find? (λx=>E3 x.has s) with
  | none=>exact absurd (by rw[Dq,hf];rfl) h1
  | some x =>
   obtain⟨hx,k,hk,e,-⟩:=List.find?_eq_some_iff_getElem.1 hf;refine⟨k,x,λhp=>h2 ?_,by rw[A0 hk,e],hx⟩;rw[Dq,hf];subst hp;rw[← e];exact a1
 ·rintro⟨i,x,hip,hx,hs⟩;obtain⟨hi,rfl⟩:=A3.1 hx
  have hw:Dq b.bs s=(b.bs[i]).nm:=Rj hi (λj y hj hy=>by
   cases hq:E3 y.has s
   ·rfl
   ·have:=hok.2.2.2.2.2 i j _ y hj (by omega) (A0 hi) hy;rw[Z9] at this;exact absurd ((S5 _ _).1 hq) (this s ((S5 _ _).1 hs))) hs
  rw[Dn,hw];refine⟨Vf ?_,λe=>hip ?_⟩
  ·exact hok.2.2.1 i _ (by rw[L8];exact hi) (by rw[A0 (by rw[L8];exact hi),Au _ _ hi])
  ·refine Fh hok.2.2.2.1 (a:=nm) ?_ ?_
   ·rw[A0 (by rw[L8];exact hi),Au _ _ hi,e]
   ·rw[A0 (by rw[L8];exact a0),Au _ _ a0,a1]
theorem NC(hok:J1 b)(hm:E3 (G7 b.bs) nm=true):Bz b.bs (L1 b nm:Int) tg↔∃s∈tg,Dn b nm s:=by
 constructor
 ·rintro⟨i,x,hi,hx,hs⟩;obtain⟨s,h1,h2⟩:=(Ir _ _).1 hs;exact⟨s,h2,(NA hok hm).2 ⟨i,x,by omega,hx,(S5 _ _).2 h1⟩⟩
 ·rintro⟨s,hs,ho⟩;obtain⟨i,x,hi,hx,h1⟩:=(NA hok hm).1 ho;exact⟨i,x,by omega,hx,(Ir _ _).2 ⟨s,(S5 _ _).1 h1,hs⟩⟩
def Mn(b:Bk):Prop:=∃ss,R9 b ss true
theorem EM{ok:Bool}(h:R9 b ss ok):ok=pB (Mn b):=by
 cases ok with
 | true=>exact (L9 ⟨ss,h⟩).symm
 | false=>exact (I5 λ⟨ss',h'⟩=>by have:=(h.uniq h').2;cases this).symm
noncomputable def BE(b:Bk)(nm:BA)(tg:List BA):Int :=
 if Cm b nm tg≠0 then Cm b nm tg else if pB (Bz b.bs (L1 b nm:Int) tg)=true then 5 else if (pB (Mn b) && !pB (Mn (Bd b (L1 b nm) (U1 tg))))=true then 6 else 0
theorem KE(h:Cm b nm tg≠0):BE b nm tg=Cm b nm tg:=by simp[BE,h]
theorem ND(h:Cm b nm tg=0)(ht:Bz b.bs (L1 b nm:Int) tg):BE b nm tg=5:=by simp[BE,h,L9 ht]
theorem Ki(h:Cm b nm tg=0)(ht:¬Bz b.bs (L1 b nm:Int) tg):BE b nm tg=if (pB (Mn b) && !pB (Mn (Bd b (L1 b nm) (U1 tg))))=true then 6 else 0:=by simp[BE,h,I5 ht]
theorem Kj(h:BE b nm tg=0):Cm b nm tg=0:=by
 by_cases h0:Cm b nm tg=0
 ·exact h0
 ·rw[KE h0] at h;exact absurd h h0
theorem YR{b':Bk}(h:AL b nm tg cd b'):cd=AA b (BE b nm tg)/\b'=X7 b (BE b nm tg) (Bd b (L1 b nm) (U1 tg)):=by
 rcases h with⟨h1,rfl,hb⟩|⟨h1,h2,rfl,hb⟩|⟨h1,h2,h3,rfl,hb⟩|⟨h1,h2,h3,h4,rfl,hb⟩|⟨h1,h2,h3,h4,⟨ss,h5⟩,⟨st,h6⟩,rfl,hb⟩|⟨h1,h2,h3,h4,h5,rfl,hb⟩
 ·exact⟨by simp[AA,h1],by rw[hb];simp[X7,h1]⟩
 ·have e:BE b nm tg=3:=by rw[KE (by rw[Kw h2];omega),Kw h2]
  exact⟨by simp[AA,h1,e],by rw[hb];simp[X7,h1,e]⟩
 ·have e:BE b nm tg=2:=by rw[KE (by rw[LV h2 h3];omega),LV h2 h3]
  exact⟨by simp[AA,h1,e],by rw[hb];simp[X7,h1,e]⟩
 ·have e:=ND (LW h2 h3) h4;exact⟨by simp[AA,h1,e],by rw[hb];simp[X7,h1,e]⟩
 ·have e:=Ki (LW h2 h3) h4;rw[← EM h5,← EM h6] at e;simp at e;exact⟨by simp[AA,h1,e],by rw[hb];simp[X7,h1,e]⟩
 ·have e:BE b nm tg=0:=by
   rw[Ki (LW h2 h3) h4];rcases h5 with⟨ss,h5⟩|⟨ss,h5⟩
   ·rw[← EM h5];simp
   ·rw[← EM h5];simp
  exact⟨by simp[AA,h1,e],by rw[hb];simp[X7,h1,e]⟩
theorem Xq{W w0 w1:World}{q r:Nat}{x0 x1 x2:Value}(hq:q<W.heap.size)(hr:r<W.heap.size)(h:Up W w0/\At w0 q i x0/\At w0 q j x1/\At w0 r k x2)(hB:Up w0 w1):Up W w1/\At w1 q i x0/\At w1 q j x1/\At w1 r k x2:=by
 have lq:q<w0.heap.size:=A2 hq h.1.size;have lr:r<w0.heap.size:=A2 hr h.1.size;exact⟨D5 h.1 hB,(hB.cell (p:=⟨q,i,none⟩) lq).trans h.2.1,(hB.cell (p:=⟨q,j,none⟩) lq).trans h.2.2.1,(hB.cell (p:=⟨r,k,none⟩) lr).trans h.2.2.2⟩
theorem PT(f g:Value×List BA):AG [f,g] [f,g].length=f.2++g.2:=by simp[AG]
theorem SW(ss has tg:List BA)(v hv tv:Value)(sb:Nat)(w:World)(h:Ls w v ss)(hs:ss.length<=100)(hc:At w sb 0 hv)(hc2:At w sb 1 tv)(hl:Ls w hv has)(hl2:Ls w tv tg)(hsb:sb<w.heap.size)(hn:has.length+tg.length<=900):
  Calls prog 208 #[v,Sz sb 2 2] w λe w'=>(∃u,e=.returned u/\F7 w' w.heap.size u (ss.filter (E3 (has++tg))))/\Up w w':=by
 have:=UI ss v [(hv,has),(tv,tg)] sb w h hs (λi f hf=>by
  match i,hf with
  | 0,hf =>
   obtain rfl:(hv,has)=f:=by simpa using hf
   exact⟨hc,hl⟩
  | 1,hf =>
   obtain rfl:(tv,tg)=f:=by simpa using hf
   exact⟨hc2,hl2⟩) hsb (by simp) (by rw[PT,B0];exact hn)
 rw[PT] at this;exact this
theorem KO(b:Bk)(v:Value)(nm:BA)(lv:Value)(ls:List BA)(w:World)(h:Q6 w v b)(hl:Ls w lv ls)(hls:ls.length<=100)(hok:J1 b)(hpt:I4 ls (O5 b nm))(hm:E3 (G7 b.bs) nm=true):
  Calls prog 190 #[v,.iface 228 (.agg #[Tz nm,lv])] w λe w'=>(∃u,e=.returned u/\S4 w' w.heap.size u (Bd b (L1 b nm) (U1 ls)))/\Up w w':=by
 have f1:=RE;have f2:=Zb;have f3:=Zc;obtain⟨a1,c1,a2,c2,rfl,-,-⟩:=h.parts;obtain⟨la,lc,rfl,-,k2,-⟩:=id hl;have e8:=h.szb;obtain⟨s1,s2,s3⟩:=An hok;obtain⟨W1,f7,kA,kR,e7,k3⟩:=cbE2 w [Vz a1 (b).tg.length c1,Vz a2 (b).bs.length c2] 26 [Nz,Nz] 26;go_in;go_upto_region 1 with fail;try rw[f7]
 clear f7;have hk:=h.up e7;obtain⟨e0,e1⟩:=kA.c2';go_wp2_with fail;refine (Fn b _ _ hk (by omega) (by omega) (λy hy=>by have:=s3 y hy;omega)).mono ?_;rintro e w2 ⟨⟨a3,c3,a4,c4,ps,rfl,x2,x3,hF⟩,c5⟩;have k5:=c5.size;have c8:∀g',(Vz a4 b.bs.length c4).ownBlock=some g'->g'<w2.heap.size:=λg' hg'=>(x2.1.lt g' hg').2;replace hF:=hF.avoid (A4 _);have Hnm:Hid (∀p∈ps,p.1.nm.size<=maxLen):=λp hp=>(x2.2 p hp).2.2;have g4:=kA.up c5 (by omega);have g5:=kR.up c5 (by omega);have g6:=hk.up c5;have g7:=D5 e7 c5;clear e0 e1 kA kR hk e7 c5;go_upto_region 2 with fail;obtain⟨W3,f8,kX,b3,k4⟩:=cbE1 w2 [(Vz a3 b.tg.length c3),Vz a4 b.bs.length c4] 26;try rw[f8]
 clear f8;have g8:=g4.up b3 (by omega);have g9:=g5.up b3 (by omega);have h0:=g6.up b3;have h2:=D5 g7 b3;have h3:=x2.up b3;have h4:=hF.up b3;clear g4 g5 g6 g7 x2 hF b3;obtain⟨e0,e1⟩:=g8.c2';have h5:Up W3 W3/\At W3 w.heap.size 0 (Vz a1 b.tg.length c1)/\At W3 w.heap.size 1 (Vz a2 b.bs.length c2):=⟨A5 _ _,e0,e1⟩;have j7:w.heap.size<W3.heap.size:=by omega
 clear e0 e1;go_wp2_with fail
 go_region_held (λw'=>Up W3 w'/\At w' w.heap.size 0 (Vz a1 b.tg.length c1)/\At w' w.heap.size 1 (Vz a2 b.bs.length c2)) (first|exact RF h5|exact Kx j7 (by assumption) (by assumption))
  (first
   | (go_at_call 242;refine (Gz nm _).mono ?_;rintro e' w9 ⟨rfl,c6⟩)
   | (go_at_call 146;refine (Gb b _ nm _ ((h0.up (A5 _ _).drew).up c6) hok).mono ?_;rintro e' wA ⟨rfl,k1⟩))
 rename_i hHeld;have b5:=hHeld.1;clear hHeld h5 c6 k1;have k6:=b5.size;have h6:=kX.up b5 (by omega);have h7:=g9.up b5 (by omega);have h8:=D5 h2 b5;have h9:=h3.up b5;have i0:=h4.up b5;clear kX g9 g8 h2 h3 h4 h0 b5;rw[Un hok.2.2.2.1 hm];obtain⟨-,c7⟩:=Dx hm;have i1:ps.length=b.bs.length:=by rw[← x3,B5]
 have a8:=h9.1;rw[i1] at a8;obtain⟨g,cp,f9⟩:=I6 a8 (by omega);obtain⟨rfl,-,rfl⟩:=Value.slice.inj f9;clear f9
 have b4:∃hv nv,ps[L1 b nm]?=some (b.bs[L1 b nm],hv,nv):=by
  have h1:(ps.map (·.1))[L1 b nm]?=some b.bs[L1 b nm]:=by rw[x3,A0 c7]
  rw[B1] at h1;obtain⟨p,hp,e⟩:=B6.1 h1;exact⟨p.2.1,p.2.2,by rw[hp,← e]⟩
 obtain⟨hv,nv,b4⟩:=b4;have Hchg:Hid (Bd b (L1 b nm) (U1 ls)=⟨b.tg,b.bs.set (L1 b nm) (U1 ls b.bs[L1 b nm])⟩):=Ih (A0 c7);have b6:=hok.2.2.2.2.1.at (k:=L1 b nm) c7 c7;rw[Dj (A0 c7)] at hpt;obtain⟨s4,s5⟩:=s3 b.bs[L1 b nm] (by simp);have i2:=e8.2 b.bs[L1 b nm] (by simp);have Hflt:Hid ((b.bs[L1 b nm]).nj.filter (E3 ((b.bs[L1 b nm]).has++ls))=T7 (b.bs[L1 b nm]).has ls):=WV b6.1.2 b6.2 hpt;have Hm3:Hid (∀(u1 u2:Value),(ps.set (L1 b nm) ((U1 ls b.bs[L1 b nm],u1,u2):Bv)).map (·.1)=b.bs.set (L1 b nm) (U1 ls b.bs[L1 b nm])):=λu1 u2=>by rw[List.map_set,x3]
 clear b6 hpt;generalize hp0:L1 b nm=p at *;have Hp0:Hid (L1 b nm=p):=hp0;clear hp0;generalize b.bs[p]=x0 at *;go_upto_region 10 with fail;obtain⟨W7,g0,g1,b9,g2⟩:=cbE1 wA [Tz nm,Vz la ls.length lc] 228;try rw[g0]
 clear g0;have Hz7:Hid (W7.heap.size=wA.heap.size+1):=g2;have e9:=h6.up b9 (by omega);have i3:=h7.up b9 (by omega);have f0:=D5 h8 b9;have i4:=i0.up b9;have k7:=c8 g rfl;have k8:=(a8.lt g rfl).1;have a5:=E4 a8 b9;have i5:=hl.up f0;have c9:=i4.front b4;have b7:F7 W7 W1.heap.size hv x0.has:=c9.own _ List.mem_cons_self;have b8:F7 W7 W1.heap.size nv x0.nj:=c9.own _ (C7 _ List.mem_cons_self);obtain⟨ah,ch,j5⟩:=b7.lst.shape;subst j5;obtain⟨an,cn,j6⟩:=b8.lst.shape;subst j6;have d0:=b7.lst.ls i2.1;have d4:=b8.lst.ls i2.2;clear h6 h7 h8 h9 i0 b9 a8 c8 h hl b7 b8 i4 g2;obtain⟨⟨y0,y1⟩,-⟩:=e9.c2;go_upto_region 11 with fail;clear y0 y1;have d1:=a5.cellAt (p*3+1) (by omega);rw[V0 _ p _ b4 1 _ rfl] at d1;have d2:=a5.cellAt (p*3+2) (by omega);rw[V0 _ p _ b4 2 _ rfl] at d2;have d3:At W7 wA.heap.size 1 (Vz la ls.length lc):=g1.1 1 _ rfl;have i6:g<W7.heap.size:=by have:=Hz7.out;omega
 have i7:wA.heap.size<W7.heap.size:=by have:=Hz7.out;omega
 have k9:w2.heap.size+1<W7.heap.size:=by have:=Hz7.out;omega
 have a6:Up W7 W7.drew/\At W7.drew g (p*3+1) (Vz ah x0.has.length ch)/\At W7.drew g (p*3+2) (Vz an x0.nj.length cn)/\At W7.drew wA.heap.size 1 (Vz la ls.length lc):=⟨(A5 _ _).drew,d1,d2,d3⟩;have i8:Below W7.drew.heap.size W7.drew (W7.alloc (Kz [Vz ah x0.has.length ch,Vz la ls.length lc] 23)).drew:=(A5 W7.drew.heap.size W7.drew).alloc (A4 _) (Kz [Vz ah x0.has.length ch,Vz la ls.length lc] 23);have e4:Up W7 (W7.alloc (Kz [Vz ah x0.has.length ch,Vz la ls.length lc] 23)).drew/\World.cell? (W7.alloc (Kz [Vz ah x0.has.length ch,Vz la ls.length lc] 23)).drew ⟨g,p*3+1,none⟩=some (Vz ah x0.has.length ch)/\World.cell? (W7.alloc (Kz [Vz ah x0.has.length ch,Vz la ls.length lc] 23)).drew ⟨g,p*3+2,none⟩=some (Vz an x0.nj.length cn)/\World.cell? (W7.alloc (Kz [Vz ah x0.has.length ch,Vz la ls.length lc] 23)).drew ⟨wA.heap.size,1,none⟩=some (Vz la ls.length lc):=Xq i6 i7 a6 i8;clear d1 d2 d3 g1;go_wp2_with fail;refine F5 15 (λw'=>Up W7 w'/\At w' g (p*3+1) (Vz ah x0.has.length ch)/\At w' g (p*3+2) (Vz an x0.nj.length cn)/\At w' wA.heap.size 1 (Vz la ls.length lc)) (by kernel_rfl) ?_;refine D6 0 rfl a6 ?_;refine D6 1 rfl a6 ?_;refine D6 2 rfl a6 ?_;refine D6 3 rfl a6 ?_;refine D6 4 rfl a6 ?_;refine D6 5 rfl a6 ?_;refine D6 6 rfl a6 ?_;refine D6 7 rfl a6 ?_;refine D6 8 rfl a6 ?_;refine D6 9 rfl a6 ?_;refine D6 10 rfl a6 ?_;refine E7 11 rfl (λK hK=>?_);go_simp;refine E6 hK e4 ?_;clear hK K;have e5:Up W7 (W7.alloc (Kz [Vz ah x0.has.length ch,Vz la ls.length lc] 23)).drew:=e4.1;have a9:(W7.alloc (Kz [Vz ah x0.has.length ch,Vz la ls.length lc] 23)).drew.cell? ⟨W7.heap.size,0,none⟩=some (Vz ah x0.has.length ch):=(F3 W7 [Vz ah x0.has.length ch,Vz la ls.length lc] 23).1 0 _ rfl;have b0:(W7.alloc (Kz [Vz ah x0.has.length ch,Vz la ls.length lc] 23)).drew.cell? ⟨W7.heap.size,1,none⟩=some (Vz la ls.length lc):=(F3 W7 [Vz ah x0.has.length ch,Vz la ls.length lc] 23).1 1 _ rfl;have d5:=d0.up e5;have d6:=d4.up e5;have d7:=i5.up e5;have Hz8:Hid ((W7.alloc (Kz [Vz ah x0.has.length ch,Vz la ls.length lc] 23)).drew.heap.size=W7.heap.size+1):=by show _=_;simp
 generalize (W7.alloc (Kz [Vz ah x0.has.length ch,Vz la ls.length lc] 23)).drew=W8 at *;have j8:W7.heap.size<W8.heap.size:=by have:=Hz8.out;omega
 refine E7 12 rfl (λK hK=>?_);go_simp;go_wp2_with (go_at_call 208;refine (SW x0.nj x0.has ls _ _ _ W7.heap.size _ d6 (by omega) a9 b0 d5 d7 j8 (by omega)).mono ?_;rintro e w9 ⟨⟨uh,rfl,e6⟩,c6⟩)
 obtain⟨xh,yh,g3⟩:=e6.lst.shape;rw[Hflt.out] at g3 e6;subst g3;have c0:Up W7 w9/\At w9 g (p*3+1) (Vz ah x0.has.length ch)/\At w9 g (p*3+2) (Vz an x0.nj.length cn)/\At w9 wA.heap.size 1 (Vz la ls.length lc):=Xq i6 i7 e4 c6;refine E6 hK c0 ?_;clear hK K;refine E7 13 rfl (λK hK=>?_);go_simp;refine E6 hK c0 ?_;clear hK K;refine D6 14 rfl c0 ?_;have l0:=c6.size;have a7:=c0.1;have i9:=e9.up a7 (by omega);have j0:=i3.up a7 (by omega);have j1:=D5 f0 a7;have a0:=E4 a5 a7;have j2:=c9.up a7;have j3:=L7.new c9.tail j2.tail e6 (by omega) (by omega) (Ef (by omega));have d1:=c0.2.1;have q1:=a0.frozenAt (p*3+1);have st:=a0.stored (p*3+1) (Vz xh (T7 x0.has ls).length yh);have b1:=st.1;rw[PL _ p _ (U1 ls x0) (Vz xh (T7 x0.has ls).length yh) b4 rfl] at b1;have d8:=j3.row a0 st.2;have f4:=i9.kept st.2 (by simp;omega);have d9:=j0.kept st.2 (by simp;omega);have f5:Up w (w9.setCell ⟨g,p*3+1,none⟩ (Vz xh (T7 x0.has ls).length yh)):=M1 j1 a0 st.2 (by omega);clear a6 e4 e9 i3 f0 a5 c9 d0 d4 i8 e5 a9 b0 d5 d6 d7 i5 e6 c6 a7 i9 j0 j1 a0 j2 j3 st;refine E7 15 rfl (λK hK=>?_);go_simp;refine Bf hK ?_;clear hK K;refine F0 (by kernel_rfl) ?_ _;clear d1 q1 c0;have Hlf:Hid (U1 ls x0=⟨x0.nm,T7 x0.has ls,x0.nj⟩):=rfl;generalize T7 x0.has ls=fl at *;generalize w9.setCell ⟨g,p*3+1,none⟩ (Vz xh fl.length yh)=W10 at *;obtain⟨⟨y0,y1⟩,-⟩:=f4.c2;obtain⟨⟨r0,r1⟩,q0,q1⟩:=d9.c2;have b2:w.heap.size+1<W1.heap.size:=by omega
 have f6:L7 W10 W1.heap.size (some w2.heap.size) (((Vz a3 b.tg.length c3),b.tg)::N0 (ps.set p ((U1 ls x0,Vz xh fl.length yh,Vz an x0.nj.length cn):Bv))):=by
  refine L7.back ?_ (by omega);rw[Hlf.out];exact d8
 clear d8;go_wp2_with fail;refine FM results190 underlying26 rfl M5 d9 rfl ?_;have e2:=F2 (F2 b1 (E1 (rb:=w.heap.size+1) (off:=0) (E2 _ _) (Vz a3 b.tg.length c3)) b2) (E1 (rb:=w.heap.size+1) (off:=1) (E2 _ _) (Sz g b.bs.length c4)) b2;have j4:=(f6.free.setLow b2 0 (Vz a3 b.tg.length c3)).setLow b2 1 (Sz g b.bs.length c4)
 have j9:=j4.bsW (fs:=[((Vz a3 b.tg.length c3),b.tg)]) (v:=Sz g b.bs.length c4) (by rw[List.length_set,i1];exact e2) (λq hq=>by
  rcases List.mem_or_eq_of_mem_set hq with h|h
  ·exact Hnm.out q h
  ·subst h;exact Hnm.out ((x0,Vz ah x0.has.length ch,Vz an x0.nj.length cn):Bv) (A7 b4))
 have k0:=Hm3.out (Vz xh fl.length yh) (Vz an x0.nj.length cn);have e3:=Hchg.out;rw[← Hp0.out] at e3;rw[e3];refine⟨⟨_,rfl,a3,c3,some ⟨g,0,none⟩,c4,_,?_,?_,by rw[Hp0.out];exact k0,j4.low (by omega)⟩,K6 f5 (Nat.le_succ _) _ _⟩
 ·show Value.agg #[_,_]=Value.agg #[_,Vz _ (b.bs.set _ _).length _]
  rw[List.length_set]
 ·show Bq _ _ (Vz _ (b.bs.set _ _).length _) _
  rw[List.length_set];exact j9.low (by omega)
def Da(w:World)(tb:Nat)(tg:List BA)(ts:List Tr):Prop :=
 ∃rv,CB w tb [rv,.int .u64 (G5 tg (S7 ts):Nat)]/\w.ownsRow (tb+1) 271 4 rv ts.length (Al tg ts)
theorem Da.up(h:Da w tb tg ts)(hb:Up w w'):Da w' tb tg ts:=by
 obtain⟨rv,h1,h2⟩:=h;exact⟨rv,h1.up hb h1.2.2,E4 h2 hb⟩
theorem Da.drewN(h:Da w tb tg ts):Da (w.drewN n) tb tg ts:=h
theorem Da.lt(h:Da w tb tg ts):tb<w.heap.size:=by
 obtain⟨rv,h1,-⟩:=h;exact h1.2.2
theorem GK{g cap:Nat}(h:w.ownsRow base 271 4 (Sz g ts.length cap) ts.length (Al tg ts)){p:Tr}(hp:ts[i]?=some p):
  w.cell? ⟨g,i*4,none⟩=some (Tz p.1.nm)/\w.cell? ⟨g,i*4+1,none⟩=some (.int .u64 (G5 tg (E3 p.1.has):Nat))/\w.cell? ⟨g,i*4+2,none⟩=some (.int .u64 (G5 tg (E3 p.1.nj):Nat))/\w.cell? ⟨g,i*4+3,none⟩=some (.bool p.2):=by
 have hi:=(A3.1 hp).1;refine⟨?_,?_,?_,?_⟩
 ·rw[show i*4=i*4+0 by omega,h.cellAt (i*4+0) (by omega),Fm tg ts i 0 p hp (by omega)];rfl
 ·rw[h.cellAt (i*4+1) (by omega),Fm tg ts i 1 p hp (by omega)];rfl
 ·rw[h.cellAt (i*4+2) (by omega),Fm tg ts i 2 p hp (by omega)];rfl
 ·rw[h.cellAt (i*4+3) (by omega),Fm tg ts i 3 p hp (by omega)];rfl
theorem PU(a b:Nat)(ha:a<256)(hb:b<512):bits .andNot .u64 (a:Int) (b:Int)=((a &&& (18446744073709551615-b):Nat):Int):=by
 have:=u64_andNot (a:Int) (b:Int) (by omega) (by omega) (by omega) (by omega);simpa using this
theorem Ye(tb at':Nat)(tg:List BA)(ts:List Tr)(p:Tr)(w:World)(h:Da w tb tg ts)(h8:tg.length<=8)(hp:ts[at']?=some p)(h5:ts.length<=5):
  Calls prog 211 #[Pz tb 0,Iz at'] w λe w'=>e=.returned (.bool (!p.2&&decide (G5 tg (E3 p.1.nj) &&& (18446744073709551615-(G5 tg (S7 ts)+G5 tg (E3 p.1.has)))=0)))/\Up w w':=by
 obtain⟨rv,hC,a0⟩:=h;have hi:=(A3.1 hp).1;obtain⟨g,a6,rfl⟩:=I6 a0 (by omega);obtain⟨r0,r1,r2,r3⟩:=GK a0 hp;obtain⟨t0,t1⟩:=hC.c2';have a4:=hC.2.2;have n1:=Ag h8 (E3 p.1.has);have n2:=Ag h8 (E3 p.1.nj);have n3:=Ag h8 (S7 ts);generalize G5 tg (E3 p.1.has)=hb at *;generalize G5 tg (E3 p.1.nj)=nb at *;generalize G5 tg (S7 ts)=fb at *;clear a0 hC;obtain⟨W1,a3,kX,a1,a7⟩:=cbE1 w [Tz p.1.nm,.int .u64 (hb:Nat),.int .u64 (nb:Nat),.bool p.2] 271;go_in;go_upto_region 2 with fail;try rw[a3]
 clear a3 r0 r1 r2 r3;have x1:=kX.1 1 _ rfl;have x2:=kX.1 2 _ rfl;have x3:=kX.1 3 _ rfl;have f1:=(a1.cell (p:=⟨tb,1,none⟩) a4).trans t1;simp only[Nat.zero_add] at x1 x2 x3;have a5:IntKind.u64.wrap ((fb:Int)+(hb:Int))=((fb+hb:Nat):Int):=by rw[En (by omega) (by omega)];omega
 have a2:=PU nb (fb+hb) n2 (by omega);cases hgone:p.2
 ·rw[hgone] at x3;go_wp2_with fail;go_quiet (fail);go_wp2_with fail;go_ret;refine⟨D8 ?_,G4 a1 _⟩;rw[hgone,← Int.natCast_add,a2];rw[Bool.eq_iff_iff,beq_iff_eq];simp
 ·rw[hgone] at x3;go_wp2_with fail;go_quiet (fail);go_wp2_with fail;go_ret;exact⟨D8 (by rw[hgone];rfl),G4 a1 _⟩
theorem NE{base' e' s s' n':Nat}(h:w.ownsRow base e s v n xs)(h':w.ownsRow base' e' s' v' n' xs')(hne:e≠e'):∀g,v.ownBlock=some g->some g≠v'.ownBlock:=λg hg hg'=>by
 rcases h.2 with⟨rfl,_⟩|⟨g1,cap,cur,rfl,_,hh,_⟩
 ·simp[Value.ownBlock] at hg
 ·rcases h'.2 with⟨rfl,_⟩|⟨g2,cap',cur',rfl,_,hh',_⟩
  ·simp[Value.ownBlock] at hg'
  ·simp[Value.ownBlock] at hg hg';subst hg hg';rw[hh] at hh';simp at hh';exact hne hh'.2
theorem PV{s:Nat}(h:w.ownsRow base e s v n xs)(hg:w.grownBy w' r)(hne:∀g,v.ownBlock=some g->some g≠r):w'.ownsRow base e s v n xs:=by
 refine⟨h.1,?_⟩;rcases h.2 with h0|⟨g,cap,cur,hv,hb,hh,q⟩
 ·exact .inl h0
 ·refine .inr ⟨g,cap,cur,hv,hb,?_,q⟩;rw[hg.block g (D3.1 hh).1 (hne g (by rw[hv];rfl))];exact hh
theorem Vg(tb at':Nat)(tg:List BA)(ts:List Tr)(p:Tr)(bs:List Ba)(w:World)(h:Da w tb tg ts)(h8:tg.length<=8)(hp:ts[at']?=some p)(hg:p.2=false)(hm:ts.map (·.1)=bs)(ha:Cp bs)(h5:ts.length<=5):
  Calls prog 197 #[Pz tb 0,Iz at'] w λe w'=>(∃v,e=.returned v)/\Da w' tb tg (ts.set at' (p.1,true))/\Below tb w w'/\∀(base:Nat)(u:Value)(ss:List BA),F7 w base u ss->tb<base->F7 w' base u ss:=by
 obtain⟨rv,hC,a0⟩:=h;have hi:=(A3.1 hp).1;obtain⟨g,a4,rfl⟩:=I6 a0 (by omega);have b2:=(a0.lt g rfl).1;obtain⟨r0,r1,r2,r3⟩:=GK a0 hp;obtain⟨⟨t0,t1⟩,u0,u1⟩:=hC.c2;have n1:=Ag h8 (E3 p.1.has);have n3:=Ag h8 (S7 ts);have b3:=Sm ha hm hp hg tg;have f3:=a0.frozenAt (at'*4+3);have a5:=a0.stored (at'*4+3) (.bool true);rw[Nf tg ts at' p hp] at a5;obtain⟨W1,a6,a1,a3⟩:∃W1,w.setCell ⟨g,at'*4+3,none⟩ (.bool true)=W1/\W1.ownsRow (tb+1) 271 4 (Sz g ts.length a4) ts.length (Al tg (ts.set at' (p.1,true)))/\w.grownBy W1 (some g):=⟨_,rfl,a5.1,a5.2⟩;clear a5;have a7:=hC.kept a3 (by simp;omega);have a8:(ts.set at' (p.1,true)).length=ts.length:=List.length_set;have a2:W1.ownsRow (tb+1) 271 4 (Sz g (ts.set at' (p.1,true)).length a4) (ts.set at' (p.1,true)).length (Al tg (ts.set at' (p.1,true))):=by rw[a8];exact a1
 obtain⟨-,s1,-,-⟩:=GK a2 (i:=at') (p:=(p.1,true)) (by rw[List.getElem?_set,if_pos rfl,if_pos hi]);have hT:∀x,CB x tb [Sz g ts.length a4,.int .u64 (G5 tg (S7 (ts.set at' (p.1,true))):Nat)]->W1.grownBy x (some tb)->Da x tb tg (ts.set at' (p.1,true)):=λx h1 h2=>⟨_,h1,by rw[a8];exact F2 a1 h2 (by omega)⟩;have HT:Hid (∀x,CB x tb [Sz g ts.length a4,.int .u64 (G5 tg (S7 (ts.set at' (p.1,true))):Nat)]->W1.grownBy x (some tb)->Da x tb tg (ts.set at' (p.1,true))):=hT;have b0:Below tb w W1:=⟨a3.os,a3.tape,a3.output,a3.size,λi hi=>a3.block i (Nat.lt_trans hi hC.2.2) (by simp;omega)⟩
 have HO:Hid (∀(base:Nat)(u:Value)(ss:List BA),F7 w base u ss->tb<base->F7 W1 base u ss):=λbase u ss q1 q2=>PV q1 a3 λg' hg'=>by
  have:=NE q1 a0 (by decide) g' hg';simpa [Value.ownBlock] using this
 clear hT a1 a2 a3 a0;generalize G5 tg (S7 (ts.set at' (p.1,true)))=fb2 at *;generalize G5 tg (E3 p.1.has)=hb at *;generalize G5 tg (S7 ts)=fb at *;have b1:IntKind.u64.wrap ((fb:Int)+(hb:Int))=(fb2:Int):=by rw[En (by omega) (by omega)];omega
 go_in;go_upto_region 1 with fail;try rw[a6]
 clear a6 r0 r1 r2 r3 t0 t1 u0 u1 f3;obtain⟨⟨t0,t1⟩,u0,u1⟩:=a7.c2;have a9:CB ((W1.setCell ⟨tb,1,none⟩ (.int .u64 (fb2:Nat))).drew) tb [Sz g ts.length a4,.int .u64 (fb2:Nat)]:=CB.set (j:=1) a7 (by simp);have HTx:Hid (Da ((W1.setCell ⟨tb,1,none⟩ (.int .u64 (fb2:Nat))).drew) tb tg (ts.set at' (p.1,true))):=HT.out _ a9 (S8 (E1 (E2 _ _) _));have HBx:Hid (Below tb w ((W1.setCell ⟨tb,1,none⟩ (.int .u64 (fb2:Nat))).drew)):=(b0.setCell (p:=⟨tb,1,none⟩) (A4 _) _).drew;clear a9 HT;go_wp2_with fail;go_region
 go_end0
 exact⟨⟨_,rfl⟩,HTx.out,HBx.out,λbase u ss q1 q2=>F2 (HO.out base u ss q1 q2) (S8 (E1 (E2 _ _) _)) q2⟩
theorem Yf:(prog.info? 271).map (λi=>(i.zero,i.size,i.bytes))=some (some (.agg #[Ez,.int .u64 0,.int .u64 0,.bool false]),4,40):=by kernel_rfl
def AH(bs:List Ba)(k:Nat):List Tr:=(bs.take k).map λx=>(x,false)
theorem RS(bs:List Ba)(k:Nat):(AH bs k).map (·.1)=bs.take k:=by rw[AH,List.map_map];exact List.map_id _
theorem Mo(h:k<=bs.length):(AH bs k).length=k:=by simp[AH];omega
theorem PW(h:k<bs.length):AH bs (k+1)=AH bs k++[(bs[k],false)]:=by
 rw[AH,A8 h,List.map_append];rfl
theorem Yg(h:¬k<bs.length):AH bs k=AH bs bs.length:=by
 rw[AH,AH,D2 (by omega),List.take_length]
theorem Vh(tg:List BA)(bs:List Ba):G5 tg (E3 tg)=G5 tg (S7 (AH bs 0)):=Dr λt ht=>by
 rw[(S5 _ _).2 ht];rfl
theorem Zl(w:World)(x y z u:Value)(ty:TypeId)(h:[x,y,z,u][j]?=some v):(w.alloc (Kz [x,y,z,u] ty)).cell? ((⟨w.heap.size,0,none⟩:Addr).add j)=some v:=by
 have:=(F3 w [x,y,z,u] ty).1 j v h;rw[Addr.add_mid];exact this
theorem QV(b:Bk)(v:Value)(w:World)(h:Q6 w v b)(hok:J1 b):
  Calls prog 195 #[v] w λe w'=>(∃tb,e=.returned (.pointer (some ⟨tb,0,none⟩))/\Da w' tb b.tg (AH b.bs b.bs.length)/\w.heap.size<=tb)/\Up w w':=by
 obtain⟨a1,c1,a2,c2,rfl,h1,h2⟩:=h.parts;have h8:=hok.1.1;have h5:=hok.2.1;have Ha:Hid (Cp b.bs):=hok.2.2.2.2.2;obtain⟨W1,c8,kA,b2,e7⟩:=cbE1 w [.slice a1 (b).tg.length c1,.slice a2 (b).bs.length c2] 26;have f6:=b2.size;clear e7;obtain⟨ii,hi,e8,e9,f1⟩:=info_parts Yf;have Hf0:Hid (G5 b.tg (E3 b.tg)=G5 b.tg (S7 (AH b.bs 0))):=Vh _ _;clear hok;go_in;go_upto_region 1 with fail;try rw[c8]
 clear c8;have l1:=h1.up b2;have l2:=h2.up b2;obtain⟨e0,e1⟩:=kA.c2';have b7:=kA.2.2;obtain⟨-,b4⟩:=l2.at;clear h h1 h2;go_wp2_with fail;refine (Jf b.tg b.tg _ _ _ l1 l1 h8).mono ?_;rintro e w' ⟨rfl,hw⟩;obtain rfl:=hw.symm;clear hw;rw[Hf0.out];obtain⟨W2,c9,kT,b5,f2⟩:=cbE1 W1 [.slice none 0 0,.int .u64 (G5 b.tg (S7 (AH b.bs 0)):Nat)] 274;go_upto_region 2 with fail;try rw[c9]
 clear c9;have d6:Da W2 W1.heap.size b.tg (AH b.bs 0):=⟨_,kT,by simp[Al,AH],.inl ⟨rfl,rfl⟩⟩;have g1:=(b5.cell (p:=⟨w.heap.size,1,none⟩) b7).trans e1;clear kT;go_wp2_with fail;clear g1;(try dsimp only[Iz,Sz,Sy,Nz,Vz,Tz,Ez,Pz]);go_loopw [5,6,17] (λ_ _ i w'=>∃k:Nat,k<=b.bs.length/\i=.int .i64 k/\Da w' W1.heap.size b.tg (AH b.bs k)/\Up W1 w') (λ_ _ i _=>b.bs.length-(intOf i).toNat)
 case atStart=>exact⟨0,by omega,rfl,d6,b5⟩
 case round =>
  clear d6 b5 f2;obtain⟨k,hk,rfl,hT,hB⟩:=hrel;by_cases hp:k<b.bs.length
  ·obtain⟨bb,o,rfl,hS,hb⟩:=b4 (by omega);obtain⟨a3,d3,a4,d4,c3,c4,c5,l3,l4,-⟩:=(hS.at hp).cells;have c3:=(hB.cell (p:=⟨bb,o+k*3,none⟩) hb).trans c3;have c4:=(hB.cell (p:=⟨bb,o+k*3+1,none⟩) hb).trans c4;have c5:=(hB.cell (p:=⟨bb,o+k*3+2,none⟩) hb).trans c5
   have HF:Hid (G5 b.tg (S7 (AH b.bs k))=G5 b.tg (E3 (b.bs[k]).has)+G5 b.tg (S7 (AH b.bs (k+1)))):=by
    show _=_
    rw[PW hp];exact TY Ha.out hp (RS _ _) _
   have HR:Hid (Al b.tg (AH b.bs (k+1))=Al b.tg (AH b.bs k)++Fu b.tg (b.bs[k],false)):=by
    show _=_
    rw[PW hp,LN]
   have d7:(AH b.bs k).length=k:=Mo (by omega);have a9:(AH b.bs (k+1)).length=k+1:=Mo (by omega);generalize b.bs[k]=x0 at *;obtain⟨W3,d0,kX,b6,f3⟩:=cbE1 wr [.string (x0).nm,.slice a3 (x0).has.length d3,.slice a4 (x0).nj.length d4] 115;go_upto_region 5 with fail;try rw[d0]
   have a8:=D5 hB b6;have d8:=hT.up b6;have f7:=hT.lt;obtain⟨⟨d1,d2,d5⟩,-⟩:=kX.c3;have f0:=(a8.cell (p:=⟨w.heap.size,0,none⟩) b7).trans e0;clear d0 c3 c4 c5 b6 hT hB hS;generalize wr.heap.size=xb at *;clear f3;have b8:=kX.2.2;have mk:∀w',Up W3 w'->Up W1 w'/\w'.cell? ⟨w.heap.size,0,none⟩=some (.slice a1 b.tg.length c1)/\w'.cell? ⟨xb,0,none⟩=some (.string x0.nm)/\w'.cell? ⟨xb,1,none⟩=some (.slice a3 x0.has.length d3)/\w'.cell? ⟨xb,2,none⟩=some (.slice a4 x0.nj.length d4):=λw' hb=>⟨D5 a8 hb,(hb.cell (p:=⟨w.heap.size,0,none⟩) (A2 b7 a8.size)).trans f0,(hb.cell (p:=⟨xb,0,none⟩) b8).trans d1,(hb.cell (p:=⟨xb,1,none⟩) b8).trans d2,(hb.cell (p:=⟨xb,2,none⟩) b8).trans d5⟩;go_wp2_with fail
   go_region_held (λw'=>Up W1 w'/\w'.cell? ⟨w.heap.size,0,none⟩=some (.slice a1 b.tg.length c1)/\w'.cell? ⟨xb,0,none⟩=some (.string x0.nm)/\w'.cell? ⟨xb,1,none⟩=some (.slice a3 x0.has.length d3)/\w'.cell? ⟨xb,2,none⟩=some (.slice a4 x0.nj.length d4)) (first|exact mk _ (A5 _ _).drew|exact mk _ (((A5 _ _).alloc (A4 _) _).drew)|exact mk _ (by go_grown))
    (first
     | (go_at_call_of 210 (Value.slice a3 x0.has.length d3);refine (Jf b.tg x0.has _ _ _ (l1.up (And.left (by assumption))) (l3.up (And.left (by assumption))) h8).mono ?_;rintro e w' ⟨rfl,hw⟩;obtain rfl:=hw.symm;clear hw)
     | (go_at_call_of 210 (Value.slice a4 x0.nj.length d4);refine (Jf b.tg x0.nj _ _ _ (l1.up (And.left (by assumption))) (l4.up (And.left (by assumption))) h8).mono ?_;rintro e w' ⟨rfl,hw⟩;obtain rfl:=hw.symm;clear hw))
   all_goals
    have b9:=((A5 W3.heap.size W3).alloc (A4 _) (.cells #[.string x0.nm,.int .u64 (G5 b.tg (E3 x0.has):Nat),.int .u64 (G5 b.tg (E3 x0.nj):Nat),.bool false] 271)).drew;have kR:CB (W3.alloc (.cells #[.string x0.nm,.int .u64 (G5 b.tg (E3 x0.has):Nat),.int .u64 (G5 b.tg (E3 x0.nj):Nat),.bool false] 271)).drew W3.heap.size [.string x0.nm,.int .u64 (G5 b.tg (E3 x0.has):Nat),.int .u64 (G5 b.tg (E3 x0.nj):Nat),.bool false]:=F3 W3 _ _;generalize (W3.alloc (.cells #[.string x0.nm,.int .u64 (G5 b.tg (E3 x0.has):Nat),.int .u64 (G5 b.tg (E3 x0.nj):Nat),.bool false] 271)).drew=W4 at *;have d9:=D5 a8 b9;obtain⟨rv,kT,a7⟩:=d8.up b9;rw[d7] at a7;have f8:=a8.size;have n1:=Ag h8 (E3 x0.has);have n2:=Ag h8 (E3 x0.nj);have n3:=Ag h8 (S7 (AH b.bs k));have hF:=HF.out;have HE:Hid (∀W v1,CB W W1.heap.size [v1,.int .u64 (G5 b.tg (S7 (AH b.bs (k+1))):Nat)]->W.ownsRow (W1.heap.size+1) 271 4 v1 (k+1) (Al b.tg (AH b.bs k)++[.string x0.nm,.int .u64 (G5 b.tg (E3 x0.has):Nat),.int .u64 (G5 b.tg (E3 x0.nj):Nat),.bool false])->Da W W1.heap.size b.tg (AH b.bs (k+1))):=λW v1 q1 q2=>⟨v1,q1,by rw[a9,HR.out];exact q2⟩;clear d8 mk f0 d1 d2 d5 kX HR HF a8 b9 d7 a9;generalize G5 b.tg (E3 x0.has)=hbn at *;generalize G5 b.tg (E3 x0.nj)=nbn at *;generalize G5 b.tg (S7 (AH b.bs k))=fb at *;generalize G5 b.tg (S7 (AH b.bs (k+1)))=fb2 at *;generalize Al b.tg (AH b.bs k)=rws at *;have c0:IntKind.u64.wrap ((fb:Int)-(hbn:Int))=(fb2:Int):=by rw[En (by omega) (by omega)];omega
    have b0:(fb:Int)-(hbn:Int)=(fb2:Int):=by omega
    clear hF;obtain⟨⟨t0,t1⟩,u0,u1⟩:=kT.c2;have r0:=kR.1 0 _ rfl;have r1:=kR.1 1 _ rfl;have r2:=kR.1 2 _ rfl;have r3:=kR.1 3 _ rfl;simp only[Nat.zero_add] at r0 r1 r2 r3;have f9:=kR.2.2;generalize W3.heap.size=rb at *;have f4:rb≠W1.heap.size:=by omega
    go_wp2_with fail;go_region
    have b3:CB (W4.setCell ⟨W1.heap.size,1,none⟩ (.int .u64 (fb2:Nat))).drew W1.heap.size [rv,.int .u64 (fb2:Nat)]:=kT.set (j:=1) (by simp);have a5:(W4.setCell ⟨W1.heap.size,1,none⟩ (.int .u64 (fb2:Nat))).drew.ownsRow (W1.heap.size+1) 271 4 rv k rws:=F2 a7 (S8 (E1 (E2 _ _) _)) (by omega);have b1:CB (W4.setCell ⟨W1.heap.size,1,none⟩ (.int .u64 (fb2:Nat))).drew rb [.string x0.nm,.int .u64 (hbn:Nat),.int .u64 (nbn:Nat),.bool false]:=kR.other (by omega);have e2:Up W1 (W4.setCell ⟨W1.heap.size,1,none⟩ (.int .u64 (fb2:Nat))).drew:=(d9.setCell (p:=⟨W1.heap.size,1,none⟩) (A4 _) _).drew;clear t0 t1 u0 u1 r0 r1 r2 r3 kT kR a7 d9 c0 b0;generalize (W4.setCell ⟨W1.heap.size,1,none⟩ (.int .u64 (fb2:Nat))).drew=W5 at *;obtain⟨⟨t0,t1⟩,u0,u1⟩:=b3.c2;have r0:=b1.1 0 _ rfl;have r1:=b1.1 1 _ rfl;have r2:=b1.1 2 _ rfl;have r3:=b1.1 3 _ rfl;simp only[Nat.zero_add] at r0 r1 r2 r3;have c6:=b3.2.2;have a0:=E4 (W:=W5.drew) a5 ((A5 W5.heap.size W5.drew).alloc (A4 _) (.cells #[.string x0.nm,.int .u64 (hbn:Nat),.int .u64 (nbn:Nat),.bool false] 271));have e3:=(e2.drew).alloc e2.drew.size (.cells #[.string x0.nm,.int .u64 (hbn:Nat),.int .u64 (nbn:Nat),.bool false] 271);have e4:CB (W5.drew.alloc (.cells #[.string x0.nm,.int .u64 (hbn:Nat),.int .u64 (nbn:Nat),.bool false] 271)) W1.heap.size [rv,.int .u64 (fb2:Nat)]:=CB.up (w:=W5.drew) b3 ((A5 W5.heap.size W5.drew).alloc (A4 _) _) c6;go_wp2_with fail;go_region_law (refine J0 rfl _ _ 272 rfl (W1.heap.size+1) 271 ii _ 4 40 underlying272 hi e8 e9 f1 rfl (by decide) _ _ _ rfl a0 ⟨W5.heap.size,0,none⟩ 1 1 [.string x0.nm,.int .u64 (hbn:Nat),.int .u64 (nbn:Nat),.bool false] rfl rfl (λj u hj=>Zl W5.drew _ _ _ _ _ hj) (by simp[Value.oneCell']) (by unfold maxLen;omega) (by omega) (by simp;omega) ?_;intro v1 w1 hown1 hgr1;obtain⟨gg,cc,rfl⟩:=I6 hown1 (by omega);have c7:=e4.kept hgr1 (Aj a0 (by omega));obtain⟨⟨z0,z1⟩,y0,y1⟩:=c7.c2)
    all_goals
     have e5:=M1 e3 a0 hgr1 (by omega);have e6:CB (w1.setCell ⟨W1.heap.size,0,none⟩ (.slice (some ⟨gg,0,none⟩) (k+1) cc)) W1.heap.size [.slice (some ⟨gg,0,none⟩) (k+1) cc,.int .u64 (fb2:Nat)]:=c7.set (j:=0) (by simp);have a6:=F2 hown1 (E1 (off:=0) (E2 w1 (some W1.heap.size)) (.slice (some ⟨gg,0,none⟩) (k+1) cc)) (by omega);have f5:=e5.setCell (p:=⟨W1.heap.size,0,none⟩) (A4 _) (.slice (some ⟨gg,0,none⟩) (k+1) cc);have HT7:Hid (Da (w1.setCell ⟨W1.heap.size,0,none⟩ (.slice (some ⟨gg,0,none⟩) (k+1) cc)) W1.heap.size b.tg (AH b.bs (k+1))):=HE.out _ _ e6 a6;clear e6 a6 hown1 hgr1 c7 z0 z1 y0 y1 a0 e3 e4 r0 r1 r2 r3 t0 t1 u0 u1 e5 b3 a5 b1 HE;go_wp2_with fail;go_roundw
     case rel=>exact⟨k+1,by omega,by go_num,HT7.out,f5⟩
     case measure=>simp[intOf];omega
  ·have Hs:Hid (AH b.bs k=AH b.bs b.bs.length):=Yg hp;go_wp2_with fail;go_ret;exact⟨⟨_,rfl,by rw[← Hs.out];exact hT,by omega⟩,D5 b2 hB⟩
end Go.Proofs.YtmonodehegcfhaaGreatDoor
