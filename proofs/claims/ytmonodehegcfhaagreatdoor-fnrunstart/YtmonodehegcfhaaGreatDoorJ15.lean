/- Books of one's own. -/
import Derived.Test.YtmonodehegcfhaaGreatDoorKf
import Derived.Test.YtmonodehegcfhaaGreatDoorJ8
import Derived.Test.YtmonodehegcfhaaGreatDoorJ13
import Derived.Test.YtmonodehegcfhaaGreatDoorXr
import Derived.Test.YtmonodehegcfhaaGreatDoorJ14
set_option maxRecDepth 20000
set_option maxHeartbeats 4000000
namespace Go.Proofs.YtmonodehegcfhaaGreatDoor
open Go.Proofs.Tryz
open Go.RowKit
variable{tmps:Array Value}{b:Bk}{ps qs:List Bv}{ss:List BA}{xs:List Value}{base cap e g n rk size:Nat}{r:Option Nat}{P:Program}{T:TypeId}{u v x y:Value}{W W' w w':World}
theorem Bt(a b:List Bv):E8 (a++b)=E8 a++E8 b:=by
 induction a with
 | nil=>rfl
 | cons p r ih=>simp[E8,ih]
theorem V0:∀(ps:List Bv)(i:Nat)(p:Bv),ps[i]?=some p->∀(j:Nat)(u:Value),(O3 p)[j]?=some u->(E8 ps)[i*3+j]?=some u
 | q::r,0,p,hp,j,u,hu=>by
  simp at hp;subst hp
  have hj:j<(O3 q).length:=(A3.1 hu).1;rw[E8,Nat.zero_mul,Nat.zero_add,List.getElem?_append_left hj];exact hu
 | q::r,i+1,p,hp,j,u,hu=>by
  have:=V0 r i p (by simpa using hp) j u hu;have hl:(O3 q).length=3:=rfl;rw[E8,C8 (by rw[hl];omega),hl,show (i+1)*3+j-3=i*3+j by omega];exact this
theorem St(ps:List Bv)(k:Nat)(hk:k<=ps.length):(E8 ps).take (k*3)=E8 (ps.take k):=by
 have h:E8 ps=E8 (ps.take k)++E8 (ps.drop k):=by rw[← Bt,List.take_append_drop]
 rw[h,List.take_left' (by rw[R6,B8];omega)]
def L6(w:World)(base:Nat)(v:Value)(b:Bk):Prop:=∃tu bu ps,v=.agg #[tu,bu]/\F7 w base tu b.tg/\Bq w base bu ps/\ps.map (·.1)=b.bs
theorem Q6.szb(h:Q6 w v b):Y0 b:=by
 obtain⟨tv,bv,rfl,⟨_,_,_,_,h1,_⟩,⟨a,c,_,_,h2⟩⟩:=h;refine⟨h1,λx hx=>?_⟩;obtain⟨i,hi,rfl⟩:=B7 hx;obtain⟨g,o,_,hS,_⟩:=h2 (by omega);obtain⟨hv,nv,_,⟨_,_,_,_,h3,_⟩,⟨_,_,_,_,h4,_⟩,_⟩:=hS.at hi;exact⟨h3,h4⟩
theorem BP(h:w.ownsRow base e size (Sz g n cap) n xs):n<=cap/\cap<=maxLen:=by
 rcases h.2 with⟨h0,_⟩|⟨g',cap',cur,h',_,_,hc,hm,_⟩
 ·simp at h0
 ·simp only[Value.slice.injEq] at h';omega
theorem EF(h:w.ownsRow base e size v n xs):n<=maxLen:=by
 rcases h.2 with⟨_,rfl⟩|⟨g,cap,_,_,_,_,h1,h2,_⟩
 ·omega
 ·omega
theorem Bq.bs{bs:List Ba}(h:Bq w base v ps)(hm:ps.map (·.1)=bs)(hz:∀x∈bs,(∀s∈x.has,s.size<=maxLen)/\(∀s∈x.nj,s.size<=maxLen)):Bs w v bs:=by
 subst hm;have hl:(ps.map (·.1)).length=ps.length:=B5 _;obtain⟨a,c,rfl⟩:=I7 h.1;refine⟨a,c,by rw[hl],by rw[hl];exact EF h.1,λhp=>?_⟩;rw[hl] at hp;obtain⟨g,a3,hv⟩:=I6 h.1 hp;obtain⟨rfl,-,rfl⟩:=Value.slice.inj hv;refine⟨g,0,rfl,λi x hx=>?_,(h.1.lt g rfl).2⟩;rw[B1,B6] at hx;obtain⟨p,a0,rfl⟩:=hx;have a1:p∈ps:=A7 a0;obtain⟨q1,q2,q3⟩:=h.2 p a1;have a2:=hz p.1 (List.mem_map_of_mem a1);have hi:i<ps.length:=(A3.1 a0).1;refine⟨p.2.1,p.2.2,λj u hu=>?_,q1.lst.ls a2.1,q2.lst.ls a2.2,q3⟩;have hr:=V0 ps i p a0 j u hu;have hj:j<3:=(A3.1 hu).1;rw[Nat.zero_add,h.1.cellAt (i*3+j) (by omega)];exact hr
theorem L6.bk(h:L6 w base v b)(hz:Y0 b):Q6 w v b:=by
 obtain⟨tu,bu,ps,rfl,h1,h2,h3⟩:=h;exact⟨tu,bu,rfl,h1.lst.ls hz.1,h2.bs h3 hz.2⟩
theorem L6.low{base':Nat}(h:L6 w base v b)(hb:base'<=base):L6 w base' v b:=by
 obtain⟨tu,bu,ps,rfl,h1,h2,h3⟩:=h;exact⟨tu,bu,ps,rfl,I8 h1 hb,h2.low hb,h3⟩
theorem L6.up(h:L6 w base v b)(hb:Up w w'):L6 w' base v b:=by
 obtain⟨tu,bu,ps,rfl,h1,h2,h3⟩:=h;exact⟨tu,bu,ps,rfl,h1.up hb,h2.up hb,h3⟩
theorem L6.set{r j:Nat}(h:L6 w base v b)(hr:r<base):L6 (w.setCell ⟨r,j,none⟩ u) base v b:=by
 obtain⟨tu,bu,ps,rfl,h1,h2,h3⟩:=h;exact⟨tu,bu,ps,rfl,F2 h1 (E1 (E2 _ _) _) hr,h2.set hr,h3⟩
theorem L6.gr{r:Nat}(h:L6 w base v b)(hg:w.grownBy w' (some r))(hr:r<base):L6 w' base v b:=by
 obtain⟨tu,bu,ps,rfl,h1,h2,h3⟩:=h;exact⟨tu,bu,ps,rfl,F2 h1 hg hr,⟨F2 h2.1 hg hr,λp hp=>⟨F2 (h2.2 p hp).1 hg hr,F2 (h2.2 p hp).2.1 hg hr,(h2.2 p hp).2.2⟩⟩,h3⟩
theorem L6.parts(h:L6 w base v b):∃a1 c1 a2 c2 ps,v=.agg #[Vz a1 b.tg.length c1,Vz a2 b.bs.length c2]/\F7 w base (Vz a1 b.tg.length c1) b.tg/\Bq w base (Vz a2 b.bs.length c2) ps/\ps.map (·.1)=b.bs:=by
 obtain⟨tu,bu,ps,rfl,h1,h2,h3⟩:=h;obtain⟨a1,c1,rfl⟩:=h1.lst.shape;obtain⟨a2,c2,rfl⟩:=I7 h2.1;have hl:ps.length=b.bs.length:=by rw[← h3,B5]
 rw[hl] at h2;exact⟨a1,c1,a2,c2,ps,by rw[hl],h1,h2,h3⟩
theorem IJ(w:World)(base:Nat):L6 w base (.agg #[Nz,Nz]) S2 :=
 ⟨_,_,[],rfl,B9 _ _ _ _,⟨B9 _ _ _ _,λp hp=>by simp at hp⟩,rfl⟩
theorem Q6.bsOf(h:Q6 w (.agg #[x,y]) b):Bs w y b.bs:=by
 obtain⟨tv,bv,e,-,h2⟩:=h;simp at e;obtain⟨rfl,rfl⟩:=e;exact h2
theorem BQ{x y:Int}(h:x=y):Ending.returned (.tuple #[v,Iz x])=.returned (.tuple #[v,Iz y]):=by rw[h]
theorem O0{fn:Func}{q q2:Tmp}(h:fn.results=#[.cell q T,.tmp q2]){d:TypeDesc}(hu:P.underlying T=some d)(hd:d.isRow=true)(hi:(P.info? T).map (·.size)=some 2){R:Ending->World->Prop}{y0 y1 x0 x1:Value}
  (k:CB w rk [y0,y1]) (ht:tmps.getD q undef=Pz rk 0) (hv:tmps.getD q2 undef=v) (hR:R (.returned (.tuple #[.agg #[x0,x1],v])) ((w.setCell ⟨rk,0,none⟩ x0).setCell ⟨rk,1,none⟩ x1)) :
  bodyPost P fn R .ret {tmps:=tmps,defers:=[]} ((w.setCell ⟨rk,0,none⟩ x0).setCell ⟨rk,1,none⟩ x1) :=
 bodyPost_ret (Ko (cs:=[x0,x1]) h hu hd hi ht hv (k.copy2 x0 x1)) rfl hR
theorem V1{b2:Nat}(h:F7 W base u ss)(hrow:W.ownsRow b2 115 3 v n xs)(hg:W.grownBy W' v.ownBlock):F7 W' base u ss :=
 E5 h hg (E9 h hrow (by decide))
theorem Cu(h:w.ownsRow base 115 3 (Sz g n cap) n (E8 ps))(k:Nat)(qs:List Bv)(hq:∀i p,qs[i]?=some p->ps[k+i]?=some p):
  ∀(j:Nat)(u:Value),(E8 qs)[j]?=some u->w.cell? ((⟨g,k*3,none⟩:Addr).add j)=some u:=λj u hu=>by
 have hj:j<qs.length*3:=by rw[← R6];exact (A3.1 hu).1
 have hi:j / 3<qs.length:=by omega
 have hp:=A0 hi
 have h3:(O3 (qs[j / 3]))[j % 3]?=some u:=by
  have hl:j % 3<(O3 (qs[j / 3])).length:=by show _<3;omega
  have:=V0 qs (j / 3) _ hp (j % 3) _ (A0 hl);rw[show j / 3*3+j % 3=j by omega,hu] at this;rw[A0 hl];exact this.symm
 have h4:=V0 ps (k+j / 3) _ (hq _ _ hp) (j % 3) u h3;have h5:=(A3.1 h4).1;rw[h.1] at h5;rw[Addr.add_mid,show k*3+j=(k+j / 3)*3+j % 3 by omega,h.cellAt _ h5];exact h4
theorem Wi{c:Nat}(h:some g≠r):∀g',(Vz (some ⟨g,0,none⟩) n c).ownBlock=some g'->some g'≠r:=λg' hg'=>by
 simp only[Value.ownBlock,Option.some.injEq] at hg';subst hg';exact h
theorem MC(ps:List Bv)(k:Nat):∀(i:Nat)(q:Bv),(ps.take k)[i]?=some q->ps[0+i]?=some q:=λi q hq=>by
 rw[List.getElem?_take] at hq;split at hq
 ·rw[Nat.zero_add];exact hq
 ·cases hq
theorem Kt(ps:List Bv)(k:Nat):∀(i:Nat)(q:Bv),(ps.drop k)[i]?=some q->ps[k+i]?=some q:=λi q hq=>by rwa [List.getElem?_drop] at hq
theorem JW(h:w.ownsRow base 115 3 v n xs)(hx:xs=E8 qs)(hn:n=qs.length)(hl:∀p∈qs,F7 w base p.2.1 p.1.has/\F7 w base p.2.2 p.1.nj/\p.1.nm.size<=maxLen):Bq w base v qs:=by
 subst hx hn;exact⟨h,hl⟩
theorem Zo(ps:List Bv)(h:∀p∈ps,(∃a n c,p.2.1=Vz a n c)/\∃a n c,p.2.2=Vz a n c):∀u∈E8 ps,u.oneCell'=true:=by
 induction ps with
 | nil=>intro u hu;simp[E8] at hu
 | cons p r ih =>
  intro u hu;rw[E8,D0] at hu;rcases hu with hu|hu
  ·obtain⟨⟨a,n,c,h1⟩,a2,n2,c2,h2⟩:=h p (by simp);simp only[O3,h1,h2,List.mem_cons,List.not_mem_nil,or_false] at hu;rcases hu with rfl|rfl|rfl<;>rfl
  ·exact ih (λq hq=>h q (by simp[hq])) u hu
theorem Bq.one(h:Bq w base v ps)(qs:List Bv)(hq:∀p∈qs,p∈ps):∀u∈E8 qs,u.oneCell'=true :=
 Zo qs λp hp=>by
  obtain⟨q1,q2,-⟩:=h.2 p (hq p hp);obtain⟨a,c,e1⟩:=q1.lst.shape;obtain⟨a2,c2,e2⟩:=q2.lst.shape;exact⟨⟨_,_,_,e1⟩,⟨_,_,_,e2⟩⟩
theorem Fn(b:Bk)(v:Value)(w:World)(h:Q6 w v b)(hn:b.tg.length<=100)(hn5:b.bs.length<=100)(hsm:∀y∈b.bs,y.has.length<=100/\y.nj.length<=100):
  Calls prog 161 #[v] w λe w'=>(∃a1 c1 a2 c2 ps,e=.returned (.agg #[Vz a1 b.tg.length c1,Vz a2 b.bs.length c2])/\Bq w' w.heap.size (Vz a2 b.bs.length c2) ps/\ps.map (·.1)=b.bs/\L7 w' w.heap.size none ((Vz a1 b.tg.length c1,b.tg)::N0 ps))/\Up w w':=by
 obtain⟨a1,c1,a2,c2,rfl,h1,h2⟩:=h.parts;obtain⟨ii,hi,k3,k4,k5⟩:=info_parts Cs;obtain⟨W1,g4,kA,kR,d2,k6⟩:=cbE2 w [Vz a1 (b).tg.length c1,Vz a2 (b).bs.length c2] 26 [Nz,Nz] 26;go_in;go_upto_region 1 with fail;try rw[g4]
 clear g4;have l1:=h1.up d2;have l2:=h2.up d2;obtain⟨e0,e1⟩:=kA.c2';clear h h1 h2;go_wp2_with fail;refine (Eh b.tg _ _ l1 (by omega)).mono ?_;rintro e w2 ⟨⟨tu,rfl,g3⟩,c0⟩;obtain⟨a7,a8,rfl⟩:=g3.lst.shape;have m7:=c0.size;have h0:=kA.up c0 (by omega);have h3:=kR.up c0 (by omega);have k8:=l2.up c0;have e4:=D5 d2 c0;have c7:w.heap.size+1<W1.heap.size:=by omega
 have e5:w.heap.size<=W1.heap.size:=by omega
 have h4:L7 w2 W1.heap.size (some w2.heap.size) [((Vz a7 b.tg.length a8),b.tg)]:=((My w2 W1.heap.size none).mk1 g3).avoid (A4 _);clear e0 e1 l1 l2 kA kR k6 d2 c0 g3;go_upto_region 2 with fail;obtain⟨W3,g5,kX,d5,k7⟩:=cbE1 w2 [(Vz a7 b.tg.length a8),Nz] 26;try rw[g5]
 clear g5 k7;have h5:=h4.up d5;clear h4;obtain⟨f0,f1⟩:=h0.c2';have k9:=h0.2.2;have f1:=(d5.cell (p:=⟨w.heap.size,1,none⟩) k9).trans f1;obtain⟨-,c6⟩:=k8.at;go_wp2_with fail;go_loopw [5,13] (λ_ i w'=>∃(k:Nat)(ps:List Bv)(xv:Value),k<=b.bs.length/\i=.int .i64 k/\ps.map (·.1)=b.bs.take k/\CB w' w2.heap.size [(Vz a7 b.tg.length a8),xv]/\w'.ownsRow (w2.heap.size+1) 115 3 xv ps.length (E8 ps)/\(∀p∈ps,p.1.nm.size<=maxLen)/\Up w2 w'/\L7 w' W1.heap.size (some w2.heap.size) (((Vz a7 b.tg.length a8),b.tg)::N0 ps)) (λ_ i _=>b.bs.length-(intOf i).toNat)
 case atStart=>exact⟨0,[],Nz,by omega,rfl,by simp,kX,B9 _ _ _ _,λp hp=>by simp at hp,d5,h5⟩
 case round =>
  clear kX d5 h5 f1;obtain⟨k,ps,xv,hk,rfl,e3,kX,a5,g6,hB,hF⟩:=hrel;have Hps:Hid (ps.map (·.1)=b.bs.take k):=e3;have Hnm:Hid (∀p∈ps,p.1.nm.size<=maxLen):=g6;have h6:ps.length=k:=by have:=congrArg List.length e3;simp at this;omega
  have l0:ps.length<=100:=by omega
  have Hpl:Hid (ps.length=k):=h6;clear e3 g6 h6;by_cases hp:k<b.bs.length
  ·obtain⟨bb,o,rfl,hS,hb⟩:=c6 (by omega);obtain⟨a3,d3,a4,d4,c3,c4,c5,l3,l4,z0⟩:=(hS.at hp).cells;have c3:=(hB.cell (p:=⟨bb,o+k*3,none⟩) hb).trans c3;have c4:=(hB.cell (p:=⟨bb,o+k*3+1,none⟩) hb).trans c4;have c5:=(hB.cell (p:=⟨bb,o+k*3+2,none⟩) hb).trans c5;obtain⟨s1,s2⟩:=hsm b.bs[k] (by simp);have L4:Hid (∀X,Up w2 X->Ls X (Vz a4 (b.bs[k]).nj.length d4) (b.bs[k]).nj):=λX hX=>l4.up hX;have l3:=l3.up hB;have HX:Hid (b.bs.take (k+1)=b.bs.take k++[b.bs[k]]):=A8 hp;have Hz0:Hid ((b.bs[k]).nm.size<=maxLen):=z0;generalize b.bs[k]=x0 at *;have m8:=hB.size;go_upto_region 5 with fail;obtain⟨W4,g7,kB,b6,l9⟩:=cbE1 wr [Tz x0.nm,Vz a3 x0.has.length d3,Vz a4 x0.nj.length d4] 115;try rw[g7]
   clear g7 c3 c4 c5 hS z0;have l5:=kX.2.2;have h7:=kX.up b6 l5;have b0:=E4 a5 b6;have e6:=hF.up b6;have e7:=(hF.avoid (A4 _)).up b6
   have h8:∀g,xv.ownBlock=some g->some g≠some wr.heap.size:=λg hg e=>by
    have h1:=(a5.lt g hg).2;have:g=wr.heap.size:=by simpa using e
    omega
   have h9:=D5 hB b6;have l3:=l3.up b6;have i0:=kB.2.2;have i1:w2.heap.size<W4.heap.size:=by omega
   have m9:W1.heap.size<=wr.heap.size:=by omega
   clear b6 kX a5 hF hB;obtain⟨⟨j0,j1,j2⟩,m0,m1,m2⟩:=kB.c3;go_wp2_with fail;refine (Eh x0.has _ _ l3 (by omega)).mono ?_;rintro e W5 ⟨⟨hu,rfl,d9⟩,b5⟩;obtain⟨ah,ch,rfl⟩:=d9.lst.shape;have e8:=kB.up b5 i0;have i2:=h7.up b5 i1;have b1:=E4 b0 b5;have i3:=e6.new (e6.up b5) d9 (A4 _) (by omega) (Ef i1);have e9:=e7.new (e7.up b5) d9 (A4 _) (by omega) (Ef i0);have i4:=D5 h9 b5;have n0:=b5.size;clear j0 j1 j2 m0 m1 m2 kB h7 b0 e6 e7 h9 b5 d9 l3;obtain⟨⟨j0,j1,j2⟩,m0,m1,m2⟩:=e8.c3;go_upto_region 6 with fail;have d6:CB (W5.setCell ⟨wr.heap.size,1,none⟩ (Vz ah x0.has.length ch)) wr.heap.size [Tz x0.nm,Vz ah x0.has.length ch,Vz a4 x0.nj.length d4]:=e8.set (j:=1) (by simp);have i5:w2.heap.size≠wr.heap.size:=by omega
   have f2:=i2.other (q:=wr.heap.size) (j:=1) (u:=Vz ah x0.has.length ch) i5;have b2:=E5 b1 (E1 (rb:=wr.heap.size) (off:=1) (E2 W5 _) (Vz ah x0.has.length ch)) h8;have f3:=i3.set2 e9 1 (Vz ah x0.has.length ch);have f4:=e9.set 1 (Vz ah x0.has.length ch);have f5:Up w2 (W5.setCell ⟨wr.heap.size,1,none⟩ (Vz ah x0.has.length ch)):=i4.setCell (p:=⟨wr.heap.size,1,none⟩) (by show _<=wr.heap.size;omega) _;have l4:Ls (W5.setCell ⟨wr.heap.size,1,none⟩ (Vz ah x0.has.length ch)) (Vz a4 x0.nj.length d4) x0.nj:=L4.out _ f5;have l6:(W5.setCell ⟨wr.heap.size,1,none⟩ (Vz ah x0.has.length ch)).heap.size=W5.heap.size:=by simp
   clear j0 j1 j2 m0 m1 m2 e8 i2 b1 i3 e9 i4;generalize W5.setCell ⟨wr.heap.size,1,none⟩ (Vz ah x0.has.length ch)=W6 at *;have c8:=d6.2.2;have i6:=f2.2.2;obtain⟨⟨j0,j1,j2⟩,m0,m1,m2⟩:=d6.c3;clear l6;go_wp2_with fail;refine (Eh x0.nj _ _ l4 (by omega)).mono ?_;rintro e W7 ⟨⟨nu,rfl,e2⟩,b9⟩;obtain⟨an,cn,rfl⟩:=e2.lst.shape;have f6:=d6.up b9 c8;have i7:=f2.up b9 i6;have b3:=E4 b2 b9;have i8:=f3.new (f3.up b9) e2 (A4 _) (by omega) (Ef i6);have i9:=f4.new (f4.up b9) e2 (A4 _) (by omega) (Ef c8);have j3:=D5 f5 b9;clear j0 j1 j2 m0 m1 m2 d6 f2 b2 f3 f4 f5 b9 e2 l4;obtain⟨⟨j0,j1,j2⟩,m0,m1,m2⟩:=f6.c3;go_upto_region 7 with fail;have j4:CB (W7.setCell ⟨wr.heap.size,2,none⟩ (Vz an x0.nj.length cn)) wr.heap.size [Tz x0.nm,Vz ah x0.has.length ch,Vz an x0.nj.length cn]:=f6.set (j:=2) (by simp);have d7:=i7.other (q:=wr.heap.size) (j:=2) (u:=Vz an x0.nj.length cn) i5;have a6:=E5 b3 (E1 (rb:=wr.heap.size) (off:=2) (E2 W7 _) (Vz an x0.nj.length cn)) h8;have j5:=i8.set2 i9 2 (Vz an x0.nj.length cn);have j6:Up w2 (W7.setCell ⟨wr.heap.size,2,none⟩ (Vz an x0.nj.length cn)):=j3.setCell (p:=⟨wr.heap.size,2,none⟩) (by show _<=wr.heap.size;omega) _;clear j0 j1 j2 m0 m1 m2 f6 i7 b3 i8 i9 j3;generalize W7.setCell ⟨wr.heap.size,2,none⟩ (Vz an x0.nj.length cn)=W8 at *;obtain⟨⟨j0,j1,j2⟩,-⟩:=j4.c3;obtain⟨⟨g8,g9⟩,-⟩:=d7.c2;obtain⟨ax,cx,rfl⟩:=I7 a6;have a0:=World.ownsRow.alloc a6 (Kz [Tz x0.nm,Vz ah x0.has.length ch,Vz an x0.nj.length cn] 115);have l7:=d7.2.2;have d8:Up W8 (W8.alloc (Kz [Tz x0.nm,Vz ah x0.has.length ch,Vz an x0.nj.length cn] 115)):=(A5 _ _).alloc (A4 _) _;have j7:=d7.up d8 l7;have j8:=j5.up d8;have j9:w2.heap.size+1<=(W8.alloc (Kz [Tz x0.nm,Vz ah x0.has.length ch,Vz an x0.nj.length cn] 115)).heap.size:=by simp;omega
   have k0:Up w2 (W8.alloc (Kz [Tz x0.nm,Vz ah x0.has.length ch,Vz an x0.nj.length cn] 115)):=D5 j6 d8;go_wp2_with (at_builtin;refine wpList_append_own _ rfl _ _ 24 rfl (w2.heap.size+1) 115 ii _ 3 64 underlying24 hi k3 k4 k5 rfl (by decide) _ _ _ rfl a0 ⟨W8.heap.size,0,none⟩ 1 1 [Tz x0.nm,Vz ah x0.has.length ch,Vz an x0.nj.length cn] rfl rfl (λj u hj=>Gu _ _ _ _ _ hj) (by simp[Value.oneCell']) (by unfold maxLen;omega) (by omega) j9 ?_)
   intro v9 W9 hown9 hgr9 _;have f7:=j7.kept hgr9 (Aj a0 (by omega));have k1:=j8.row a0 hgr9;have k2:Up w2 W9:=M1 k0 a0 hgr9 (by omega);have d0:=k1.turn.perm (JP ps ((x0,Vz ah x0.has.length ch,Vz an x0.nj.length cn):Bv) [((Vz a7 b.tg.length a8),b.tg)])
   have b4:W9.ownsRow (w2.heap.size+1) 115 3 v9 (ps++[((x0,Vz ah x0.has.length ch,Vz an x0.nj.length cn):Bv)]).length (E8 (ps++[((x0,Vz ah x0.has.length ch,Vz an x0.nj.length cn):Bv)])):=by
    rw[Dh,B0];exact hown9
   have HM:Hid ((ps++[((x0,Vz ah x0.has.length ch,Vz an x0.nj.length cn):Bv)]).map (·.1)=b.bs.take (k+1)):=by
    show _=_
    rw[HX.out,List.map_append,Hps.out];rfl
   have HN:Hid (∀p∈ps++[((x0,Vz ah x0.has.length ch,Vz an x0.nj.length cn):Bv)],p.1.nm.size<=maxLen):=λp hp=>by
    rcases D0.1 hp with h|h
    ·exact Hnm.out p h
    ·obtain rfl:p=_:=by simpa using h
     exact Hz0.out
   obtain⟨a9,c9,rfl⟩:=I7 hown9;clear hown9 hgr9 a0 j7 j8 k0 d8 j5 a6 d7 j6 g8 g9 j0 j1 j2 k1 j4 j9;obtain⟨⟨y0,y1⟩,g0,g1⟩:=f7.c2;have f8:CB (W9.setCell ⟨w2.heap.size,1,none⟩ (Vz a9 (ps.length+1) c9)) w2.heap.size [(Vz a7 b.tg.length a8),Vz a9 (ps.length+1) c9]:=f7.set (j:=1) (by simp);have b7:=F2 b4 (E1 (rb:=w2.heap.size) (off:=1) (E2 W9 _) (Vz a9 (ps.length+1) c9)) (Nat.lt_succ_self _);have f9:=d0.set 1 (Vz a9 (ps.length+1) c9);have g2:Up w2 (W9.setCell ⟨w2.heap.size,1,none⟩ (Vz a9 (ps.length+1) c9)):=k2.setCell (p:=⟨w2.heap.size,1,none⟩) (A4 _) _;clear f7 b4 d0 k2;go_wp2_with fail;go_roundw
   case rel=>exact⟨k+1,_,_,by omega,by go_num,HM.out,f8,b7,HN.out,g2,f9⟩
   case measure=>simp[intOf];omega
  ·obtain rfl:k=b.bs.length:=by omega
   have kR:=h3.up hB h3.2.2;obtain⟨⟨g8,g9⟩,-⟩:=kX.c2;obtain⟨⟨m3,m4⟩,m5,m6⟩:=kR.c2;have Hps2:Hid (ps.map (·.1)=b.bs):=by show _=_;rw[Hps.out,List.take_length]
   have l8:=D5 e4 hB;obtain⟨ax,cx,rfl⟩:=I7 a5;have Hlen:Hid (ps.length=b.bs.length):=Hpl.out;clear Hpl c6;go_wp2_with fail;refine FM results161 underlying26 rfl M5 kR rfl ?_;have d1:=I8 (F2 (F2 a5 (E1 (rb:=w.heap.size+1) (off:=0) (E2 _ _) (Vz a7 b.tg.length a8)) (by omega)) (E1 (rb:=w.heap.size+1) (off:=1) (E2 _ _) (Vz ax ps.length cx)) (by omega)) (show w.heap.size<=w2.heap.size+1 by omega);have b8:=((hF.free.setLow c7 0 (Vz a7 b.tg.length a8)).setLow c7 1 (Vz ax ps.length cx)).low e5;have hW:=b8.bsW (fs:=[((Vz a7 b.tg.length a8),b.tg)]) d1 Hnm.out;rw[Hlen.out] at hW b8 ⊢
   exact⟨⟨_,_,_,_,ps,rfl,hW,Hps2.out,b8⟩,K6 l8 (Nat.le_succ _) _ _⟩
theorem FC(b:Bk)(v:Value)(w:World)(h:Q6 w v b)(hn:b.tg.length<=1048576)(hn5:b.bs.length<=100)(hsm:∀y∈b.bs,y.has.length<=1048576/\y.nj.length<=1048576):
  Calls prog 75 #[v] w λe w'=>(∃tu bu ps,e=.returned (.agg #[tu,bu])/\F7 w' w.heap.size tu b.tg/\Bq w' w.heap.size bu ps/\ps.map (·.1)=b.bs/\L7 w' w.heap.size none ((tu,b.tg)::N0 ps)/\∀p∈ps,NN p.2.1)/\Up w w':=by
 obtain⟨a1,c1,a2,c2,rfl,h1,h2⟩:=h.parts;obtain⟨ii,hi,g6,g7,g8⟩:=info_parts Cs;obtain⟨W1,e9,kA,kR,d0,g9⟩:=cbE2 w [Vz a1 (b).tg.length c1,Vz a2 (b).bs.length c2] 26 [Nz,Nz] 26;go_in;go_upto_region 1 with fail;try rw[e9]
 clear e9;have l1:=h1.up d0;have l2:=h2.up d0;obtain⟨e0,e1⟩:=kA.c2';clear h h1 h2;go_wp2_with fail;refine (Bj b.tg _ _ l1 hn).mono ?_;rintro e w2 ⟨⟨tu,rfl,e8,-⟩,b8⟩;obtain⟨a9,b0,rfl⟩:=e8.lst.shape;have i2:=b8.size;have f5:=kA.up b8 (by omega);have d8:=kR.up b8 (by omega);have h5:=l2.up b8;have c0:=D5 d0 b8;have c6:w.heap.size+1<W1.heap.size:=by omega
 have d9:w.heap.size<=W1.heap.size:=by omega
 have f6:L7 w2 W1.heap.size (some w2.heap.size) [(Vz a9 b.tg.length b0,b.tg)]:=((My w2 W1.heap.size none).mk1 e8).avoid (A4 _);clear e0 e1 l1 l2 kA kR g9 d0 b8;go_upto_region 2 with fail;obtain⟨W3,f2,kX,d5,h0⟩:=cbE1 w2 [Vz a9 b.tg.length b0,Nz] 26;rw[f2];clear f2;clear h0;have f7:=f6.up d5;clear f6;obtain⟨f0,f1⟩:=f5.c2';have g0:=f5.2.2;obtain⟨-,b9⟩:=h5.at;have i3:w.heap.size+1<w2.heap.size:=d8.2.2;go_wp2_with fail;go_loopw [4] (λi w'=>∃(k:Nat)(ps:List Bv)(xv:Value),k<=b.bs.length/\i=.int .i64 k/\ps.map (·.1)=b.bs.take k/\CB w' w2.heap.size [Vz a9 b.tg.length b0,xv]/\Bq w' (w2.heap.size+1) xv ps/\Up w2 w'/\L7 w' W1.heap.size (some w2.heap.size) ((Vz a9 b.tg.length b0,b.tg)::N0 ps)/\∀p∈ps,NN p.2.1) (λi _=>b.bs.length-(intOf i).toNat)
 case atStart=>exact⟨0,[],Nz,by omega,rfl,by simp,kX,⟨⟨by simp[E8],.inl ⟨rfl,rfl⟩⟩,λp hp=>by simp at hp⟩,d5,f7,λp hp=>by simp at hp⟩
 case round =>
  clear kX d5 f7;obtain⟨k,ps,xv,hk,rfl,d6,kX,hW,hB,hF,f3⟩:=hrel;have HF:Hid (L7 wr W1.heap.size (some w2.heap.size) ((Vz a9 b.tg.length b0,b.tg)::N0 ps)):=hF;clear hF;have Hnn:Hid (∀p∈ps,NN p.2.1):=f3;clear f3;have Hps:Hid (ps.map (·.1)=b.bs.take k):=d6;have e2:ps.length=k:=by have:=congrArg List.length d6;simp at this;omega
  clear d6;by_cases hp:k<b.bs.length
  ·obtain⟨bb,o,rfl,hS,hb⟩:=b9 (by omega);obtain⟨a3,d3,a4,d4,c3,c4,c5,l3,l4,z0⟩:=(hS.at hp).cells;have g1:=(hB.cell (p:=⟨w.heap.size,1,none⟩) g0).trans f1;have c3:=(hB.cell (p:=⟨bb,o+k*3,none⟩) hb).trans c3;have c4:=(hB.cell (p:=⟨bb,o+k*3+1,none⟩) hb).trans c4;have c5:=(hB.cell (p:=⟨bb,o+k*3+2,none⟩) hb).trans c5;obtain⟨s1,s2⟩:=hsm b.bs[k] (by simp);have l3:=l3.up hB;have l4:=l4.up hB;have HX:Hid (b.bs.take (k+1)=b.bs.take k++[b.bs[k]]):=A8 hp;generalize b.bs[k]=x0 at *;obtain⟨⟨f4,d7⟩,h3,h4⟩:=kX.c2;have a7:=kX.2.2;have i4:=hB.size;have h6:w.heap.size<w2.heap.size+1:=by omega
   have b3:bb<w2.heap.size+1:=by omega
   have mk:∀w',Below (w2.heap.size+1) wr w'->Below (w2.heap.size+1) wr w'/\At w' w.heap.size 1 (Sy bb o b.bs.length c2)/\At w' bb (o+k*3) (Tz x0.nm)/\At w' bb (o+k*3+1) (Vz a3 x0.has.length d3)/\At w' bb (o+k*3+2) (Vz a4 x0.nj.length d4)/\At w' w2.heap.size 1 xv:=λw' hb'=>⟨hb',(hb'.cell (p:=⟨w.heap.size,1,none⟩) h6).trans g1,(hb'.cell (p:=⟨bb,o+k*3,none⟩) b3).trans c3,(hb'.cell (p:=⟨bb,o+k*3+1,none⟩) b3).trans c4,(hb'.cell (p:=⟨bb,o+k*3+2,none⟩) b3).trans c5,(hb'.cell (p:=⟨w2.heap.size,1,none⟩) (Nat.lt_succ_self _)).trans d7⟩;have i5:=mk wr (A5 _ _);have b4:=hW.1;rw[e2] at b4;have g2:Up wr wr.drew:=(A5 _ _).drew;have Mk:Hid (∀w',Below (w2.heap.size+1) wr w'->Below (w2.heap.size+1) wr w'/\At w' w.heap.size 1 (Sy bb o b.bs.length c2)/\At w' bb (o+k*3) (Tz x0.nm)/\At w' bb (o+k*3+1) (Vz a3 x0.has.length d3)/\At w' bb (o+k*3+2) (Vz a4 x0.nj.length d4)/\At w' w2.heap.size 1 xv):=mk;clear mk g1 c3 c4 c5 f4 d7;have a0:Below (w2.heap.size+1) wr wr.drew/\At wr.drew w.heap.size 1 (Sy bb o b.bs.length c2)/\At wr.drew bb (o+k*3) (Tz x0.nm)/\At wr.drew bb (o+k*3+1) (Vz a3 x0.has.length d3)/\At wr.drew bb (o+k*3+2) (Vz a4 x0.nj.length d4)/\At wr.drew w2.heap.size 1 xv:=Mk.out _ (A5 _ _).drew;go_wp2_with fail;refine F5 26 (λw'=>Below (w2.heap.size+1) wr w'/\At w' w.heap.size 1 (Sy bb o b.bs.length c2)/\At w' bb (o+k*3) (Tz x0.nm)/\At w' bb (o+k*3+1) (Vz a3 x0.has.length d3)/\At w' bb (o+k*3+2) (Vz a4 x0.nj.length d4)/\At w' w2.heap.size 1 xv) (by kernel_rfl) ?_;refine D6 0 rfl a0 ?_;refine D6 1 rfl a0 ?_;refine D6 2 rfl a0 ?_;refine D6 3 rfl a0 ?_;refine D6 4 rfl a0 ?_;refine D6 5 rfl a0 ?_;refine D6 6 rfl a0 ?_;refine D6 7 rfl a0 ?_;refine D6 8 rfl a0 ?_;refine D6 9 rfl a0 ?_;refine D6 10 rfl a0 ?_;refine D6 11 rfl a0 ?_;refine D6 12 rfl a0 ?_;refine D6 13 rfl a0 ?_;refine D6 15 rfl a0 ?_;refine D6 16 rfl a0 ?_;refine D6 17 rfl a0 ?_;refine D6 18 rfl a0 ?_;refine D6 19 rfl a0 ?_;refine D6 20 rfl a0 ?_;refine E7 14 rfl (λK hK=>?_);go_simp;go_wp2_with (go_at_call 66;refine (Bj x0.has _ _ (l3.up g2) s1).mono ?_;rintro e w8 ⟨⟨hu,rfl,d1,g5⟩,c9⟩;have Hun:Hid (NN hu):=g5;clear g5;have b1:=D5 g2 c9;obtain⟨ah,ch,rfl⟩:=d1.lst.shape;have g3:Below (w2.heap.size+1) wr w8/\At w8 w.heap.size 1 (Sy bb o b.bs.length c2)/\At w8 bb (o+k*3) (Tz x0.nm)/\At w8 bb (o+k*3+1) (Vz a3 x0.has.length d3)/\At w8 bb (o+k*3+2) (Vz a4 x0.nj.length d4)/\At w8 w2.heap.size 1 xv:=Mk.out _ (b1.mono a7))
   refine E6 hK g3 ?_;clear hK K;refine E7 21 rfl (λK hK=>?_);go_simp;go_wp2_with (go_at_call 66;refine (Bj x0.nj _ _ (l4.up b1) s2).mono ?_;rintro e w9 ⟨⟨nu,rfl,d2,-⟩,a8⟩;have a6:=D5 b1 a8;obtain⟨an,cn,rfl⟩:=d2.lst.shape;have e3:Below (w2.heap.size+1) wr w9/\At w9 w.heap.size 1 (Sy bb o b.bs.length c2)/\At w9 bb (o+k*3) (Tz x0.nm)/\At w9 bb (o+k*3+1) (Vz a3 x0.has.length d3)/\At w9 bb (o+k*3+2) (Vz a4 x0.nj.length d4)/\At w9 w2.heap.size 1 xv:=Mk.out _ (a6.mono a7))
   refine E6 hK e3 ?_;clear hK K;refine D6 22 rfl e3 ?_;have g4:Below (w2.heap.size+1) wr (w9.alloc (Kz [Tz x0.nm,Vz ah x0.has.length ch,Vz an x0.nj.length cn] 115))/\At (w9.alloc (Kz [Tz x0.nm,Vz ah x0.has.length ch,Vz an x0.nj.length cn] 115)) w.heap.size 1 (Sy bb o b.bs.length c2)/\At (w9.alloc (Kz [Tz x0.nm,Vz ah x0.has.length ch,Vz an x0.nj.length cn] 115)) bb (o+k*3) (Tz x0.nm)/\At (w9.alloc (Kz [Tz x0.nm,Vz ah x0.has.length ch,Vz an x0.nj.length cn] 115)) bb (o+k*3+1) (Vz a3 x0.has.length d3)/\At (w9.alloc (Kz [Tz x0.nm,Vz ah x0.has.length ch,Vz an x0.nj.length cn] 115)) bb (o+k*3+2) (Vz a4 x0.nj.length d4)/\At (w9.alloc (Kz [Tz x0.nm,Vz ah x0.has.length ch,Vz an x0.nj.length cn] 115)) w2.heap.size 1 xv:=Mk.out _ ((a6.mono a7).alloc (B3 a7 a6.size) _);have a5:=(E4 b4 a6).alloc (Kz [Tz x0.nm,Vz ah x0.has.length ch,Vz an x0.nj.length cn] 115);refine E7 23 rfl (λK hK=>?_);go_simp;refine E6 hK g4 ?_;clear hK K;refine E7 24 rfl (λK hK=>?_);refine J0 rfl _ _ 24 rfl (w2.heap.size+1) 115 ii _ 3 64 underlying24 hi g6 g7 g8 rfl (by decide) xv _ _ rfl a5 ⟨w9.heap.size,0,none⟩ 1 1 [Tz x0.nm,Vz ah x0.has.length ch,Vz an x0.nj.length cn] rfl rfl (λj u hj=>Gu _ _ _ _ _ hj) (by simp[Value.oneCell']) (by unfold maxLen;omega) (by omega) (by have:=a6.size;simp;omega) ?_;intro v' w10 hown10 hgr10;have b5:=((kX.up a6 a7).up ((A5 w9.heap.size w9).alloc (A4 _) (Kz [Tz x0.nm,Vz ah x0.has.length ch,Vz an x0.nj.length cn] 115)) (A2 a7 a6.size)).kept hgr10 (Aj a5 (by omega));have b2:=Xy hW a6 (I8 (d1.up a8) a7) (I8 d2 (B3 a7 b1.size)) z0 hgr10 (by rw[e2];exact hown10);have b6:Below (w2.heap.size+1) wr w10:=L5 ((a6.mono a7).alloc (B3 a7 a6.size) (Kz [Tz x0.nm,Vz ah x0.has.length ch,Vz an x0.nj.length cn] 115)) (by have:=a6.size;simp;omega) a5 hgr10 (A4 _);have b7:Below (w2.heap.size+1) wr w10/\At w10 w.heap.size 1 (Sy bb o b.bs.length c2)/\At w10 bb (o+k*3) (Tz x0.nm)/\At w10 bb (o+k*3+1) (Vz a3 x0.has.length d3)/\At w10 bb (o+k*3+2) (Vz a4 x0.nj.length d4)/\At w10 w2.heap.size 1 xv:=Mk.out _ b6;obtain⟨gg,cc,rfl⟩:=I6 hown10 (by omega);obtain⟨⟨j0,j1⟩,m0,m1⟩:=b5.c2;refine E6 hK b7 ?_;clear hK K;refine D6 25 rfl b7 ?_;refine E7 26 rfl (λK hK=>?_);go_simp;refine Bf hK ?_;clear hK K;refine F0 (by kernel_rfl) ?_ _
   have c7:L7 w10 W1.heap.size (some w2.heap.size) ((Vz a9 b.tg.length b0,b.tg)::N0 (ps++[((x0,Vz ah x0.has.length ch,Vz an x0.nj.length cn):Bv)])):=by
    have f0:=HF.out;have f8:=f0.new (f0.up b1) d1 (A4 _) (by have:=hB.size;have:=c0.size;show W1.heap.size<=wr.heap.size;omega) (Ef a7);have f9:=f8.new (f8.up a8) d2 (A4 _) (by have:=b1.size;omega) (Ef (by have:=b1.size;omega));have fA:=(f9.up ((A5 w9.heap.size w9).alloc (A4 _) (Kz [Tz x0.nm,Vz ah x0.has.length ch,Vz an x0.nj.length cn] 115))).row a5 hgr10;exact fA.turn.perm (JP ps (x0,Vz ah x0.has.length ch,Vz an x0.nj.length cn) [(Vz a9 b.tg.length b0,b.tg)])
   have HNN:Hid (∀p∈ps++[((x0,Vz ah x0.has.length ch,Vz an x0.nj.length cn):Bv)],NN p.2.1):=λp hp=>by
    rcases D0.1 hp with h|h
    ·exact Hnn.out p h
    ·obtain rfl:p=(x0,Vz ah x0.has.length ch,Vz an x0.nj.length cn):=by simpa using h
     exact Hun.out
   have HM:Hid ((ps++[((x0,Vz ah x0.has.length ch,Vz an x0.nj.length cn):Bv)]).map (·.1)=b.bs.take (k+1)):=by
    show _=_
    rw[HX.out,List.map_append,Hps.out];rfl
   have e4:Up w2 (w10.setCell ⟨w2.heap.size,1,none⟩ (Sz gg (k+1) cc)):=(hB.trans (b6.mono (Nat.le_succ _))).setCell (p:=⟨w2.heap.size,1,none⟩) (A4 _) _;have e5:CB (w10.setCell ⟨w2.heap.size,1,none⟩ (Sz gg (k+1) cc)) w2.heap.size [Vz a9 b.tg.length b0,Sz gg (k+1) cc]:=b5.set (j:=1) (by simp);have e6:=c7.set 1 (Sz gg (k+1) cc);have c8:=b2.set (j:=1) (u:=Sz gg (k+1) cc) (Nat.lt_succ_self w2.heap.size);clear a0 g3 e3 g4 b7 a5 hown10 hgr10 b6 a6 b1 c9 a8 d1 d2 b5 b2 c7 j0 j1 m0 m1 Mk b4 hW kX l3 l4 h3 h4 hS;go_wp2_with fail;go_roundw
   case rel=>exact⟨k+1,_,_,by omega,by go_num,HM.out,e5,c8,e4,e6,HNN.out⟩
   case measure=>simp[intOf];omega
  ·obtain rfl:k=b.bs.length:=by omega
   have kR:=d8.up hB d8.2.2;have g1:=(hB.cell (p:=⟨w.heap.size,1,none⟩) g0).trans f1;obtain⟨⟨f4,d7⟩,-⟩:=kX.c2;obtain⟨⟨h8,h9⟩,i0,i1⟩:=kR.c2;have e7:=e8.up hB;have Hps2:Hid (ps.map (·.1)=b.bs):=by show _=_;rw[Hps.out,List.take_length]
   have h7:=D5 c0 hB;obtain⟨ax,cx,rfl⟩:=I7 hW.1;clear b9 e2;go_wp2_with fail;refine FM results75 underlying26 rfl M5 kR rfl ?_;refine⟨⟨_,_,ps,rfl,?_,?_,Hps2.out,((HF.out.free.setLow (by omega) _ _).setLow (by omega) _ _).low (by omega),Hnn.out⟩,K6 h7 (Nat.le_succ _) _ _⟩
   ·exact (show F7 _ _ _ _ from I8 (F2 (F2 e7 (E1 (rb:=w.heap.size+1) (off:=0) (E2 _ _) _) c6) (E1 (rb:=w.heap.size+1) (off:=1) (E2 _ _) _) c6) d9)
   ·exact ((hW.set (by omega)).set (by omega)).low (by omega)
end Go.Proofs.YtmonodehegcfhaaGreatDoor
