/- The program's chapter 13: copies. -/
import Derived.Test.YtmfjakieahkacaaGreatDoorJ8
import Derived.Test.YtmfjakieahkacaaGreatDoorKf
import Derived.Test.YtmfjakieahkacaaGreatDoorJ2
import Derived.Laws.BitsAllLaws
set_option maxRecDepth 20000
set_option maxHeartbeats 4000000
namespace Go.Proofs.YtmfjakieahkacaaGreatDoor
open Go.RowKit
theorem IQ{P:Program}{w:World}{t u ty e e':TypeId}(ht:P.underlying t=some (.slice e))(hu:P.underlying u=some (.slice e'))(v x:Value):
  (Builtin.append_ #[t,u] ty #[v,x]).run P w=(Builtin.append_ #[t,t] ty #[v,x]).run P w:=by
 unfold Builtin.append_;simp only[List.getElem?_toArray,List.getElem?_cons_zero,List.getElem?_cons_succ,Sem.run_bind,run_underlying ht,Result.andThen_ok];cases v with
 | slice a n c=>simp only[Sem.run_bind,run_underlying ht,run_underlying hu,Result.andThen_ok,Sem.run_pure]
 | _=>rfl
theorem Dq{P:Program}(w:World){ops:Array Oper}{rest:List Oper}{o:Oper}{ac:Act}{Q:Exit->Act->World->Prop}(hg:o.guard=none)(s x:Operand)(t u:TypeId)(hop:o.op=.call {callee:=.builtin .append,args:=#[s,x],argTypes:=#[t,u]})
  (v xv v':Value) (w':World) (hs:ac.eval s=v) (hx:ac.eval x=xv) (hr:(Builtin.append_ #[t,u] o.type #[v,xv]).run P w=.ok v' w') (h:wpList P ops Q rest (ac.put o.dst v') w'):wpList P ops Q (o::rest) ac w:=by
 refine wpList_plain hg λK hK=>?_;unfold Oper.wp;simp[execOp,hop,resolve,invoke,builtin,hs,hx,hr,Result.andThen];exact hK _ _ h
theorem GY(ss:List ByteArray)(v:Value)(w:World)(h:Ls w v ss)(hn:ss.length<=1048576):
  Calls Tryz.prog 82 #[v] w λe w'=>(∃u,e=.returned u/\E5 w' w.heap.size u ss)/\Below w.heap.size w w':=by
 obtain⟨a,c,rfl,-,-,hpos⟩:=h;obtain⟨ii,hi,iz0,iz1,iz2⟩:=info_parts Z0;have ho:E5 w w.heap.size (.slice none 0 0) []:=B9 _ _ _ _;rcases C3 ss.length with h0|h0
 ·obtain rfl:=C4.1 h0;simp only[List.length_nil];have hr:=(IQ (w:=w) (ty:=23) Tryz.underlying23 Tryz.underlying42 (.slice none 0 0) (.slice a 0 c)).trans (BL w.heap.size 23 23 9 ii 1 Tryz.underlying23 hi _ 0 [] ho a c);clear hpos hn h0;go_enter Tryz.func82,Tryz.ntmps82;go_wp2_with (at_builtin;refine Dq _ rfl _ _ _ _ rfl _ _ _ _ rfl rfl hr ?_)
  go_ret;exact⟨⟨_,rfl,ho⟩,A4 _ _⟩
 ·obtain⟨g,o,rfl,hS,hg⟩:=hpos h0;obtain⟨v1,w1,hr,hown1,hgr1,-⟩:=run_append_own (P:=Tryz.prog) w w.heap.size 23 23 9 ii _ 1 16 Tryz.underlying23 hi iz0 iz1 iz2 rfl (by decide) (.slice none 0 0) 0 [] ho ⟨g,o,none⟩ ss.length c (ss.map Value.string) (by simp) (BE hS) (IA ss) (by unfold maxLen;omega) (by omega) (A3 _);have hr2:=(IQ (w:=w) (ty:=23) Tryz.underlying23 Tryz.underlying42 (.slice none 0 0) (.slice (some ⟨g,o,none⟩) ss.length c)).trans hr;have hB1:=N5 (A4 _ _) ho hgr1 (A3 _);have ho1:E5 w1 w.heap.size v1 ss:=by unfold E5;simpa using hown1
  clear hown1 hgr1 hr hpos;go_enter Tryz.func82,Tryz.ntmps82;go_wp2_with (at_builtin;refine Dq _ rfl _ _ _ _ rfl _ _ _ _ rfl rfl hr2 ?_)
  go_ret;exact⟨⟨_,rfl,ho1⟩,hB1⟩
theorem IR(a b:List Bv):I8 (a++b)=I8 a++I8 b:=by
 induction a with
 | nil=>rfl
 | cons p r ih=>simp[I8,ih]
theorem U5:∀(ps:List Bv)(i:Nat)(p:Bv),ps[i]?=some p->∀(j:Nat)(u:Value),(Ch p)[j]?=some u->(I8 ps)[i*3+j]?=some u
 | q::r,0,p,hp,j,u,hu=>by
  simp at hp;subst hp
  have hj:j<(Ch q).length:=(A2.1 hu).1;rw[I8,Nat.zero_mul,Nat.zero_add,List.getElem?_append_left hj];exact hu
 | q::r,i+1,p,hp,j,u,hu=>by
  have:=U5 r i p (by simpa using hp) j u hu;have hl:(Ch q).length=3:=rfl;rw[I8,List.getElem?_append_right (by rw[hl];omega),hl,show (i+1)*3+j-3=i*3+j by omega];exact this
def O5(w:World)(base:Nat)(v:Value)(b:Bk):Prop:=∃tu bu ps,v=.agg #[tu,bu]/\E5 w base tu b.tg/\Bp w base bu ps/\ps.map (·.1)=b.bs
theorem K0.szb{w:World}{v:Value}{b:Bk}(h:K0 w v b):Bh b:=by
 obtain⟨tv,bv,rfl,⟨_,_,_,_,h1,_⟩,⟨a,c,_,_,h2⟩⟩:=h;refine⟨h1,λx hx=>?_⟩;obtain⟨i,hi,rfl⟩:=B7 hx;obtain⟨g,o,_,hS,_⟩:=h2 (by omega);obtain⟨hv,nv,_,⟨_,_,_,_,h3,_⟩,⟨_,_,_,_,h4,_⟩,_⟩:=hS.at hi;exact⟨h3,h4⟩
theorem Pi{w:World}{base e size n g cap:Nat}{xs:List Value}(h:w.ownsRow base e size (.slice (some ⟨g,0,none⟩) n cap) n xs):n<=cap/\cap<=maxLen:=by
 rcases h.2 with⟨h0,_⟩|⟨g',cap',cur,h',_,_,hc,hm,_⟩
 ·simp at h0
 ·simp only[Value.slice.injEq] at h';omega
theorem Rw{w:World}{base e size n:Nat}{v:Value}{xs:List Value}(h:w.ownsRow base e size v n xs):n<=maxLen:=by
 rcases h.2 with⟨_,rfl⟩|⟨g,cap,_,_,_,_,h1,h2,_⟩
 ·omega
 ·omega
theorem Bp.bs{w:World}{base:Nat}{v:Value}{ps:List Bv}{bs:List Ba}(h:Bp w base v ps)(hm:ps.map (·.1)=bs)(hz:∀x∈bs,(∀s∈x.has,s.size<=maxLen)/\(∀s∈x.nd,s.size<=maxLen)):Bs w v bs:=by
 subst hm;have hl:(ps.map (·.1)).length=ps.length:=B5 _;obtain⟨a,c,rfl⟩:=K3 h.1;refine⟨a,c,by rw[hl],by rw[hl];exact Rw h.1,λhp=>?_⟩;rw[hl] at hp;obtain⟨g,cap,hv⟩:=T7 h.1 hp;obtain⟨rfl,-,rfl⟩:=Value.slice.inj hv;refine⟨g,0,rfl,λi x hx=>?_,(h.1.lt g rfl).2⟩;rw[A9,B6] at hx;obtain⟨p,hp',rfl⟩:=hx;have hpm:p∈ps:=A6 hp';obtain⟨q1,q2,q3⟩:=h.2 p hpm;have hzz:=hz p.1 (List.mem_map_of_mem hpm);have hi:i<ps.length:=(A2.1 hp').1;refine⟨p.2.1,p.2.2,λj u hu=>?_,q1.lst.ls hzz.1,q2.lst.ls hzz.2,q3⟩;have hr:=U5 ps i p hp' j u hu;have hj:j<3:=(A2.1 hu).1;rw[Nat.zero_add,h.1.cellAt (i*3+j) (by omega)];exact hr
theorem O5.bk{w:World}{base:Nat}{v:Value}{b:Bk}(h:O5 w base v b)(hz:Bh b):K0 w v b:=by
 obtain⟨tu,bu,ps,rfl,h1,h2,h3⟩:=h;exact⟨tu,bu,rfl,h1.lst.ls hz.1,h2.bs h3 hz.2⟩
theorem O5.low{w:World}{base base':Nat}{v:Value}{b:Bk}(h:O5 w base v b)(hb:base'<=base):O5 w base' v b:=by
 obtain⟨tu,bu,ps,rfl,h1,h2,h3⟩:=h;exact⟨tu,bu,ps,rfl,N3 h1 hb,h2.low hb,h3⟩
theorem O5.up{w w':World}{base:Nat}{v:Value}{b:Bk}(h:O5 w base v b)(hb:Below w.heap.size w w'):O5 w' base v b:=by
 obtain⟨tu,bu,ps,rfl,h1,h2,h3⟩:=h;exact⟨tu,bu,ps,rfl,h1.up hb,h2.up hb,h3⟩
theorem O5.set{w:World}{base r j:Nat}{v u:Value}{b:Bk}(h:O5 w base v b)(hr:r<base):O5 (w.setCell ⟨r,j,none⟩ u) base v b:=by
 obtain⟨tu,bu,ps,rfl,h1,h2,h3⟩:=h;exact⟨tu,bu,ps,rfl,G9 h1 (E3 (F7 _ _) _) hr,h2.set hr,h3⟩
theorem O5.gr{w w':World}{base r:Nat}{v:Value}{b:Bk}(h:O5 w base v b)(hg:w.grownBy w' (some r))(hr:r<base):O5 w' base v b:=by
 obtain⟨tu,bu,ps,rfl,h1,h2,h3⟩:=h;exact⟨tu,bu,ps,rfl,G9 h1 hg hr,⟨G9 h2.1 hg hr,λp hp=>⟨G9 (h2.2 p hp).1 hg hr,G9 (h2.2 p hp).2.1 hg hr,(h2.2 p hp).2.2⟩⟩,h3⟩
theorem O5.parts{w:World}{base:Nat}{v:Value}{b:Bk}(h:O5 w base v b):∃a1 c1 a2 c2 ps,v=.agg #[.slice a1 b.tg.length c1,.slice a2 b.bs.length c2]/\E5 w base (.slice a1 b.tg.length c1) b.tg/\Bp w base (.slice a2 b.bs.length c2) ps/\ps.map (·.1)=b.bs:=by
 obtain⟨tu,bu,ps,rfl,h1,h2,h3⟩:=h;obtain⟨a1,c1,rfl⟩:=h1.lst.shape;obtain⟨a2,c2,rfl⟩:=K3 h2.1;have hl:ps.length=b.bs.length:=by rw[← h3,B5]
 rw[hl] at h2;exact⟨a1,c1,a2,c2,ps,by rw[hl],h1,h2,h3⟩
theorem FF(w:World)(base:Nat):O5 w base (.agg #[.slice none 0 0,.slice none 0 0]) S7 :=
 ⟨_,_,[],rfl,B9 _ _ _ _,⟨B9 _ _ _ _,λp hp=>by simp at hp⟩,rfl⟩
theorem K0.bsOf{w:World}{x y:Value}{b:Bk}(h:K0 w (.agg #[x,y]) b):Bs w y b.bs:=by
 obtain⟨tv,bv,e,-,h2⟩:=h;simp at e;obtain⟨rfl,rfl⟩:=e;exact h2
theorem BZ{v:Value}{x y:Int}(h:x=y):Ending.returned (.tuple #[v,.int .i64 x])=.returned (.tuple #[v,.int .i64 y]):=by rw[h]
theorem S3{P:Program}{fn:Func}{q q2:Tmp}{T:TypeId}(h:fn.results=#[.cell q T,.tmp q2]){d:TypeDesc}(hu:P.underlying T=some d)(hd:d.isRow=true)(hi:(P.info? T).map (·.size)=some 2){R:Ending->World->Prop}{tmps:Array Value}{w:World}{rk:Nat}{y0 y1 x0 x1 v:Value}
  (k:CB w rk [y0,y1]) (ht:tmps.getD q undef=.pointer (some ⟨rk,0,none⟩)) (hv:tmps.getD q2 undef=v) (hR:R (.returned (.tuple #[.agg #[x0,x1],v])) ((w.setCell ⟨rk,0,none⟩ x0).setCell ⟨rk,1,none⟩ x1)) :
  bodyPost P fn R .ret {tmps:=tmps,defers:=[]} ((w.setCell ⟨rk,0,none⟩ x0).setCell ⟨rk,1,none⟩ x1) :=
 bodyPost_ret (Jp (cs:=[x0,x1]) h hu hd hi ht hv (k.copy2 x0 x1)) rfl hR
theorem X6{W W':World}{base b2 n:Nat}{u v:Value}{ss:List ByteArray}{xs:List Value}(h:E5 W base u ss)(hrow:W.ownsRow b2 49 3 v n xs)(hg:W.grownBy W' v.ownBlock):E5 W' base u ss :=
 S9 h hg (Be h hrow (by decide))
theorem Fe{w:World}{base g cap n:Nat}{ps:List Bv}(h:w.ownsRow base 49 3 (.slice (some ⟨g,0,none⟩) n cap) n (I8 ps))(k:Nat)(qs:List Bv)(hq:∀i p,qs[i]?=some p->ps[k+i]?=some p):
  ∀(j:Nat)(u:Value),(I8 qs)[j]?=some u->w.cell? ((⟨g,k*3,none⟩:Addr).add j)=some u:=λj u hu=>by
 have hj:j<qs.length*3:=by rw[← Ci];exact (A2.1 hu).1
 have hi:j / 3<qs.length:=by omega
 have hp:=A0 hi
 have h3:(Ch (qs[j / 3]))[j % 3]?=some u:=by
  have hl:j % 3<(Ch (qs[j / 3])).length:=by show _<3;omega
  have:=U5 qs (j / 3) _ hp (j % 3) _ (A0 hl);rw[show j / 3*3+j % 3=j by omega,hu] at this;rw[A0 hl];exact this.symm
 have h4:=U5 ps (k+j / 3) _ (hq _ _ hp) (j % 3) u h3;have h5:=(A2.1 h4).1;rw[h.1] at h5;rw[Addr.add_mid,show k*3+j=(k+j / 3)*3+j % 3 by omega,h.cellAt _ h5];exact h4
theorem Xd{g n c:Nat}{r:Option Nat}(h:some g≠r):∀g',(Value.slice (some ⟨g,0,none⟩) n c).ownBlock=some g'->some g'≠r:=λg' hg'=>by
 simp only[Value.ownBlock,Option.some.injEq] at hg';subst hg';exact h
theorem Rx(ps:List Bv)(k:Nat):∀(i:Nat)(q:Bv),(ps.take k)[i]?=some q->ps[0+i]?=some q:=λi q hq=>by
 rw[List.getElem?_take] at hq;split at hq
 ·rw[Nat.zero_add];exact hq
 ·cases hq
theorem Ry(ps:List Bv)(k:Nat):∀(i:Nat)(q:Bv),(ps.drop k)[i]?=some q->ps[k+i]?=some q:=λi q hq=>by rwa [List.getElem?_drop] at hq
theorem IU{w:World}{base n:Nat}{v:Value}{qs:List Bv}{xs:List Value}(h:w.ownsRow base 49 3 v n xs)(hx:xs=I8 qs)(hn:n=qs.length)(hl:∀p∈qs,E5 w base p.2.1 p.1.has/\E5 w base p.2.2 p.1.nd/\p.1.nm.size<=maxLen):Bp w base v qs:=by
 subst hx hn;exact⟨h,hl⟩
theorem AdN(ps:List Bv)(h:∀p∈ps,(∃a n c,p.2.1=.slice a n c)/\∃a n c,p.2.2=.slice a n c):∀u∈I8 ps,u.oneCell'=true:=by
 induction ps with
 | nil=>intro u hu;simp[I8] at hu
 | cons p r ih =>
  intro u hu;rw[I8,C6] at hu;rcases hu with hu|hu
  ·obtain⟨⟨a,n,c,h1⟩,a2,n2,c2,h2⟩:=h p (by simp);simp only[Ch,h1,h2,List.mem_cons,List.not_mem_nil,or_false] at hu;rcases hu with rfl|rfl|rfl<;>rfl
  ·exact ih (λq hq=>h q (by simp[hq])) u hu
theorem Bp.one{w:World}{base:Nat}{v:Value}{ps:List Bv}(h:Bp w base v ps)(qs:List Bv)(hq:∀p∈qs,p∈ps):∀u∈I8 qs,u.oneCell'=true :=
 AdN qs λp hp=>by
  obtain⟨q1,q2,-⟩:=h.2 p (hq p hp);obtain⟨a,c,e1⟩:=q1.lst.shape;obtain⟨a2,c2,e2⟩:=q2.lst.shape;exact⟨⟨_,_,_,e1⟩,⟨_,_,_,e2⟩⟩
theorem MW(b:Bk)(v:Value)(w:World)(h:K0 w v b)(hn:b.tg.length<=100)(hn5:b.bs.length<=100)(hsm:∀y∈b.bs,y.has.length<=100/\y.nd.length<=100):
  Calls Tryz.prog 59 #[v] w λe w'=>(∃a1 c1 a2 c2 ps,e=.returned (.agg #[.slice a1 b.tg.length c1,.slice a2 b.bs.length c2])/\Bp w' w.heap.size (.slice a2 b.bs.length c2) ps/\ps.map (·.1)=b.bs/\M1 w' w.heap.size none ((.slice a1 b.tg.length c1,b.tg)::N4 ps))/\Below w.heap.size w w':=by
 obtain⟨a1,c1,a2,c2,rfl,h1,h2⟩:=h.parts;obtain⟨ii,hi,iz0,iz1,iz2⟩:=info_parts Cq;obtain⟨W1,hW1,kA,kR,hB1,hs1⟩:=cbE2 w [.slice a1 (b).tg.length c1,.slice a2 (b).bs.length c2] 26 [.slice none 0 0,.slice none 0 0] 26;go_enter Tryz.func59,Tryz.ntmps59;go_upto_region 1 with fail;try rw[hW1]
 clear hW1;have l1:=h1.up hB1;have l2:=h2.up hB1;obtain⟨e0,e1⟩:=kA.c2';clear h h1 h2;go_wp2_with fail;refine (GY b.tg _ _ l1 (by omega)).mono ?_;rintro e w2 ⟨⟨tu,rfl,hot⟩,hb2⟩;obtain⟨at1,ct1,rfl⟩:=hot.lst.shape;have hz2:=hb2.size;have kA2:=kA.up hb2 (by omega);have kR2:=kR.up hb2 (by omega);have l2':=l2.up hb2;have hBw2:=D1 hB1 hb2;have hW1z:w.heap.size+1<W1.heap.size:=by omega
 have hW1l:w.heap.size<=W1.heap.size:=by omega
 have hF2:M1 w2 W1.heap.size (some w2.heap.size) [((.slice at1 b.tg.length ct1),b.tg)]:=((Jt w2 W1.heap.size none).mk1 hot).avoid (A3 _);clear e0 e1 l1 l2 kA kR hs1 hB1 hb2 hot;go_upto_region 2 with fail;obtain⟨W3,hW3,kX,hb3,hs3⟩:=cbE1 w2 [(.slice at1 b.tg.length ct1),.slice none 0 0] 26;try rw[hW3]
 clear hW3 hs3;have hF3:=hF2.up hb3;clear hF2;obtain⟨f0,f1⟩:=kA2.c2';have hla:=kA2.2.2;have f1:=(hb3.cell (p:=⟨w.heap.size,1,none⟩) hla).trans f1;obtain⟨-,hpos⟩:=l2'.at;go_wp2_with fail;go_loopw [5,13] (λ_ i w'=>∃(k:Nat)(ps:List Bv)(xv:Value),k<=b.bs.length/\i=.int .i64 k/\ps.map (·.1)=b.bs.take k/\CB w' w2.heap.size [(.slice at1 b.tg.length ct1),xv]/\w'.ownsRow (w2.heap.size+1) 49 3 xv ps.length (I8 ps)/\(∀p∈ps,p.1.nm.size<=maxLen)/\Below w2.heap.size w2 w'/\M1 w' W1.heap.size (some w2.heap.size) (((.slice at1 b.tg.length ct1),b.tg)::N4 ps)) (λ_ i _=>b.bs.length-(intOf i).toNat)
 case atStart=>exact⟨0,[],.slice none 0 0,by omega,rfl,by simp,kX,B9 _ _ _ _,λp hp=>by simp at hp,hb3,hF3⟩
 case round =>
  clear kX hb3 hF3 f1;obtain⟨k,ps,xv,hk,rfl,hps,kX,hrow,hnm,hB,hF⟩:=hrel;have Hps:Hid (ps.map (·.1)=b.bs.take k):=hps;have Hnm:Hid (∀p∈ps,p.1.nm.size<=maxLen):=hnm;have hpl:ps.length=k:=by have:=congrArg List.length hps;simp at this;omega
  have hpl':ps.length<=100:=by omega
  have Hpl:Hid (ps.length=k):=hpl;clear hps hnm hpl;by_cases hp:k<b.bs.length
  ·obtain⟨bb,o,rfl,hS,hb⟩:=hpos (by omega);obtain⟨a3,d3,a4,d4,c3,c4,c5,l3,l4,z0⟩:=(hS.at hp).cells;have c3:=(hB.cell (p:=⟨bb,o+k*3,none⟩) hb).trans c3;have c4:=(hB.cell (p:=⟨bb,o+k*3+1,none⟩) hb).trans c4;have c5:=(hB.cell (p:=⟨bb,o+k*3+2,none⟩) hb).trans c5;obtain⟨s1,s2⟩:=hsm b.bs[k] (by simp);have L4:Hid (∀X,Below w2.heap.size w2 X->Ls X (.slice a4 (b.bs[k]).nd.length d4) (b.bs[k]).nd):=λX hX=>l4.up hX;have l3:=l3.up hB;have HX:Hid (b.bs.take (k+1)=b.bs.take k++[b.bs[k]]):=A7 hp;have Hz0:Hid ((b.bs[k]).nm.size<=maxLen):=z0;generalize b.bs[k]=x0 at *;have hzb:=hB.size;go_upto_region 5 with fail;obtain⟨W4,hW4,kB,hb4,hs4⟩:=cbE1 wr [.string x0.nm,.slice a3 x0.has.length d3,.slice a4 x0.nd.length d4] 49;try rw[hW4]
   clear hW4 c3 c4 c5 hS z0;have hxl:=kX.2.2;have kX4:=kX.up hb4 hxl;have hrow4:=P8 hrow hb4;have hF4:=hF.up hb4;have hG4:=(hF.avoid (A3 _)).up hb4
   have hrq:∀g,xv.ownBlock=some g->some g≠some wr.heap.size:=λg hg e=>by
    have h1:=(hrow.lt g hg).2;have:g=wr.heap.size:=by simpa using e
    omega
   have hB4:=D1 hB hb4;have l3:=l3.up hb4;have hbt:=kB.2.2;have hx4:w2.heap.size<W4.heap.size:=by omega
   have hX1:W1.heap.size<=wr.heap.size:=by omega
   clear hb4 kX hrow hF hB;obtain⟨⟨j0,j1,j2⟩,m0,m1,m2⟩:=kB.c3;go_wp2_with fail;refine (GY x0.has _ _ l3 (by omega)).mono ?_;rintro e W5 ⟨⟨hu,rfl,hoh⟩,hb5⟩;obtain⟨ah,ch,rfl⟩:=hoh.lst.shape;have kB5:=kB.up hb5 hbt;have kX5:=kX4.up hb5 hx4;have hrow5:=P8 hrow4 hb5;have hF5:=hF4.new (hF4.up hb5) hoh (A3 _) (by omega) (Ex hx4);have hG5:=hG4.new (hG4.up hb5) hoh (A3 _) (by omega) (Ex hbt);have hB5:=D1 hB4 hb5;have hz5:=hb5.size;clear j0 j1 j2 m0 m1 m2 kB kX4 hrow4 hF4 hG4 hB4 hb5 hoh l3;obtain⟨⟨j0,j1,j2⟩,m0,m1,m2⟩:=kB5.c3;go_upto_region 6 with fail;have kB6:CB (W5.setCell ⟨wr.heap.size,1,none⟩ (.slice ah x0.has.length ch)) wr.heap.size [.string x0.nm,.slice ah x0.has.length ch,.slice a4 x0.nd.length d4]:=kB5.set (j:=1) (by simp);have hxb:w2.heap.size≠wr.heap.size:=by omega
   have kX6:=kX5.other (q:=wr.heap.size) (j:=1) (u:=.slice ah x0.has.length ch) hxb;have hrow6:=S9 hrow5 (E3 (rb:=wr.heap.size) (off:=1) (F7 W5 _) (.slice ah x0.has.length ch)) hrq;have hF6:=hF5.set2 hG5 1 (.slice ah x0.has.length ch);have hG6:=hG5.set 1 (.slice ah x0.has.length ch);have hB6:Below w2.heap.size w2 (W5.setCell ⟨wr.heap.size,1,none⟩ (.slice ah x0.has.length ch)):=hB5.setCell (p:=⟨wr.heap.size,1,none⟩) (by show _<=wr.heap.size;omega) _;have l4:Ls (W5.setCell ⟨wr.heap.size,1,none⟩ (.slice ah x0.has.length ch)) (.slice a4 x0.nd.length d4) x0.nd:=L4.out _ hB6;have hz6:(W5.setCell ⟨wr.heap.size,1,none⟩ (.slice ah x0.has.length ch)).heap.size=W5.heap.size:=by simp
   clear j0 j1 j2 m0 m1 m2 kB5 kX5 hrow5 hF5 hG5 hB5;generalize W5.setCell ⟨wr.heap.size,1,none⟩ (.slice ah x0.has.length ch)=W6 at *;have hbt6:=kB6.2.2;have hx6:=kX6.2.2;obtain⟨⟨j0,j1,j2⟩,m0,m1,m2⟩:=kB6.c3;clear hz6;go_wp2_with fail;refine (GY x0.nd _ _ l4 (by omega)).mono ?_;rintro e W7 ⟨⟨nu,rfl,hon⟩,hb7⟩;obtain⟨an,cn,rfl⟩:=hon.lst.shape;have kB7:=kB6.up hb7 hbt6;have kX7:=kX6.up hb7 hx6;have hrow7:=P8 hrow6 hb7;have hF7:=hF6.new (hF6.up hb7) hon (A3 _) (by omega) (Ex hx6);have hG7:=hG6.new (hG6.up hb7) hon (A3 _) (by omega) (Ex hbt6);have hB7:=D1 hB6 hb7;clear j0 j1 j2 m0 m1 m2 kB6 kX6 hrow6 hF6 hG6 hB6 hb7 hon l4;obtain⟨⟨j0,j1,j2⟩,m0,m1,m2⟩:=kB7.c3;go_upto_region 7 with fail;have kB8:CB (W7.setCell ⟨wr.heap.size,2,none⟩ (.slice an x0.nd.length cn)) wr.heap.size [.string x0.nm,.slice ah x0.has.length ch,.slice an x0.nd.length cn]:=kB7.set (j:=2) (by simp);have kX8:=kX7.other (q:=wr.heap.size) (j:=2) (u:=.slice an x0.nd.length cn) hxb;have hrow8:=S9 hrow7 (E3 (rb:=wr.heap.size) (off:=2) (F7 W7 _) (.slice an x0.nd.length cn)) hrq;have hF8:=hF7.set2 hG7 2 (.slice an x0.nd.length cn);have hB8:Below w2.heap.size w2 (W7.setCell ⟨wr.heap.size,2,none⟩ (.slice an x0.nd.length cn)):=hB7.setCell (p:=⟨wr.heap.size,2,none⟩) (by show _<=wr.heap.size;omega) _;clear j0 j1 j2 m0 m1 m2 kB7 kX7 hrow7 hF7 hG7 hB7;generalize W7.setCell ⟨wr.heap.size,2,none⟩ (.slice an x0.nd.length cn)=W8 at *;obtain⟨⟨j0,j1,j2⟩,-⟩:=kB8.c3;obtain⟨⟨x0c,x1c⟩,-⟩:=kX8.c2;obtain⟨ax,cx,rfl⟩:=K3 hrow8;have hrowA:=World.ownsRow.alloc hrow8 (.cells #[.string x0.nm,.slice ah x0.has.length ch,.slice an x0.nd.length cn] 49);have hx8:=kX8.2.2;have hbA:Below W8.heap.size W8 (W8.alloc (.cells #[.string x0.nm,.slice ah x0.has.length ch,.slice an x0.nd.length cn] 49)):=(A4 _ _).alloc (A3 _) _;have kXA:=kX8.up hbA hx8;have hFA:=hF8.up hbA;have hzA:w2.heap.size+1<=(W8.alloc (.cells #[.string x0.nm,.slice ah x0.has.length ch,.slice an x0.nd.length cn] 49)).heap.size:=by simp;omega
   have hBA:Below w2.heap.size w2 (W8.alloc (.cells #[.string x0.nm,.slice ah x0.has.length ch,.slice an x0.nd.length cn] 49)):=D1 hB8 hbA;go_wp2_with (at_builtin;refine wpList_append_own _ rfl _ _ 24 rfl (w2.heap.size+1) 49 ii _ 3 64 Tryz.underlying24 hi iz0 iz1 iz2 rfl (by decide) _ _ _ rfl hrowA ⟨W8.heap.size,0,none⟩ 1 1 [.string x0.nm,.slice ah x0.has.length ch,.slice an x0.nd.length cn] rfl rfl (λj u hj=>Fd _ _ _ _ _ hj) (by simp[Value.oneCell']) (by unfold maxLen;omega) (by omega) hzA ?_)
   intro v9 W9 hown9 hgr9 _;have kX9:=kXA.kept hgr9 (R3 hrowA (by omega));have hF9:=hFA.row hrowA hgr9;have hB9:Below w2.heap.size w2 W9:=N5 hBA hrowA hgr9 (by omega);have hF9':=hF9.turn.perm (FY ps ((x0,.slice ah x0.has.length ch,.slice an x0.nd.length cn):Bv) [((.slice at1 b.tg.length ct1),b.tg)])
   have hrow9:W9.ownsRow (w2.heap.size+1) 49 3 v9 (ps++[((x0,.slice ah x0.has.length ch,.slice an x0.nd.length cn):Bv)]).length (I8 (ps++[((x0,.slice ah x0.has.length ch,.slice an x0.nd.length cn):Bv)])):=by
    rw[BN,A8];exact hown9
   have HM:Hid ((ps++[((x0,.slice ah x0.has.length ch,.slice an x0.nd.length cn):Bv)]).map (·.1)=b.bs.take (k+1)):=by
    show _=_
    rw[HX.out,List.map_append,Hps.out];rfl
   have HN:Hid (∀p∈ps++[((x0,.slice ah x0.has.length ch,.slice an x0.nd.length cn):Bv)],p.1.nm.size<=maxLen):=λp hp=>by
    rcases C6.1 hp with h|h
    ·exact Hnm.out p h
    ·obtain rfl:p=_:=by simpa using h
     exact Hz0.out
   obtain⟨a9,c9,rfl⟩:=K3 hown9;clear hown9 hgr9 hrowA kXA hFA hBA hbA hF8 hrow8 kX8 hB8 x0c x1c j0 j1 j2 hF9 kB8 hzA;obtain⟨⟨y0,y1⟩,g0,g1⟩:=kX9.c2;have kX10:CB (W9.setCell ⟨w2.heap.size,1,none⟩ (.slice a9 (ps.length+1) c9)) w2.heap.size [(.slice at1 b.tg.length ct1),.slice a9 (ps.length+1) c9]:=kX9.set (j:=1) (by simp);have hrow10:=G9 hrow9 (E3 (rb:=w2.heap.size) (off:=1) (F7 W9 _) (.slice a9 (ps.length+1) c9)) (Nat.lt_succ_self _);have hF10:=hF9'.set 1 (.slice a9 (ps.length+1) c9);have hB10:Below w2.heap.size w2 (W9.setCell ⟨w2.heap.size,1,none⟩ (.slice a9 (ps.length+1) c9)):=hB9.setCell (p:=⟨w2.heap.size,1,none⟩) (A3 _) _;clear kX9 hrow9 hF9' hB9;go_wp2_with fail;go_roundw
   case rel=>exact⟨k+1,_,_,by omega,by go_num,HM.out,kX10,hrow10,HN.out,hB10,hF10⟩
   case measure=>simp[intOf];omega
  ·obtain rfl:k=b.bs.length:=by omega
   have kR:=kR2.up hB kR2.2.2;obtain⟨⟨x0c,x1c⟩,-⟩:=kX.c2;obtain⟨⟨y0c,y1c⟩,yf0,yf1⟩:=kR.c2;have Hps2:Hid (ps.map (·.1)=b.bs):=by show _=_;rw[Hps.out,List.take_length]
   have hBB:=D1 hBw2 hB;obtain⟨ax,cx,rfl⟩:=K3 hrow;have Hlen:Hid (ps.length=b.bs.length):=Hpl.out;clear Hpl hpos;go_wp2_with fail;refine Av Tryz.results59 Tryz.underlying26 rfl L9 kR rfl ?_;have hrow2:=N3 (G9 (G9 hrow (E3 (rb:=w.heap.size+1) (off:=0) (F7 _ _) (.slice at1 b.tg.length ct1)) (by omega)) (E3 (rb:=w.heap.size+1) (off:=1) (F7 _ _) (.slice ax ps.length cx)) (by omega)) (show w.heap.size<=w2.heap.size+1 by omega);have hFam:=((hF.free.setLow hW1z 0 (.slice at1 b.tg.length ct1)).setLow hW1z 1 (.slice ax ps.length cx)).low hW1l;have hW:=hFam.bsW (fs:=[((.slice at1 b.tg.length ct1),b.tg)]) hrow2 Hnm.out;rw[Hlen.out] at hW hFam ⊢
   exact⟨⟨_,_,_,_,ps,rfl,hW,Hps2.out,hFam⟩,I7 hBB (Nat.le_succ _) _ _⟩
def Ey(a b:ByteArray):Bool:=Op.bytesLess a.toList b.toList
def Ju(a b:ByteArray):Bool:=a.toList==b.toList
def S4:List ByteArray->ByteArray->List ByteArray
 | [],x=>[x]
 | y::r,x=>if Ey y x=true then y::S4 r x else if Ju y x=true then y::r else x::y::r
def Ma(ss:List ByteArray)(x:ByteArray)(k:Nat):Prop:=∀(j:Nat)(s:ByteArray),j<k->ss[j]?=some s->Ey s x=true
theorem UQ{ss:List ByteArray}{x:ByteArray}{k:Nat}(h:Ma ss x k)(hk:k<ss.length)(hl:Ey (ss[k]) x=true):Ma ss x (k+1):=λj s hj hs=>by
 rcases Nat.lt_or_ge j k with h'|h'
 ·exact h j s h' hs
 ·obtain rfl:j=k:=by omega
  obtain⟨_,rfl⟩:=A2.1 hs;exact hl
theorem Ko:∀(ss:List ByteArray)(x:ByteArray)(k:Nat),Ma ss x k->k<=ss.length->(∀s,ss[k]?=some s->Ey s x=false/\Ju s x=false)->S4 ss x=ss.take k++x::ss.drop k
 | [],x,0,_,_,_=>rfl
 | [],x,k+1,_,h,_=>by simp at h
 | y::r,x,0,_,_,h=>by
  obtain⟨h1,h2⟩:=h y rfl;rw[S4,h1,h2];rfl
 | y::r,x,k+1,hl,hk,h=>by
  have h0:=hl 0 y (by omega) rfl;rw[S4,if_pos h0,Ko r x k (λj s hj hs=>hl (j+1) s (by omega) (by simpa using hs)) (by simpa using hk) (λs hs=>h s (by simpa using hs))];rfl
theorem Pj:∀(ss:List ByteArray)(x:ByteArray)(k:Nat),Ma ss x k->(∃s,ss[k]?=some s/\Ey s x=false/\Ju s x=true)->S4 ss x=ss
 | [],x,k,_,⟨s,hs,_⟩=>by simp at hs
 | y::r,x,0,_,⟨s,hs,h1,h2⟩=>by
  obtain rfl:y=s:=by simpa using hs
  rw[S4,h1,h2];rfl
 | y::r,x,k+1,hl,⟨s,hs,h1,h2⟩=>by
  have h0:=hl 0 y (by omega) rfl;rw[S4,if_pos h0,Pj r x k (λj s hj hs=>hl (j+1) s (by omega) (by simpa using hs)) ⟨s,by simpa using hs,h1,h2⟩]
theorem Xe(ss:List ByteArray)(x:ByteArray):(S4 ss x).length<=ss.length+1:=by
 induction ss with
 | nil=>simp[S4]
 | cons y r ih =>
  rw[S4];split
  ·simp;omega
  ·split<;>simp
def Ow(w W:World)(g:Nat)(ss:List ByteArray)(v:Value)(n:Nat)(xs:List Value):Prop:=W.ownsRow w.heap.size 9 1 v n xs/\L6 W g 0 ss/\Below w.heap.size w W
theorem Ow.grow{w W W':World}{g n n':Nat}{ss:List ByteArray}{v v':Value}{xs ys:List Value}(h:Ow w W g ss v n xs)(hg:g<w.heap.size)(hgr:W.grownBy W' v.ownBlock)(ho:W'.ownsRow w.heap.size 9 1 v' n' ys):Ow w W' g ss v' n' ys :=
 ⟨ho,h.2.1.own h.1 hgr hg,N5 h.2.2 h.1 hgr (A3 _)⟩
theorem Ow.alloc{w W:World}{g n:Nat}{ss:List ByteArray}{v:Value}{xs:List Value}(h:Ow w W g ss v n xs)(o:Obj):Ow w (W.alloc o) g ss v n xs :=
 ⟨h.1.alloc o,h.2.1.alloc o,h.2.2.alloc h.2.2.size o⟩
theorem Ow.drew{w W:World}{g n:Nat}{ss:List ByteArray}{v:Value}{xs:List Value}(h:Ow w W g ss v n xs):Ow w W.drew g ss v n xs:=⟨h.1,h.2.1,h.2.2.drew⟩
theorem GF{w W:World}{g:Nat}{ss:List ByteArray}(hS:L6 W g 0 ss)(hB:Below w.heap.size w W):Ow w (W.alloc (.cells #[] 9)) g ss (.slice (some ⟨W.heap.size,0,none⟩) 0 0) 0 [] :=
 ⟨C0 W #[] 0 hB.size (Nat.zero_le _) rfl,hS.alloc _,hB.alloc hB.size _⟩
theorem MX{W:World}{g o2 k c:Nat}{ss:List ByteArray}(h:L6 W g 0 ss)(ho:(if c=k then some (⟨g,0,none⟩:Addr) else some ⟨g,k,none⟩)=some ⟨g,o2,none⟩)(hc:ss.length<=c):L6 W g o2 (ss.drop k):=by
 by_cases h7:c=k
 ·intro i s hs;have:=(A2.1 hs).1;simp at this;omega
 ·rw[if_neg h7] at ho;obtain rfl:k=o2:=by simpa using ho
  have:=h.drop k;simpa using this
theorem SY(ss:List ByteArray)(v:Value)(s:ByteArray)(w:World)(h:Ls w v ss):
  Calls Tryz.prog 91 #[v,.string s] w λe w'=>e=.returned (.int .i64 (Z7 ss s))/\w'=w:=by
 obtain⟨a,c,rfl,hn,-,hpos⟩:=h;unfold maxLen at hn;go_enter Tryz.func91,Tryz.ntmps91;go_wp2;go_loop [8] (λi=>∃k:Nat,k<=ss.length/\i=.int .i64 k/\D2 (ss.take k) s=false) (λi=>ss.length-(intOf i).toNat)
 case atStart=>exact⟨0,by omega,rfl,rfl⟩
 case round =>
  obtain⟨k,hk,rfl,hal⟩:=hrel;have Hal:Hid (D2 (ss.take k) s=false):=hal;clear hal;by_cases hp:k<ss.length
  ·obtain⟨b,o,rfl,hS,hb⟩:=hpos (by omega);have c0:=hS.cell hp;cases hq:(s.toList==(ss[k]).toList)
   ·have Hq:Hid (((ss[k]).toList==s.toList)=false):=by show _=_;rw[GO];exact hq
    go_wp2;go_round
    case rel=>exact⟨k+1,by omega,by go_num,EH hp Hal.out Hq.out⟩
    case measure=>simp[intOf];omega
   ·have Hq:Hid (((ss[k]).toList==s.toList)=true):=by show _=_;rw[GO];exact hq
    go_wp2;go_ret;exact⟨Fl (EX hp Hal.out Hq.out).symm,rfl⟩
  ·go_wp2;go_ret;exact⟨Fl (BH (Fw hp Hal.out)).symm,rfl⟩
theorem EQ(ss:List ByteArray)(v:Value)(s:ByteArray)(w:World)(h:Ls w v ss):
  Calls Tryz.prog 71 #[v,.string s] w λe w'=>e=.returned (.bool (D2 ss s))/\w'=w:=by
 obtain⟨a,c,rfl,-⟩:=id h;go_enter Tryz.func71,Tryz.ntmps71;go_wp2_with (go_at_call 91;refine (SY ss _ _ _ h).mono ?_;rintro e w' ⟨rfl,hw⟩;obtain rfl:=hw.symm;clear hw)
 all_goals
  go_ret;refine⟨F6 ?_,rfl⟩;rw[← Ki];try simp_all
theorem DX{x:Int}(h0:0<=x)(h1:x<18446744073709551616):IntKind.u64.wrap x=x:=by
 rw[IntKind.wrap_u64];omega
theorem Zr{k:Nat}(_:k<=7):(2:Int) ^ k=((2 ^ k:Nat):Int):=by simp
theorem SZ{k:Nat}(h:k<=7):2 ^ k<=128:=Nat.pow_le_pow_right (n:=2) (by omega) h
theorem Xf{n k:Nat}(hn:n<256)(hk:k<=7):IntKind.u64.wrap ((n:Int)+IntKind.u64.wrap (2 ^ k))=((n+2 ^ k:Nat):Int):=by
 have h:=SZ hk;rw[Zr hk];generalize 2 ^ k=m at *;rw[DX (x:=(m:Int)) (by omega) (by omega),DX (by omega) (by omega)];omega
theorem Ta{l:List ByteArray}{P:ByteArray->Bool}{k:Nat}(hk:k<l.length):F0 (l.take (k+1)) P=F0 (l.take k) P+(if P l[k]=true then 2 ^ k else 0):=by
 rw[A7 hk,KC,B8,Nat.min_eq_left (by omega)]
theorem GZ(tg picked:List ByteArray)(u v:Value)(w:World)(h:Ls w u tg)(h2:Ls w v picked)(h8:tg.length<=8):
  Calls Tryz.prog 49 #[u,v] w λe w'=>e=.returned (.int .u64 (F0 tg (D2 picked):Nat))/\w'=w:=by
 obtain⟨a,c,rfl,-,-,hpos⟩:=h;obtain⟨a2,c2,rfl,-⟩:=id h2;go_enter Tryz.func49,Tryz.ntmps49;go_wp2;go_loop [5,6,7,10] (λx _ _ i=>∃k:Nat,k<=tg.length/\i=.int .i64 k/\x=.int .u64 (F0 (tg.take k) (D2 picked):Nat)) (λ_ _ _ i=>tg.length-(intOf i).toNat)
 case atStart=>exact⟨0,by omega,rfl,rfl⟩
 case round =>
  obtain⟨k,hk,rfl,rfl⟩:=hrel;by_cases hp:k<tg.length
  ·obtain⟨b,o,rfl,hS,hb⟩:=hpos (by omega);have c0:=hS.cell hp;have Hb:=Ta (P:=D2 picked) hp;have hsm:F0 (tg.take k) (D2 picked)<256:=S2 (by rw[B8];omega) _;cases hq:D2 picked tg[k]
   ·have HB:Hid (F0 (tg.take (k+1)) (D2 picked)=F0 (tg.take k) (D2 picked)):=by show _=_;rw[Hb,hq];simp
    clear Hb;go_wp2_with (go_at_call 71;refine (EQ picked _ _ _ h2).mono ?_;rintro e w' ⟨rfl,hw⟩;obtain rfl:=hw.symm;clear hw)
    go_round
    case rel=>exact⟨k+1,by omega,by go_num,by rw[HB.out]⟩
    case measure=>simp[intOf];omega
   ·have HB:Hid (F0 (tg.take (k+1)) (D2 picked)=F0 (tg.take k) (D2 picked)+2 ^ k):=by show _=_;rw[Hb,if_pos hq]
    clear Hb;go_wp2_with (go_at_call 71;refine (EQ picked _ _ _ h2).mono ?_;rintro e w' ⟨rfl,hw⟩;obtain rfl:=hw.symm;clear hw)
    go_round
    case rel =>
     refine⟨k+1,by omega,by go_num,?_⟩;rw[HB.out,Xf hsm (by omega)]
    case measure=>simp[intOf];omega
  ·have HB:Hid (F0 (tg.take k) (D2 picked)=F0 tg (D2 picked)):=by show _=_;rw[C8 (by omega)]
   go_wp2;go_ret;exact⟨congrArg (λn:Nat=>Ending.returned (.int .u64 (n:Int))) HB.out,rfl⟩
def AK(w:World)(tb:Nat)(tg:List ByteArray)(ts:List Tr):Prop :=
 ∃rv,CB w tb [rv,.int .u64 (F0 tg (P6 ts):Nat)]/\w.ownsRow (tb+1) 95 4 rv ts.length (Ai tg ts)
theorem AK.up{w w':World}{tb:Nat}{tg:List ByteArray}{ts:List Tr}(h:AK w tb tg ts)(hb:Below w.heap.size w w'):AK w' tb tg ts:=by
 obtain⟨rv,h1,h2⟩:=h;exact⟨rv,h1.up hb h1.2.2,P8 h2 hb⟩
theorem AK.drewN{w:World}{tb n:Nat}{tg:List ByteArray}{ts:List Tr}(h:AK w tb tg ts):AK (w.drewN n) tb tg ts:=h
theorem AK.lt{w:World}{tb:Nat}{tg:List ByteArray}{ts:List Tr}(h:AK w tb tg ts):tb<w.heap.size:=by
 obtain⟨rv,h1,-⟩:=h;exact h1.2.2
theorem DM{w:World}{base g cap:Nat}{tg:List ByteArray}{ts:List Tr}(h:w.ownsRow base 95 4 (.slice (some ⟨g,0,none⟩) ts.length cap) ts.length (Ai tg ts)){i:Nat}{p:Tr}(hp:ts[i]?=some p):
  w.cell? ⟨g,i*4,none⟩=some (.string p.1.nm)/\w.cell? ⟨g,i*4+1,none⟩=some (.int .u64 (F0 tg (D2 p.1.has):Nat))/\w.cell? ⟨g,i*4+2,none⟩=some (.int .u64 (F0 tg (D2 p.1.nd):Nat))/\w.cell? ⟨g,i*4+3,none⟩=some (.bool p.2):=by
 have hi:=(A2.1 hp).1;refine⟨?_,?_,?_,?_⟩
 ·rw[show i*4=i*4+0 by omega,h.cellAt (i*4+0) (by omega),EI tg ts i 0 p hp (by omega)];rfl
 ·rw[h.cellAt (i*4+1) (by omega),EI tg ts i 1 p hp (by omega)];rfl
 ·rw[h.cellAt (i*4+2) (by omega),EI tg ts i 2 p hp (by omega)];rfl
 ·rw[h.cellAt (i*4+3) (by omega),EI tg ts i 3 p hp (by omega)];rfl
theorem IV(a b:Nat)(ha:a<256)(hb:b<512):bits .andNot .u64 (a:Int) (b:Int)=((a &&& (18446744073709551615-b):Nat):Int):=by
 have:=u64_andNot (a:Int) (b:Int) (by omega) (by omega) (by omega) (by omega);simpa using this
theorem Rz(tb at':Nat)(tg:List ByteArray)(ts:List Tr)(p:Tr)(w:World)(h:AK w tb tg ts)(h8:tg.length<=8)(hp:ts[at']?=some p)(h5:ts.length<=5):
  Calls Tryz.prog 32 #[.pointer (some ⟨tb,0,none⟩),.int .i64 at'] w λe w'=>e=.returned (.bool (!p.2&&decide (F0 tg (D2 p.1.nd) &&& (18446744073709551615-(F0 tg (P6 ts)+F0 tg (D2 p.1.has)))=0)))/\Below w.heap.size w w':=by
 obtain⟨rv,hC,hown⟩:=h;have hi:=(A2.1 hp).1;obtain⟨g,cap,rfl⟩:=T7 hown (by omega);obtain⟨r0,r1,r2,r3⟩:=DM hown hp;obtain⟨t0,t1⟩:=hC.c2';have htl:=hC.2.2;have n1:=S2 h8 (D2 p.1.has);have n2:=S2 h8 (D2 p.1.nd);have n3:=S2 h8 (P6 ts);generalize F0 tg (D2 p.1.has)=hb at *;generalize F0 tg (D2 p.1.nd)=nb at *;generalize F0 tg (P6 ts)=fb at *;clear hown hC;obtain⟨W1,hW1,kX,hB1,hs1⟩:=cbE1 w [.string p.1.nm,.int .u64 (hb:Nat),.int .u64 (nb:Nat),.bool p.2] 95;go_enter Tryz.func32,Tryz.ntmps32;go_upto_region 2 with fail;try rw[hW1]
 clear hW1 r0 r1 r2 r3;have x1:=kX.1 1 _ rfl;have x2:=kX.1 2 _ rfl;have x3:=kX.1 3 _ rfl;have f1:=(hB1.cell (p:=⟨tb,1,none⟩) htl).trans t1;simp only[Nat.zero_add] at x1 x2 x3;have hadd:IntKind.u64.wrap ((fb:Int)+(hb:Int))=((fb+hb:Nat):Int):=by rw[DX (by omega) (by omega)];omega
 have hand:=IV nb (fb+hb) n2 (by omega);cases hgone:p.2
 ·rw[hgone] at x3;go_wp2_with fail;go_quiet (fail);go_wp2_with fail;go_ret;refine⟨F6 ?_,M3 hB1 _⟩;rw[hgone,← Int.natCast_add,hand];rw[Bool.eq_iff_iff,beq_iff_eq];simp
 ·rw[hgone] at x3;go_wp2_with fail;go_quiet (fail);go_wp2_with fail;go_ret;exact⟨F6 (by rw[hgone];rfl),M3 hB1 _⟩
theorem MY{w:World}{base base' e e' s s' n n':Nat}{v v':Value}{xs xs':List Value}(h:w.ownsRow base e s v n xs)(h':w.ownsRow base' e' s' v' n' xs')(hne:e≠e'):∀g,v.ownBlock=some g->some g≠v'.ownBlock:=λg hg hg'=>by
 rcases h.2 with⟨rfl,_⟩|⟨g1,cap,cur,rfl,_,hh,_⟩
 ·simp[Value.ownBlock] at hg
 ·rcases h'.2 with⟨rfl,_⟩|⟨g2,cap',cur',rfl,_,hh',_⟩
  ·simp[Value.ownBlock] at hg'
  ·simp[Value.ownBlock] at hg hg';subst hg hg';rw[hh] at hh';simp at hh';exact hne hh'.2
theorem Pk{w w':World}{base e s n:Nat}{v:Value}{xs:List Value}{r:Option Nat}(h:w.ownsRow base e s v n xs)(hg:w.grownBy w' r)(hne:∀g,v.ownBlock=some g->some g≠r):w'.ownsRow base e s v n xs:=by
 refine⟨h.1,?_⟩;rcases h.2 with h0|⟨g,cap,cur,hv,hb,hh,q⟩
 ·exact .inl h0
 ·refine .inr ⟨g,cap,cur,hv,hb,?_,q⟩;rw[hg.block g (C9.1 hh).1 (hne g (by rw[hv];rfl))];exact hh
theorem FZ(ss:List ByteArray)(v:Value)(s:ByteArray)(w:World)(h:Ls w v ss):
  Calls Tryz.prog 11 #[v,.string s] w λe w'=>e=.returned (.bool (D2 ss s))/\w'=w:=by
 obtain⟨a,c,rfl,hn,-,hpos⟩:=h;unfold maxLen at hn;go_enter Tryz.func11,Tryz.ntmps11;go_wp2;go_loop [5] (λi=>∃k:Nat,k<=ss.length/\i=.int .i64 k/\D2 (ss.take k) s=false) (λi=>ss.length-(intOf i).toNat)
 case atStart=>exact⟨0,by omega,rfl,rfl⟩
 case round =>
  obtain⟨k,hk,rfl,hal⟩:=hrel;have Hal:Hid (D2 (ss.take k) s=false):=hal;clear hal;by_cases hp:k<ss.length
  ·obtain⟨b,o,rfl,hS,hb⟩:=hpos (by omega);have c0:=hS.cell hp;cases hq:((ss[k]).toList==s.toList)
   ·have Hq:Hid (D2 (ss.take (k+1)) s=false):=EH hp Hal.out hq;go_wp2;go_round
    case rel=>exact⟨k+1,by omega,by go_num,Hq.out⟩
    case measure=>simp[intOf];omega
   ·have Hq:Hid (D2 ss s=true):=EW hp hq;go_wp2;go_ret;exact⟨F6 Hq.out.symm,rfl⟩
  ·have Hq:Hid (D2 ss s=false):=Fw hp Hal.out;go_wp2;go_ret;exact⟨F6 Hq.out.symm,rfl⟩
end Go.Proofs.YtmfjakieahkacaaGreatDoor
