/- Drawing for the share: a book that is spoilt: what lies where. -/
import Derived.Test.YtmonodehegcfhaaGreatDoorJ37
namespace Go.Proofs.YtmonodehegcfhaaGreatDoor
open Go.RowKit
theorem Mp:∀(ps:List Bv)(k:Nat)(p:Bv)(x:Ba),ps[k]?=some p->(E8 ps).set (k*3) (Tz x.nm)=E8 (ps.set k (x,p.2.1,p.2.2))
 | q::r,0,p,x,h=>by
  obtain rfl:q=p:=by simpa using h
  simp[E8,O3]
 | q::r,k+1,p,x,h=>by
  have:=Mp r k p x (by simpa using h);rw[show (k+1)*3=k*3+3 by omega];simp[E8,O3,this]
theorem NF:∀(ps:List Bv)(k:Nat)(p:Bv)(s:BA),ps[k]?=some p->N0 (ps.set k ((⟨s,p.1.has,p.1.nj⟩,p.2.1,p.2.2):Bv))=N0 ps
 | q::r,0,p,s,h=>by
  obtain rfl:q=p:=by simpa using h
  simp[N0]
 | q::r,k+1,p,s,h=>by
  have:=NF r k p s (by simpa using h);simp[N0,this]
theorem NG{ps:List Bv}{k:Nat}{p:Bv}(h:ps[k]?=some p):∃l r,ps=l++p::r/\∀x,ps.set k x=l++x::r:=by
 obtain⟨hk,rfl⟩:=A3.1 h;refine⟨ps.take k,ps.drop (k+1),?_,λx=>?_⟩
 ·rw[List.getElem_cons_drop,List.take_append_drop]
 ·rw[List.set_eq_take_append_cons_drop,if_pos hk]
theorem Jn(l r:List Bv)(p:Bv)(f:Value×List BA):(f::N0 (l++p::r)).Perm ((p.2.2,p.1.nj)::(p.2.1,p.1.has)::f::N0 (l++r)):=by
 rw[ID,ID];show ((f::N0 l)++(p.2.1,p.1.has)::((p.2.2,p.1.nj)::N0 r)).Perm _
 refine List.perm_middle.trans ?_;refine (List.Perm.cons _ (List.perm_middle (l₁:=f::N0 l))).trans ?_;exact List.Perm.swap _ _ _
structure SQ (w W:World) (rb len N q:Nat) (v tv xv:Value) (ts:List BA) (ps:List Bv):Prop where
 r:CB W (w.heap.size+1) [.slice none 0 0,.slice none 0 0]
 x:CB W q [tv,xv]
 rd:Rd W rb v len N
 g:w.grownBy W (some rb)
 row:W.ownsRow (w.heap.size+2) 115 3 xv ps.length (E8 ps)
 fam:L7 W (w.heap.size+2) (some q) ((tv,ts)::N0 ps)
 rq:∀k,xv.ownBlock=some k->some k≠some q
 qz:w.heap.size+2<=q
variable {w W X:World} {rb len N M q k gg n c:Nat} {v tv tv' xv xv' u':Value} {ts ts' ss':List BA} {ps:List Bv} {p:Bv}
theorem SQ.gr(h:SQ w W rb len N q v tv xv ts ps)(hrb:rb<w.heap.size)(hg:W.grownBy X (some rb))(hr:Rd X rb v len M):SQ w X rb len M q v tv xv ts ps :=
 have:=h.qz;⟨h.r.kept hg (by simp;omega),h.x.kept hg (by simp;omega),hr,E0 h.g hg,F2 h.row hg (by omega),h.fam.gr hg (by omega),h.rq,h.qz⟩
theorem SQ.up(h:SQ w W rb len N q v tv xv ts ps)(hb:Up W X):SQ w X rb len N q v tv xv ts ps :=
 ⟨h.r.up hb h.r.2.2,h.x.up hb h.x.2.2,h.rd.kept hb,E0 h.g (L2 hb),E4 h.row hb,h.fam.up hb,h.rq,h.qz⟩
theorem SQ.alloc(h:SQ w W rb len N q v tv xv ts ps)(o:Obj):SQ w (W.alloc o) rb len N q v tv xv ts ps:=h.up ((A5 _ _).alloc (A4 _) _)
theorem SQ.drew(h:SQ w W rb len N q v tv xv ts ps):SQ w W.drew rb len N q v tv xv ts ps:=h.up (A5 _ _).drew
theorem SQ.mono(h:SQ w W rb len N q v tv xv ts ps)(hM:N<=M):SQ w W rb len M q v tv xv ts ps:=⟨h.r,h.x,h.rd.mono hM,h.g,h.row,h.fam,h.rq,h.qz⟩
theorem SQ.z(h:SQ w W rb len N q v tv xv ts ps):w.heap.size+2<=W.heap.size:=h.r.2.2
theorem SQ.head(h:SQ w W rb len N q v tv xv ts ps):F7 W (w.heap.size+2) tv ts:=h.fam.own (tv,ts) (by simp)
theorem SQ.tg(h:SQ w W rb len N q v tv xv ts ps)(hrb:rb<w.heap.size)(hg:W.grownBy X tv.ownBlock)(hu:F7 X (w.heap.size+2) tv' ts')(hw:P0 W tv tv'):SQ w (X.setCell ⟨q,0,none⟩ tv') rb len N q v tv' xv ts' ps :=
 have ho:=h.head;have hq:=h.qz;⟨(h.r.kept hg (Aj ho (by omega))).other (by omega),(h.x.kept hg λe=>h.fam.av (tv,ts) (by simp) q e.symm rfl).set (j:=0) (by simp),(h.rd.own ho hg (by omega)).setCell (by omega),D9 (U7 h.g ho hg (by omega)) (by omega) _,
 E5 (E5 h.row hg (E9 h.row ho (by decide))) (E1 (E2 _ _) _) h.rq,(L7.app h.fam hg hu hw (Ef h.x.2.2)).set 0 tv',h.rq,h.qz⟩
theorem SQ.store(h:SQ w W rb len N q v tv xv ts ps)(hrb:rb<w.heap.size)(hxv:xv=Sz gg ps.length c)(j:Nat)(u:Value){ps':List Bv}(hl:ps'.length=ps.length)(hrow:(E8 ps).set j u=E8 ps')(hf:N0 ps'=N0 ps):SQ w (W.setCell ⟨gg,j,none⟩ u) rb len N q v tv xv ts ps':=by
 subst hxv;have a1:=h.row.lt gg rfl;have st:=B4 h.row j u;have hg:W.grownBy (W.setCell ⟨gg,j,none⟩ u) (Vz (some ⟨gg,0,none⟩) ps.length c).ownBlock:=st.2;have a0:=h.rq gg rfl;have hq:=h.qz;refine⟨h.r.kept hg (Aj h.row (by omega)),h.x.kept hg λe=>a0 e.symm,h.rd.own h.row hg (by omega),U7 h.g h.row hg (by omega),?_,?_,h.rq,h.qz⟩
 ·rw[hl,← hrow];exact st.1
 ·rw[hf];exact h.fam.row h.row hg
theorem SQ.list(h:SQ w W rb len N q v tv xv ts ps)(hrb:rb<w.heap.size){u:Value}{ss:List BA}(hu:F7 W (w.heap.size+2) u ss)(hq:some q≠u.ownBlock)(hg:W.grownBy X u.ownBlock):CB X (w.heap.size+1) [Nz,Nz]/\CB X q [tv,xv]/\Rd X rb v len N/\w.grownBy X (some rb)/\X.ownsRow (w.heap.size+2) 115 3 xv ps.length (E8 ps) :=
 ⟨h.r.kept hg (Aj hu (by omega)),h.x.kept hg hq,h.rd.own hu hg (by omega),U7 h.g hu hg (by omega),E5 h.row hg (E9 h.row hu (by decide))⟩
theorem SQ.nj(h:SQ w W rb len N q v tv xv ts ps)(hrb:rb<w.heap.size)(hp:ps[k]?=some p)(hxv:xv=Sz gg ps.length c)(hg:W.grownBy X p.2.2.ownBlock)(hu:F7 X (w.heap.size+2) u' ss')(hw:P0 W p.2.2 u'):
  SQ w (X.setCell ⟨gg,k*3+2,none⟩ u') rb len N q v tv xv ts (ps.set k ((⟨p.1.nm,p.1.has,ss'⟩,p.2.1,u'):Bv)):=by
 obtain⟨l,r,a3,a1⟩:=NG hp;have hm:p∈ps:=A7 hp;have a2:(p.2.2,p.1.nj)∈(tv,ts)::N0 ps:=C7 _ (CQ hm).2;have a4:=h.fam.own _ a2;obtain⟨e1,e2,e3,e4,e5⟩:=h.list hrb a4 (λe=>h.fam.av _ a2 q e.symm rfl) hg
 have hF:L7 W (w.heap.size+2) (some q) ((p.2.2,p.1.nj)::(p.2.1,p.1.has)::(tv,ts)::N0 (l++r)):=by
  have:=h.fam;rw[a3] at this;exact this.perm (Jn l r p (tv,ts))
 have a5:=L7.app hF hg hu hw (Ef h.x.2.2);subst hxv;have a6:=h.row.lt gg rfl;have a7:=h.qz;have st:=B4 e5 (k*3+2) u';have a0:X.grownBy (X.setCell ⟨gg,k*3+2,none⟩ u') (Vz (some ⟨gg,0,none⟩) ps.length c).ownBlock:=st.2;refine⟨e1.kept a0 (Aj e5 (by omega)),e2.kept a0 λe=>h.rq gg rfl e.symm,e3.own e5 a0 (by omega),U7 e4 e5 a0 (by omega),?_,?_,h.rq,h.qz⟩
 ·rw[List.length_set,← Ja ps k p u' ⟨p.1.nm,p.1.has,ss'⟩ hp rfl];exact st.1
 ·rw[a1];exact (a5.row e5 a0).perm (Jn l r ((⟨p.1.nm,p.1.has,ss'⟩,p.2.1,u'):Bv) (tv,ts)).symm
theorem SQ.has(h:SQ w W rb len N q v tv xv ts ps)(hrb:rb<w.heap.size)(hp:ps[k]?=some p)(hxv:xv=Sz gg ps.length c)(hg:W.grownBy X p.2.1.ownBlock)(hu:F7 X (w.heap.size+2) u' ss')(hw:P0 W p.2.1 u'):
  SQ w (X.setCell ⟨gg,k*3+1,none⟩ u') rb len N q v tv xv ts (ps.set k ((⟨p.1.nm,ss',p.1.nj⟩,u',p.2.2):Bv)):=by
 obtain⟨l,r,a3,a1⟩:=NG hp;have hm:p∈ps:=A7 hp;have a2:(p.2.1,p.1.has)∈(tv,ts)::N0 ps:=C7 _ (CQ hm).1;have a4:=h.fam.own _ a2;obtain⟨e1,e2,e3,e4,e5⟩:=h.list hrb a4 (λe=>h.fam.av _ a2 q e.symm rfl) hg
 have hF:L7 W (w.heap.size+2) (some q) ((p.2.1,p.1.has)::(p.2.2,p.1.nj)::(tv,ts)::N0 (l++r)):=by
  have:=h.fam;rw[a3] at this;exact (this.perm (Jn l r p (tv,ts))).swap
 have a5:=(L7.app hF hg hu hw (Ef h.x.2.2)).swap;subst hxv;have a6:=h.row.lt gg rfl;have a7:=h.qz;have st:=B4 e5 (k*3+1) u';have a0:X.grownBy (X.setCell ⟨gg,k*3+1,none⟩ u') (Vz (some ⟨gg,0,none⟩) ps.length c).ownBlock:=st.2;refine⟨e1.kept a0 (Aj e5 (by omega)),e2.kept a0 λe=>h.rq gg rfl e.symm,e3.own e5 a0 (by omega),U7 e4 e5 a0 (by omega),?_,?_,h.rq,h.qz⟩
 ·rw[List.length_set,← FF ps k p u' ⟨p.1.nm,ss',p.1.nj⟩ hp rfl];exact st.1
 ·rw[a1];exact (a5.row e5 a0).perm (Jn l r ((⟨p.1.nm,ss',p.1.nj⟩,u',p.2.2):Bv) (tv,ts)).symm
theorem SQ.grow(h:SQ w W rb len N q v tv xv ts ps)(hrb:rb<w.heap.size)(hg:W.grownBy X xv.ownBlock)(hw:P0 W xv xv'){xs:List Value}(hrow:X.ownsRow (w.heap.size+2) 115 3 xv' n xs):
  CB (X.setCell ⟨q,1,none⟩ xv') (w.heap.size+1) [Nz,Nz]/\CB (X.setCell ⟨q,1,none⟩ xv') q [tv,xv']/\Rd (X.setCell ⟨q,1,none⟩ xv') rb v len N/\w.grownBy (X.setCell ⟨q,1,none⟩ xv') (some rb)/\
  (X.setCell ⟨q,1,none⟩ xv').ownsRow (w.heap.size+2) 115 3 xv' n xs/\L7 (X.setCell ⟨q,1,none⟩ xv') (w.heap.size+2) (some q) ((tv,ts)::N0 ps)/\(∀k,xv'.ownBlock=some k->some k≠some q):=by
 have hq:=h.qz;have a2:=h.x.2.2;have a1:some q≠xv.ownBlock:=λe=>h.rq q e.symm rfl
 have a0:∀k,xv'.ownBlock=some k->some k≠some q:=λk hk e=>by
  rcases hw k hk with h1|h1
  ·exact h.rq k h1 e
  ·have:k=q:=by simpa using e
   omega
 exact⟨(h.r.kept hg (Aj h.row (by omega))).other (by omega),(h.x.kept hg a1).set (j:=1) (by simp),(h.rd.own h.row hg (by omega)).setCell (by omega),D9 (U7 h.g h.row hg (by omega)) (by omega) _,
  E5 hrow (E1 (E2 _ _) _) a0,(h.fam.row h.row hg).set 1 xv',a0⟩
theorem SQ.push(h:SQ w W rb len N q v tv xv ts ps)(hrb:rb<w.heap.size){s:BA}(hg:W.grownBy X xv.ownBlock)(hw:P0 W xv xv')(hrow:X.ownsRow (w.heap.size+2) 115 3 xv' (ps.length+1) (E8 ps++[Tz s,Nz,Nz])):
  SQ w (X.setCell ⟨q,1,none⟩ xv') rb len N q v tv xv' ts (ps++[((⟨s,[],[]⟩,Nz,Nz):Bv)]):=by
 obtain⟨e1,e2,e3,e4,e5,e6,e7⟩:=h.grow hrb hg hw hrow;refine⟨e1,e2,e3,e4,?_,?_,e7,h.qz⟩
 ·rw[Dh,B0];exact e5
 ·have hF:=(e6.nil_new.nil_new).perm ((List.perm_append_comm (l₁:=[((Nz,[]):Value×List BA),(Nz,[])]) (l₂:=[(tv,ts)])).append_right (N0 ps));exact hF.perm (JP ps ((⟨s,[],[]⟩,Nz,Nz):Bv) [(tv,ts)])
structure XF (w W:World) (rb len N q:Nat) (v tv xv:Value) (b:Bk):Prop where
 r:CB W (w.heap.size+1) [.slice none 0 0,.slice none 0 0]
 x:CB W q [tv,xv]
 rd:Rd W rb v len N
 g:w.grownBy W (some rb)
 bk:L6 W (w.heap.size+2) (.agg #[tv,xv]) b
 z:Y0 b/\Md b
theorem SQ.fin(h:SQ w W rb len N q v tv xv ts ps)(hn:∀p∈ps,p.1.nm.size<=maxLen)(hz:Y0 ⟨ts,ps.map (·.1)⟩/\Md ⟨ts,ps.map (·.1)⟩):XF w W rb len N q v tv xv ⟨ts,ps.map (·.1)⟩ :=
 ⟨h.r,h.x,h.rd,h.g,⟨tv,xv,ps,rfl,h.head,h.fam.bsW (fs:=[(tv,ts)]) h.row hn,rfl⟩,hz⟩
theorem SQ.twice(h:SQ w W rb len N q v tv xv ts ps)(hrb:rb<w.heap.size)(hp:ps[k]?=some p)(hg:W.grownBy X xv.ownBlock)(hw:P0 W xv xv')(hrow:X.ownsRow (w.heap.size+2) 115 3 xv' (ps.length+1) (E8 ps++O3 p))
  (hn:∀p∈ps,p.1.nm.size<=maxLen) (hz:Y0 ⟨ts,(ps++[p]).map (·.1)⟩/\Md ⟨ts,(ps++[p]).map (·.1)⟩):XF w (X.setCell ⟨q,1,none⟩ xv') rb len N q v tv xv' ⟨ts,(ps++[p]).map (·.1)⟩:=by
 obtain⟨e1,e2,e3,e4,e5,e6,e7⟩:=h.grow hrb hg hw hrow;refine⟨e1,e2,e3,e4,⟨tv,xv',ps++[p],rfl,e6.own (tv,ts) (by simp),⟨by rw[Dh,B0];exact e5,λy hy=>?_⟩,rfl⟩,hz⟩
 have a0:y∈ps:=by
  rcases D0.1 hy with h1|h1
  ·exact h1
  ·obtain rfl:y=p:=by simpa using h1
   exact A7 hp
 exact⟨e6.own _ (C7 _ (CQ a0).1),e6.own _ (C7 _ (CQ a0).2),hn y a0⟩
end Go.Proofs.YtmonodehegcfhaaGreatDoor
