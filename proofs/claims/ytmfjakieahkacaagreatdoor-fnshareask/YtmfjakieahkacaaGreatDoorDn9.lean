/- Drawing for the share: a book that is spoilt: what lies where. -/
import Derived.Test.YtmfjakieahkacaaGreatDoorJ24
namespace Go.Proofs.YtmfjakieahkacaaGreatDoor
open Go.RowKit
theorem Ld:∀(ps:List Bv)(k:Nat)(p:Bv)(x:Ba),ps[k]?=some p->(I8 ps).set (k*3) (.string x.nm)=I8 (ps.set k (x,p.2.1,p.2.2))
 | q::r,0,p,x,h=>by
  obtain rfl:q=p:=by simpa using h
  simp[I8,Ch]
 | q::r,k+1,p,x,h=>by
  have:=Ld r k p x (by simpa using h);rw[show (k+1)*3=k*3+3 by omega];simp[I8,Ch,this]
theorem Nq:∀(ps:List Bv)(k:Nat)(p:Bv)(s:ByteArray),ps[k]?=some p->N4 (ps.set k ((⟨s,p.1.has,p.1.nd⟩,p.2.1,p.2.2):Bv))=N4 ps
 | q::r,0,p,s,h=>by
  obtain rfl:q=p:=by simpa using h
  simp[N4]
 | q::r,k+1,p,s,h=>by
  have:=Nq r k p s (by simpa using h);simp[N4,this]
theorem Nr{ps:List Bv}{k:Nat}{p:Bv}(h:ps[k]?=some p):∃l r,ps=l++p::r/\∀x,ps.set k x=l++x::r:=by
 obtain⟨hk,rfl⟩:=A2.1 h;refine⟨ps.take k,ps.drop (k+1),?_,λx=>?_⟩
 ·rw[List.getElem_cons_drop,List.take_append_drop]
 ·rw[List.set_eq_take_append_cons_drop,if_pos hk]
theorem Hr(l r:List Bv)(p:Bv)(f:Value×List ByteArray):(f::N4 (l++p::r)).Perm ((p.2.2,p.1.nd)::(p.2.1,p.1.has)::f::N4 (l++r)):=by
 rw[GX,GX];show ((f::N4 l)++(p.2.1,p.1.has)::((p.2.2,p.1.nd)::N4 r)).Perm _
 refine List.perm_middle.trans ?_;refine (List.Perm.cons _ (List.perm_middle (l₁:=f::N4 l))).trans ?_;exact List.Perm.swap _ _ _
structure SQ (w W:World) (rb len N q:Nat) (v tv xv:Value) (ts:List ByteArray) (ps:List Bv):Prop where
 r:CB W (w.heap.size+1) [.slice none 0 0,.slice none 0 0]
 x:CB W q [tv,xv]
 rd:Rd W rb v len N
 g:w.grownBy W (some rb)
 row:W.ownsRow (w.heap.size+2) 49 3 xv ps.length (I8 ps)
 fam:M1 W (w.heap.size+2) (some q) ((tv,ts)::N4 ps)
 rq:∀k,xv.ownBlock=some k->some k≠some q
 qz:w.heap.size+2<=q
variable {w W X:World} {rb len N M q k gg n c:Nat} {v tv tv' xv xv' u':Value} {ts ts' ss':List ByteArray} {ps:List Bv} {p:Bv}
theorem SQ.gr(h:SQ w W rb len N q v tv xv ts ps)(hrb:rb<w.heap.size)(hg:W.grownBy X (some rb))(hr:Rd X rb v len M):SQ w X rb len M q v tv xv ts ps :=
 have:=h.qz;⟨h.r.kept hg (by simp;omega),h.x.kept hg (by simp;omega),hr,L0 h.g hg,G9 h.row hg (by omega),h.fam.gr hg (by omega),h.rq,h.qz⟩
theorem SQ.up(h:SQ w W rb len N q v tv xv ts ps)(hb:Below W.heap.size W X):SQ w X rb len N q v tv xv ts ps :=
 ⟨h.r.up hb h.r.2.2,h.x.up hb h.x.2.2,h.rd.kept hb,L0 h.g (O2 hb),P8 h.row hb,h.fam.up hb,h.rq,h.qz⟩
theorem SQ.alloc(h:SQ w W rb len N q v tv xv ts ps)(o:Obj):SQ w (W.alloc o) rb len N q v tv xv ts ps:=h.up ((A4 _ _).alloc (A3 _) _)
theorem SQ.drew(h:SQ w W rb len N q v tv xv ts ps):SQ w W.drew rb len N q v tv xv ts ps:=h.up (A4 _ _).drew
theorem SQ.mono(h:SQ w W rb len N q v tv xv ts ps)(hM:N<=M):SQ w W rb len M q v tv xv ts ps:=⟨h.r,h.x,h.rd.mono hM,h.g,h.row,h.fam,h.rq,h.qz⟩
theorem SQ.z(h:SQ w W rb len N q v tv xv ts ps):w.heap.size+2<=W.heap.size:=h.r.2.2
theorem SQ.head(h:SQ w W rb len N q v tv xv ts ps):E5 W (w.heap.size+2) tv ts:=h.fam.own (tv,ts) (by simp)
theorem SQ.tg(h:SQ w W rb len N q v tv xv ts ps)(hrb:rb<w.heap.size)(hg:W.grownBy X tv.ownBlock)(hu:E5 X (w.heap.size+2) tv' ts')(hw:DW W tv tv'):SQ w (X.setCell ⟨q,0,none⟩ tv') rb len N q v tv' xv ts' ps :=
 have ho:=h.head;have hq:=h.qz;⟨(h.r.kept hg (R3 ho (by omega))).other (by omega),(h.x.kept hg λe=>h.fam.av (tv,ts) (by simp) q e.symm rfl).set (j:=0) (by simp),(h.rd.own ho hg (by omega)).setCell (by omega),K8 (AN h.g ho hg (by omega)) (by omega) _,
 S9 (S9 h.row hg (Be h.row ho (by decide))) (E3 (F7 _ _) _) h.rq,(M1.app h.fam hg hu hw (Ex h.x.2.2)).set 0 tv',h.rq,h.qz⟩
theorem SQ.store(h:SQ w W rb len N q v tv xv ts ps)(hrb:rb<w.heap.size)(hxv:xv=.slice (some ⟨gg,0,none⟩) ps.length c)(j:Nat)(u:Value){ps':List Bv}(hl:ps'.length=ps.length)(hrow:(I8 ps).set j u=I8 ps')(hf:N4 ps'=N4 ps):SQ w (W.setCell ⟨gg,j,none⟩ u) rb len N q v tv xv ts ps':=by
 subst hxv;have hrz:=h.row.lt gg rfl;have st:=B4 h.row j u;have hg:W.grownBy (W.setCell ⟨gg,j,none⟩ u) (Value.slice (some ⟨gg,0,none⟩) ps.length c).ownBlock:=st.2;have hqg:=h.rq gg rfl;have hq:=h.qz;refine⟨h.r.kept hg (R3 h.row (by omega)),h.x.kept hg λe=>hqg e.symm,h.rd.own h.row hg (by omega),AN h.g h.row hg (by omega),?_,?_,h.rq,h.qz⟩
 ·rw[hl,← hrow];exact st.1
 ·rw[hf];exact h.fam.row h.row hg
theorem SQ.list(h:SQ w W rb len N q v tv xv ts ps)(hrb:rb<w.heap.size){u:Value}{ss:List ByteArray}(hu:E5 W (w.heap.size+2) u ss)(hq:some q≠u.ownBlock)(hg:W.grownBy X u.ownBlock):CB X (w.heap.size+1) [.slice none 0 0,.slice none 0 0]/\CB X q [tv,xv]/\Rd X rb v len N/\w.grownBy X (some rb)/\X.ownsRow (w.heap.size+2) 49 3 xv ps.length (I8 ps) :=
 ⟨h.r.kept hg (R3 hu (by omega)),h.x.kept hg hq,h.rd.own hu hg (by omega),AN h.g hu hg (by omega),S9 h.row hg (Be h.row hu (by decide))⟩
theorem SQ.nd(h:SQ w W rb len N q v tv xv ts ps)(hrb:rb<w.heap.size)(hp:ps[k]?=some p)(hxv:xv=.slice (some ⟨gg,0,none⟩) ps.length c)(hg:W.grownBy X p.2.2.ownBlock)(hu:E5 X (w.heap.size+2) u' ss')(hw:DW W p.2.2 u'):
  SQ w (X.setCell ⟨gg,k*3+2,none⟩ u') rb len N q v tv xv ts (ps.set k ((⟨p.1.nm,p.1.has,ss'⟩,p.2.1,u'):Bv)):=by
 obtain⟨l,r,hps,hset⟩:=Nr hp;have hm:p∈ps:=A6 hp;have hfm:(p.2.2,p.1.nd)∈(tv,ts)::N4 ps:=C5 _ (CZ hm).2;have hun:=h.fam.own _ hfm;obtain⟨e1,e2,e3,e4,e5⟩:=h.list hrb hun (λe=>h.fam.av _ hfm q e.symm rfl) hg
 have hF:M1 W (w.heap.size+2) (some q) ((p.2.2,p.1.nd)::(p.2.1,p.1.has)::(tv,ts)::N4 (l++r)):=by
  have:=h.fam;rw[hps] at this;exact this.perm (Hr l r p (tv,ts))
 have hF2:=M1.app hF hg hu hw (Ex h.x.2.2);subst hxv;have hrz:=h.row.lt gg rfl;have hqz:=h.qz;have st:=B4 e5 (k*3+2) u';have hg2:X.grownBy (X.setCell ⟨gg,k*3+2,none⟩ u') (Value.slice (some ⟨gg,0,none⟩) ps.length c).ownBlock:=st.2;refine⟨e1.kept hg2 (R3 e5 (by omega)),e2.kept hg2 λe=>h.rq gg rfl e.symm,e3.own e5 hg2 (by omega),AN e4 e5 hg2 (by omega),?_,?_,h.rq,h.qz⟩
 ·rw[List.length_set,← Hg ps k p u' ⟨p.1.nm,p.1.has,ss'⟩ hp rfl];exact st.1
 ·rw[hset];exact (hF2.row e5 hg2).perm (Hr l r ((⟨p.1.nm,p.1.has,ss'⟩,p.2.1,u'):Bv) (tv,ts)).symm
theorem SQ.has(h:SQ w W rb len N q v tv xv ts ps)(hrb:rb<w.heap.size)(hp:ps[k]?=some p)(hxv:xv=.slice (some ⟨gg,0,none⟩) ps.length c)(hg:W.grownBy X p.2.1.ownBlock)(hu:E5 X (w.heap.size+2) u' ss')(hw:DW W p.2.1 u'):
  SQ w (X.setCell ⟨gg,k*3+1,none⟩ u') rb len N q v tv xv ts (ps.set k ((⟨p.1.nm,ss',p.1.nd⟩,u',p.2.2):Bv)):=by
 obtain⟨l,r,hps,hset⟩:=Nr hp;have hm:p∈ps:=A6 hp;have hfm:(p.2.1,p.1.has)∈(tv,ts)::N4 ps:=C5 _ (CZ hm).1;have hun:=h.fam.own _ hfm;obtain⟨e1,e2,e3,e4,e5⟩:=h.list hrb hun (λe=>h.fam.av _ hfm q e.symm rfl) hg
 have hF:M1 W (w.heap.size+2) (some q) ((p.2.1,p.1.has)::(p.2.2,p.1.nd)::(tv,ts)::N4 (l++r)):=by
  have:=h.fam;rw[hps] at this;exact (this.perm (Hr l r p (tv,ts))).swap
 have hF2:=(M1.app hF hg hu hw (Ex h.x.2.2)).swap;subst hxv;have hrz:=h.row.lt gg rfl;have hqz:=h.qz;have st:=B4 e5 (k*3+1) u';have hg2:X.grownBy (X.setCell ⟨gg,k*3+1,none⟩ u') (Value.slice (some ⟨gg,0,none⟩) ps.length c).ownBlock:=st.2;refine⟨e1.kept hg2 (R3 e5 (by omega)),e2.kept hg2 λe=>h.rq gg rfl e.symm,e3.own e5 hg2 (by omega),AN e4 e5 hg2 (by omega),?_,?_,h.rq,h.qz⟩
 ·rw[List.length_set,← Fh ps k p u' ⟨p.1.nm,ss',p.1.nd⟩ hp rfl];exact st.1
 ·rw[hset];exact (hF2.row e5 hg2).perm (Hr l r ((⟨p.1.nm,ss',p.1.nd⟩,u',p.2.2):Bv) (tv,ts)).symm
theorem SQ.grow(h:SQ w W rb len N q v tv xv ts ps)(hrb:rb<w.heap.size)(hg:W.grownBy X xv.ownBlock)(hw:DW W xv xv'){xs:List Value}(hrow:X.ownsRow (w.heap.size+2) 49 3 xv' n xs):
  CB (X.setCell ⟨q,1,none⟩ xv') (w.heap.size+1) [.slice none 0 0,.slice none 0 0]/\CB (X.setCell ⟨q,1,none⟩ xv') q [tv,xv']/\Rd (X.setCell ⟨q,1,none⟩ xv') rb v len N/\w.grownBy (X.setCell ⟨q,1,none⟩ xv') (some rb)/\
  (X.setCell ⟨q,1,none⟩ xv').ownsRow (w.heap.size+2) 49 3 xv' n xs/\M1 (X.setCell ⟨q,1,none⟩ xv') (w.heap.size+2) (some q) ((tv,ts)::N4 ps)/\(∀k,xv'.ownBlock=some k->some k≠some q):=by
 have hq:=h.qz;have hxl:=h.x.2.2;have hne:some q≠xv.ownBlock:=λe=>h.rq q e.symm rfl
 have hrq:∀k,xv'.ownBlock=some k->some k≠some q:=λk hk e=>by
  rcases hw k hk with h1|h1
  ·exact h.rq k h1 e
  ·have:k=q:=by simpa using e
   omega
 exact⟨(h.r.kept hg (R3 h.row (by omega))).other (by omega),(h.x.kept hg hne).set (j:=1) (by simp),(h.rd.own h.row hg (by omega)).setCell (by omega),K8 (AN h.g h.row hg (by omega)) (by omega) _,
  S9 hrow (E3 (F7 _ _) _) hrq,(h.fam.row h.row hg).set 1 xv',hrq⟩
theorem SQ.push(h:SQ w W rb len N q v tv xv ts ps)(hrb:rb<w.heap.size){s:ByteArray}(hg:W.grownBy X xv.ownBlock)(hw:DW W xv xv')(hrow:X.ownsRow (w.heap.size+2) 49 3 xv' (ps.length+1) (I8 ps++[.string s,.slice none 0 0,.slice none 0 0])):
  SQ w (X.setCell ⟨q,1,none⟩ xv') rb len N q v tv xv' ts (ps++[((⟨s,[],[]⟩,.slice none 0 0,.slice none 0 0):Bv)]):=by
 obtain⟨e1,e2,e3,e4,e5,e6,e7⟩:=h.grow hrb hg hw hrow;refine⟨e1,e2,e3,e4,?_,?_,e7,h.qz⟩
 ·rw[BN,A8];exact e5
 ·have hF:=(e6.nil_new.nil_new).perm ((List.perm_append_comm (l₁:=[((.slice none 0 0,[]):Value×List ByteArray),(.slice none 0 0,[])]) (l₂:=[(tv,ts)])).append_right (N4 ps));exact hF.perm (FY ps ((⟨s,[],[]⟩,.slice none 0 0,.slice none 0 0):Bv) [(tv,ts)])
structure XF (w W:World) (rb len N q:Nat) (v tv xv:Value) (b:Bk):Prop where
 r:CB W (w.heap.size+1) [.slice none 0 0,.slice none 0 0]
 x:CB W q [tv,xv]
 rd:Rd W rb v len N
 g:w.grownBy W (some rb)
 bk:O5 W (w.heap.size+2) (.agg #[tv,xv]) b
 z:Bh b/\ED b
theorem SQ.fin(h:SQ w W rb len N q v tv xv ts ps)(hn:∀p∈ps,p.1.nm.size<=maxLen)(hz:Bh ⟨ts,ps.map (·.1)⟩/\ED ⟨ts,ps.map (·.1)⟩):XF w W rb len N q v tv xv ⟨ts,ps.map (·.1)⟩ :=
 ⟨h.r,h.x,h.rd,h.g,⟨tv,xv,ps,rfl,h.head,h.fam.bsW (fs:=[(tv,ts)]) h.row hn,rfl⟩,hz⟩
theorem SQ.twice(h:SQ w W rb len N q v tv xv ts ps)(hrb:rb<w.heap.size)(hp:ps[k]?=some p)(hg:W.grownBy X xv.ownBlock)(hw:DW W xv xv')(hrow:X.ownsRow (w.heap.size+2) 49 3 xv' (ps.length+1) (I8 ps++Ch p))
  (hn:∀p∈ps,p.1.nm.size<=maxLen) (hz:Bh ⟨ts,(ps++[p]).map (·.1)⟩/\ED ⟨ts,(ps++[p]).map (·.1)⟩):XF w (X.setCell ⟨q,1,none⟩ xv') rb len N q v tv xv' ⟨ts,(ps++[p]).map (·.1)⟩:=by
 obtain⟨e1,e2,e3,e4,e5,e6,e7⟩:=h.grow hrb hg hw hrow;refine⟨e1,e2,e3,e4,⟨tv,xv',ps++[p],rfl,e6.own (tv,ts) (by simp),⟨by rw[BN,A8];exact e5,λy hy=>?_⟩,rfl⟩,hz⟩
 have hy':y∈ps:=by
  rcases C6.1 hy with h1|h1
  ·exact h1
  ·obtain rfl:y=p:=by simpa using h1
   exact A6 hp
 exact⟨e6.own _ (C5 _ (CZ hy').1),e6.own _ (C5 _ (CZ hy').2),hn y hy'⟩
end Go.Proofs.YtmfjakieahkacaaGreatDoor
