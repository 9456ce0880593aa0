/- The laws' marks over batches that go on: in plain; rows that stay; written. -/
import Derived.Test.YtgecdacgmehmbaaGreatDoorMn3
import Derived.Test.YtgecdacgmehmbaaGreatDoorJ44
import Derived.Test.YtgecdacgmehmbaaGreatDoorJ21
namespace Go.Proofs.YtgecdacgmehmbaaGreatDoor
open Go.RowKit
def mkA {α:Type} (mk:Int->α->α) (sz:α->Nat):Int->List α->List α
 | _,[]=>[]
 | m,x::r=>mk m x::mkA mk sz (m+sz x) r
def szA {α:Type} (sz:α->Nat):List α->Nat
 | []=>0
 | x::r=>sz x+szA sz r
section
variable {α:Type} {mk:Int->α->α} {sz:α->Nat}
theorem Z0:∀(m:Int) (l:List α),(mkA mk sz m l).length=l.length
 | _,[]=>rfl
 | m,x::r=>by simp[mkA,Z0 _ r]
theorem AdL:∀(l:List α) (x:α),szA sz (l++[x])=szA sz l+sz x
 | [],x=>by simp[szA]
 | y::r,x=>by simp[szA,AdL r x];omega
theorem AgP:∀(m:Int) (l:List α) (x:α),mkA mk sz m (l++[x])=mkA mk sz m l++[mk (m+szA sz l) x]
 | m,[],x=>by simp[mkA,szA]
 | m,y::r,x=>by
  simp only[List.cons_append,mkA,AgP _ r x,szA];rw[show m+(sz y:Int)+(szA sz r:Int)=m+((sz y+szA sz r:Nat):Int) by omega]
theorem Aln:∀(m:Int) (l:List α) (k:Nat) (hk:k<l.length),(mkA mk sz m l)[k]?=some (mk (m+szA sz (l.take k)) l[k])
 | m,x::r,0,_=>by simp[mkA,szA]
 | m,x::r,k+1,hk=>by
  have ih:=Aln (m+sz x) r k (by simpa using hk);simp only[mkA,List.getElem?_cons_succ,List.take_succ_cons,szA,List.getElem_cons_succ];rw[ih,show m+(sz x:Int)+(szA sz (r.take k):Int)=m+((sz x+szA sz (r.take k):Nat):Int) by omega]
theorem AeI (c:Nat):∀(l:List α),(∀x∈l,sz x<=c)->szA sz l<=c*l.length
 | [],_=>by simp[szA]
 | x::r,h=>by
  have h1:=AeI c r λy hy=>h y (C7 _ hy);have h2:=h x List.mem_cons_self;simp only[szA,List.length_cons,Nat.mul_add];omega
def curA (mk:Int->α->α) (sz:α->Nat) (m:Int) (l:List α) (k:Nat):List α:=mkA mk sz m (l.take k)++l.drop k
theorem Alo (m:Int) (l:List α):curA mk sz m l 0=l:=by simp[curA,mkA]
theorem Am2 (m:Int) (l:List α):curA mk sz m l l.length=mkA mk sz m l:=by simp[curA]
theorem Anq (m:Int) (l:List α) (k:Nat) (hk:k<=l.length):(curA mk sz m l k)[k]?=l[k]?:=by
 rw[curA,C8 (by rw[Z0,B6];omega),List.getElem?_drop,Z0,B6];congr 1;omega
theorem Am3 (m:Int) (l:List α) (k:Nat) (hk:k<=l.length):(curA mk sz m l k).length=l.length:=by
 rw[curA,A9,Z0,B6,A8];omega
theorem Alp (m:Int) (l:List α) (k:Nat) (hk:k<l.length):curA mk sz m l (k+1)=(curA mk sz m l k).set k (mk (m+szA sz (l.take k)) l[k]):=by
 have hl:(mkA mk sz m (l.take k)).length=k:=by rw[Z0,B6];omega
 rw[curA,curA,A7 hk,AgP,List.set_append_right _ _ (by omega),hl,Nat.sub_self,D4 hk,List.append_assoc];rfl
end
def mkPs (m:Int) (n:Nat):List Ph:=(List.range n).map λ(i:Nat)=>mkPh (m+8*i)
def mkSs (m:Int) (n:Nat):List Sl:=(List.range n).map λ(i:Nat)=>mkSl (m+2*i)
theorem AaU (m:Int) (n:Nat):(mkPs m n).length=n:=by simp[mkPs]
theorem AaV (m:Int) (n:Nat):(mkSs m n).length=n:=by simp[mkSs]
theorem Adq (m:Int) (n:Nat):MarkedP (mkPs m n) m n:=λi hi=>by simp[mkPs,hi]
theorem Adr (m:Int) (n:Nat):MarkedS (mkSs m n) m n:=λi hi=>by simp[mkSs,hi]
theorem AhN {ys:List Ph} {m:Int} {n:Nat} (hl:ys.length=n) (h:MarkedP ys m n):ys=mkPs m n:=by
 refine List.ext_getElem? λi=>?_;by_cases hi:i<n
 ·rw[h i hi];exact (Adq m n i hi).symm
 ·rw[C6 (by omega),C6 (by rw[AaU];omega)]
theorem AhO {ys:List Sl} {m:Int} {n:Nat} (hl:ys.length=n) (h:MarkedS ys m n):ys=mkSs m n:=by
 refine List.ext_getElem? λi=>?_;by_cases hi:i<n
 ·rw[h i hi];exact (Adr m n i hi).symm
 ·rw[C6 (by omega),C6 (by rw[AaV];omega)]
def mkRb (m:Int) (x:Rb):Rb:=⟨mkB m,mkPs (m+1) x.ps.length,mkSs (m+1+8*x.ps.length) x.sl.length,mkB (m+1+8*x.ps.length+2*x.sl.length),m+1+8*x.ps.length+2*x.sl.length+1,m+1+8*x.ps.length+2*x.sl.length+1+1⟩
def szRb (x:Rb):Nat:=4+8*x.ps.length+2*x.sl.length
structure RbsQ (w:World) (base:Nat) (v:Value) (ps:List Rv):Prop where
 m:w.ownsRow base 71 6 v ps.length (rowsF rowR ps)
 r:∀(i:Nat) (p:Rv),ps[i]?=some p->w.ownsRow base 73 8 p.2.1 p.1.ps.length (rowsF Ph.cells p.1.ps)
 s:∀(i:Nat) (p:Rv),ps[i]?=some p->w.ownsRow base 81 2 p.2.2 p.1.sl.length (rowsF Sl.cells p.1.sl)
 a:∀(i j:Nat) (p q:Rv),i≠j->ps[i]?=some p->ps[j]?=some q->Ap p.2.1 q.2.1/\Ap p.2.2 q.2.2
theorem Ai1 {l:List Value} (h:l.Pairwise Ap) {i j:Nat} {u v:Value} (hn:i≠j) (hu:l[i]?=some u) (hv:l[j]?=some v):Ap u v:=by
 obtain⟨hi,rfl⟩:=A2.1 hu;obtain⟨hj,rfl⟩:=A2.1 hv;rcases Nat.lt_or_gt_of_ne hn with h1|h1
 ·exact List.pairwise_iff_getElem.1 h i j hi hj h1
 ·exact (List.pairwise_iff_getElem.1 h j i hj hi h1).symm
theorem RbsP.q {w:World} {base:Nat} {v:Value} {ps:List Rv} (h:RbsP w base v ps):RbsQ w base v ps :=
 ⟨h.1.1,λ_ p hp=>(h.1.2 p (A6 hp)).r,λ_ p hp=>(h.1.2 p (A6 hp)).s,λ_ _ _ _ hn hp hq=>⟨Ai1 h.2.1 hn (by rw[B0,hp];rfl) (by rw[B0,hq];rfl),Ai1 h.2.2 hn (by rw[B0,hp];rfl) (by rw[B0,hq];rfl)⟩⟩
theorem RbsQ.up {w w':World} {base:Nat} {v:Value} {ps:List Rv} (h:RbsQ w base v ps) (hb:Below w.heap.size w w'):RbsQ w' base v ps :=
 ⟨E0 h.m hb,λi p hp=>E0 (h.r i p hp) hb,λi p hp=>E0 (h.s i p hp) hb,h.a⟩
theorem RbsQ.kp {T:List Nat} {w w':World} {base:Nat} {v:Value} {ps:List Rv} (h:RbsQ w base v ps) (hk:KpT T w w') (h1:71∉T) (h2:73∉T) (h3:81∉T):RbsQ w' base v ps :=
 ⟨hk _ _ _ _ _ _ h1 h.m,λi p hp=>hk _ _ _ _ _ _ h2 (h.r i p hp),λi p hp=>hk _ _ _ _ _ _ h3 (h.s i p hp),h.a⟩
theorem Aaj {ps:List Rv} {k i:Nat} {y:Rv} {p:Rv} (hp:(ps.set k y)[i]?=some p):(i=k/\p=y)∨(i≠k/\ps[i]?=some p):=by
 rw[List.getElem?_set] at hp;by_cases e:k=i
 ·rw[if_pos e] at hp
  split at hp
  ·exact .inl ⟨e.symm,(A5 hp).symm⟩
  ·simp at hp
 ·rw[if_neg e] at hp;exact .inr ⟨λh=>e h.symm,hp⟩
theorem RbsQ.a' {w:World} {base k:Nat} {v:Value} {ps:List Rv} {x y:Rb} {ru su:Value} (h:RbsQ w base v ps) (hk:ps[k]?=some (x,ru,su)):∀(i j:Nat) (p q:Rv),i≠j->(ps.set k (y,ru,su))[i]?=some p->(ps.set k (y,ru,su))[j]?=some q->Ap p.2.1 q.2.1/\Ap p.2.2 q.2.2:=λi j p q hn hp hq=>by
 rcases Aaj hp with⟨rfl,rfl⟩|⟨h1,h2⟩
 ·rcases Aaj hq with⟨rfl,-⟩|⟨-,h4⟩
  ·exact absurd rfl hn
  ·exact h.a _ _ (x,ru,su) _ hn hk h4
 ·rcases Aaj hq with⟨rfl,rfl⟩|⟨-,h4⟩
  ·exact h.a _ _ _ (x,ru,su) hn h2 hk
  ·exact h.a _ _ _ _ hn h2 h4
theorem RbsQ.cell {w:World} {base g n cap k j:Nat} {u:Value} {ps:List Rv} {x y:Rb} {ru su:Value} (h:RbsQ w base (.slice (some ⟨g,0,none⟩) n cap) ps) (hk:ps[k]?=some (x,ru,su)) (hj:j<6) (hy:rowR (y,ru,su)=(rowR (x,ru,su)).set j u) (h1:y.ps=x.ps) (h2:y.sl=x.sl) :
  RbsQ (w.setCell ⟨g,k*6+j,none⟩ u) base (.slice (some ⟨g,0,none⟩) n cap) (ps.set k (y,ru,su))/\w.grownBy (w.setCell ⟨g,k*6+j,none⟩ u) (some g):=by
 obtain⟨_,_,e⟩:=E9 h.m;simp only[Value.slice.injEq] at e;obtain⟨-,rfl,-⟩:=e;have hs:=(B2 h.m (k*6+j) u).1;rw[R5 K7 ps k (x,ru,su) (y,ru,su) j u hk hj hy] at hs;have hg:w.grownBy (w.setCell ⟨g,k*6+j,none⟩ u) (Value.slice (some ⟨g,0,none⟩) ps.length cap).ownBlock:=D9 (E1 _ _) _;refine⟨⟨by rw[List.length_set];exact hs,λi p hp=>?_,λi p hp=>?_,h.a' hk⟩,hg⟩
 ·have h0:w.ownsRow base 73 8 p.2.1 p.1.ps.length (rowsF Ph.cells p.1.ps):=by
   rcases Aaj hp with⟨rfl,rfl⟩|⟨-,h4⟩
   ·show w.ownsRow base 73 8 ru y.ps.length (rowsF Ph.cells y.ps);rw[h1];exact h.r _ (x,ru,su) hk
   ·exact h.r _ _ h4
  exact E4 h0 hg (E5 h0 h.m (by decide))
 ·have h0:w.ownsRow base 81 2 p.2.2 p.1.sl.length (rowsF Sl.cells p.1.sl):=by
   rcases Aaj hp with⟨rfl,rfl⟩|⟨-,h4⟩
   ·show w.ownsRow base 81 2 su y.sl.length (rowsF Sl.cells y.sl);rw[h2];exact h.s _ (x,ru,su) hk
   ·exact h.s _ _ h4
  exact E4 h0 hg (E5 h0 h.m (by decide))
theorem Ae0 {ps:List Rv} {k:Nat} {x y:Rb} {ru su:Value} (hk:ps[k]?=some (x,ru,su)) (hy:rowR (y,ru,su)=rowR (x,ru,su)):rowsF rowR (ps.set k (y,ru,su))=rowsF rowR ps:=by
 have h:=R5 K7 ps k (x,ru,su) (y,ru,su) 0 (.string x.nm) hk (by omega) (by rw[hy];rfl);rw[← h];obtain⟨hi,e⟩:=A2.1 (Aar K7 ps k _ hk 0 (.string x.nm) rfl);rw[← e];exact List.set_getElem_self hi
theorem RbsQ.phs {w w':World} {base k:Nat} {v:Value} {ps:List Rv} {x:Rb} {ru su:Value} {ys:List Ph} (h:RbsQ w base v ps) (hk:ps[k]?=some (x,ru,su)) (ho:w'.ownsRow base 73 8 ru ys.length (rowsF Ph.cells ys)) (hg:w.grownBy w' ru.ownBlock):RbsQ w' base v (ps.set k ({x with ps:=ys},ru,su)):=by
 have hr:=h.r _ _ hk;refine⟨?_,λi p hp=>?_,λi p hp=>?_,h.a' hk⟩
 ·rw[List.length_set,Ae0 (x:=x) (y:={x with ps:=ys}) hk rfl];exact E4 h.m hg (E5 h.m hr (by decide))
 ·rcases Aaj hp with⟨rfl,rfl⟩|⟨h3,h4⟩
  ·exact ho
  ·exact E4 (h.r _ _ h4) hg λg' e1 e2=>(h.a _ _ _ _ h3 h4 hk).1 g' e1 e2.symm
 ·have h0:w.ownsRow base 81 2 p.2.2 p.1.sl.length (rowsF Sl.cells p.1.sl):=by
   rcases Aaj hp with⟨rfl,rfl⟩|⟨-,h4⟩
   ·exact h.s _ (x,ru,su) hk
   ·exact h.s _ _ h4
  exact E4 h0 hg (E5 h0 hr (by decide))
theorem RbsQ.slots {w w':World} {base k:Nat} {v:Value} {ps:List Rv} {x:Rb} {ru su:Value} {ys:List Sl} (h:RbsQ w base v ps) (hk:ps[k]?=some (x,ru,su)) (ho:w'.ownsRow base 81 2 su ys.length (rowsF Sl.cells ys)) (hg:w.grownBy w' su.ownBlock):RbsQ w' base v (ps.set k ({x with sl:=ys},ru,su)):=by
 have hr:=h.s _ _ hk;refine⟨?_,λi p hp=>?_,λi p hp=>?_,h.a' hk⟩
 ·rw[List.length_set,Ae0 (x:=x) (y:={x with sl:=ys}) hk rfl];exact E4 h.m hg (E5 h.m hr (by decide))
 ·have h0:w.ownsRow base 73 8 p.2.1 p.1.ps.length (rowsF Ph.cells p.1.ps):=by
   rcases Aaj hp with⟨rfl,rfl⟩|⟨-,h4⟩
   ·exact h.r _ (x,ru,su) hk
   ·exact h.r _ _ h4
  exact E4 h0 hg (E5 h0 hr (by decide))
 ·rcases Aaj hp with⟨rfl,rfl⟩|⟨h3,h4⟩
  ·exact ho
  ·exact E4 (h.s _ _ h4) hg λg' e1 e2=>(h.a _ _ _ _ h3 h4 hk).2 g' e1 e2.symm
end Go.Proofs.YtgecdacgmehmbaaGreatDoor
