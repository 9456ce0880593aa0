/- The program's chapter 13: what is done where somebody needs less. -/
import Derived.Test.YtgecdacgmehmbaaGreatDoorJ17
import Derived.Test.YtgecdacgmehmbaaGreatDoorJ33
import Derived.Test.YtgecdacgmehmbaaGreatDoorJ21
import Derived.Test.YtgecdacgmehmbaaGreatDoorJ10
namespace Go.Proofs.YtgecdacgmehmbaaGreatDoor
open Go.RowKit
theorem asc_k {l:List ByteArray} (h:Asc l):(keys l).Pairwise (· < ·):=by
 rw[List.pairwise_iff_getElem];intro i j hi hj hij;have hi':i<l.length:=by simpa [keys] using hi
 have hj':j<l.length:=by simpa [keys] using hj
 have:=R9 h (j-i-1) i _ _ (A0 hi') (by rw[show i+1+(j-i-1)=j by omega];exact A0 hj');rw[Ae3] at this;simpa [keys] using this
theorem k_inj {a b:List ByteArray} (h:keys a=keys b):a=b:=by
 refine List.ext_getElem (by simpa [keys] using congrArg List.length h) λi h1 h2=>?_;have:(keys a)[i]?=(keys b)[i]?:=by rw[h]
 simp only[keys,B0,A0 h1,A0 h2,Option.map_some,Option.some.injEq] at this;exact N0 this
theorem Amk:∀(ps:List Bv) (k:Nat) (p:Bv) (x:Ba) (u:Value),ps[k]?=some p->x.nm=p.1.nm->(rowsB ps).set (k*3+2) u=rowsB (ps.set k ((x,p.2.1,u):Bv))
 | q::r,0,p,x,u,h,e=>by
  obtain rfl:q=p:=by simpa using h
  simp[rowsB,rowB,e]
 | q::r,k+1,p,x,u,h,e=>by
  have:=Amk r k p x u (by simpa using h) e;rw[show (k+1)*3+2=(k*3+2)+3 by omega];simp[rowsB,rowB,this]
theorem AgF:∀(ps:List Bv) (k:Nat) (p:Bv) (x:Ba) (u:Value),ps[k]?=some p->x.nm=p.1.nm->(rowsB ps).set (k*3+1) u=rowsB (ps.set k ((x,u,p.2.2):Bv))
 | q::r,0,p,x,u,h,e=>by
  obtain rfl:q=p:=by simpa using h
  simp[rowsB,rowB,e]
 | q::r,k+1,p,x,u,h,e=>by
  have:=AgF r k p x u (by simpa using h) e;rw[show (k+1)*3+1=(k*3+1)+3 by omega];simp[rowsB,rowB,this]
end Go.Proofs.YtgecdacgmehmbaaGreatDoor
