/- The program's chapter 13: what is done where somebody needs less. -/
import Derived.Test.YtmfjakieahkacaaGreatDoorJ21
import Derived.Test.YtmfjakieahkacaaGreatDoorJ29
import Derived.Test.YtmfjakieahkacaaGreatDoorJ14
namespace Go.Proofs.YtmfjakieahkacaaGreatDoor
open Go.RowKit
theorem YC{l:List ByteArray}(h:Bg l):(Ak l).Pairwise (· < ·):=by
 rw[List.pairwise_iff_getElem];intro i j hi hj hij;have hi':i<l.length:=by simpa [Ak] using hi
 have hj':j<l.length:=by simpa [Ak] using hj
 have:=Dr h (j-i-1) i _ _ (A0 hi') (by rw[show i+1+(j-i-1)=j by omega];exact A0 hj');rw[LR] at this;simpa [Ak] using this
theorem AcF{a b:List ByteArray}(h:Ak a=Ak b):a=b:=by
 refine List.ext_getElem (by simpa [Ak] using congrArg List.length h) λi h1 h2=>?_;have:(Ak a)[i]?=(Ak b)[i]?:=by rw[h]
 simp only[Ak,A9,A0 h1,A0 h2,Option.map_some,Option.some.injEq] at this;exact Zy this
theorem PM:∀(ps:List Bv)(k:Nat)(p:Bv)(x:Ba)(u:Value),ps[k]?=some p->x.nm=p.1.nm->(I8 ps).set (k*3+1) u=I8 (ps.set k ((x,u,p.2.2):Bv))
 | q::r,0,p,x,u,h,e=>by
  obtain rfl:q=p:=by simpa using h
  simp[I8,Ch,e]
 | q::r,k+1,p,x,u,h,e=>by
  have:=PM r k p x u (by simpa using h) e;rw[show (k+1)*3+1=(k*3+1)+3 by omega];simp[I8,Ch,this]
end Go.Proofs.YtmfjakieahkacaaGreatDoor
