/- Drawing houses: a recipe of a few phases. -/
import Derived.Test.YtmonodehegcfhaaGreatDoorJ37
import Derived.Test.YtmonodehegcfhaaGreatDoorXr
import Derived.Test.YtmonodehegcfhaaGreatDoorJ12
import Derived.Test.YtmonodehegcfhaaGreatDoorJ8
import Derived.Test.YtmonodehegcfhaaGreatDoorJ13
import Derived.Test.YtmonodehegcfhaaGreatDoorJ23
import Derived.Test.YtmonodehegcfhaaGreatDoorJ26
import Derived.Test.YtmonodehegcfhaaGreatDoorJ19
import Derived.Test.YtmonodehegcfhaaGreatDoorJ16
import Derived.Test.YtmonodehegcfhaaGreatDoorJ14
set_option maxRecDepth 20000
set_option maxHeartbeats 8000000
namespace Go.Proofs.YtmonodehegcfhaaGreatDoor
open Go.Proofs.Tryz
open Go.RowKit
variable{ss:List BA}{N g len rb:Nat}{v:Value}{w:World}
theorem Mq(w:World)(b:Nat)(x0 x1 x2 x3 x4 x5 x6 x7:Value):w.grownBy ((((((((w.setCell ⟨b,0,none⟩ x0).setCell ⟨b,1,none⟩ x1).setCell ⟨b,2,none⟩ x2).setCell ⟨b,3,none⟩ x3).setCell ⟨b,4,none⟩ x4).setCell ⟨b,5,none⟩ x5).setCell ⟨b,6,none⟩ x6).setCell ⟨b,7,none⟩ x7) (some b) :=
 E1 (rb:=b) (E1 (rb:=b) (E1 (rb:=b) (E1 (rb:=b) (E1 (rb:=b) (E1 (rb:=b) (E1 (rb:=b) (E1 (rb:=b) (E2 w _) _) _) _) _) _) _) _) _
theorem Kk(rb len N:Nat)(v:Value)(w:World)(hR:Rd w rb v len N)(hN:N<=700000):
  Calls prog 16 #[.pointer (some ⟨rb,0,none⟩)] w
   λe w'=>(∃(u:Value)(ps:List Ph),e=.returned u/\1<=ps.length/\ps.length<=12/\(∀p∈ps,p.sz)/\w'.ownsRow w.heap.size 43 8 u ps.length (R0 ps))/\Rd w' rb v len (N+301)/\w.grownBy w' (some rb):=by
 have k7:=hR.lt;obtain⟨ii,hi,f6,f7,f8⟩:=info_parts ML;go_in;go_wp2_with fail;refine (K2 rb len _ v 5 _ hR (by omega)).mono ?_;rintro e w1 ⟨⟨x,rfl,n1,-⟩,f5,d9⟩;have i3:=d9.size;clear hR;by_cases hx:x=0
 ·subst hx;go_wp2_with (go_at_call 62;refine (SU rb len _ v _ f5 (by omega)).mono ?_;rintro e w2 ⟨⟨u,ps,rfl,h1,k4,d2,a2⟩,b0,a9⟩)
  go_ret;exact⟨⟨u,ps,rfl,h1,k4,d2,I8 a2 i3⟩,b0.mono (by omega),E0 d9 a9⟩
 ·have k8:(x==0)=false:=by simpa using hx
  go_upto_region 4 with (go_at_call 63;refine (Np _).mono ?_;rintro e x1 ⟨rfl,rfl⟩)
  obtain⟨W2,f9,b0,g0,a5,i1⟩:∃W2,w1.alloc (.cells (M4.map Value.string).toArray 9)=W2/\Rd W2 rb v len (N+1)/\w.grownBy W2 (some rb)/\F9 W2 w1.heap.size 0 M4/\w1.heap.size<W2.heap.size:=⟨_,rfl,f5.alloc _,F4 d9 _,K8 _ _ _,by simp⟩;try rw[f9]
  clear f9 f5 d9;obtain⟨NB,e1⟩:∃NB,w1.heap.size=NB:=⟨_,rfl⟩;rw[e1] at a5 i1;have a6:NB≠rb:=by omega
  have k9:w.heap.size<=NB:=by omega
  go_wp2_with fail;refine (K2 rb len _ v 4 _ b0 (by omega)).mono ?_;rintro e w3 ⟨⟨y,rfl,e3,h6⟩,h7,e0⟩;have i4:=h6 (by omega);obtain⟨n,rfl⟩:∃n:Nat,y=(n:Int):=⟨y.toNat,by omega⟩;have l0:n<4:=by omega
  have g6:=E0 g0 e0;have g7:=a5.kept e0 a6;have l1:=e0.size;clear b0 g0 a5 e0 e3 h6 i4;go_upto_region 7 with fail;obtain⟨W4,g1,g2,a7,a8,a1,k5⟩:∃W4,w3.alloc (.cells #[] 43)=W4/\W4.ownsRow (NB+1) 43 8 (.slice (some ⟨w3.heap.size,0,none⟩) 0 0) 0 []/\Rd W4 rb v len (N+2)/\w.grownBy W4 (some rb)/\F9 W4 NB 0 M4/\w3.heap.size<W4.heap.size:=⟨_,rfl,C0 w3 #[] 0 (by omega) (by unfold maxLen;omega) rfl,h7.alloc _,F4 g6 _,g7.alloc _,by simp⟩;try rw[g1]
  clear g1 h7 g6 g7;(try dsimp only[Iz,Sz,Sy,Nz,Vz,Tz,Ez,Pz]);go_loopw [5,6] (λu i w'=>∃(k:Nat)(ps:List Ph),k<=n+1/\i=.int .i64 k/\ps.length=k/\(∀p∈ps,p.sz)/\w'.ownsRow (NB+1) 43 8 u ps.length (R0 ps)/\Rd w' rb v len (N+2+14*k)/\w.grownBy w' (some rb)/\F9 w' NB 0 M4/\NB<w'.heap.size) (λ_ i _=>n+1-(intOf i).toNat)
  case atStart=>exact⟨0,[],by omega,rfl,rfl,by simp,g2,a7,a8,a1,by omega⟩
  case round =>
   clear g2 a7 a8 a1;obtain⟨k,ps,hk,rfl,d1,d2,a2,e2,d3,d4,k6⟩:=hrel;have Hpz:Hid (∀p∈ps,p.sz):=d2;clear d2;have l2:=d3.size;by_cases hkn:k<n+1
   ·have d6:k<M4.length:=by simp[M4];omega
    have b1:wr.cell? ⟨NB,k,none⟩=some (.string (M4[k]'d6)):=by
     have:=d4 k (M4[k]'d6) (by simp);simpa using this
    have g8:(M4[k]'d6).size<=maxLen:=Y6 (ss:=M4) (by decide) _ (by simp)
    have g9:F9 wr NB (k+1) ((M4.take (n+1)).drop (k+1)):=by
     have:=(d4.take (n+1)).drop (k+1);simpa using this
    have e4:TD ((M4.take (n+1)).drop (k+1)):=λs hs=>Y6 (ss:=M4) (by decide) s (List.mem_of_mem_take (List.mem_of_mem_drop hs));have e5:((M4.take (n+1)).drop (k+1)).length=n-k:=by simp[M4];omega
    generalize hX:M4[k]'d6=nm at *;generalize hY:(M4.take (n+1)).drop (k+1)=lat at *;clear hX hY;have HSk:Hid (F9 wr NB 0 M4):=d4;clear d4;have i5:(k:Int)<8:=by omega
    have i6:IntKind.i64.wrap ((k:Int)+1)=(k:Int)+1:=by rw[IntKind.wrap_i64];omega
    have i7:(k:Int)+1<=1+(n:Int):=by omega
    have i8:1+(n:Int)<=8:=by omega
    have i9:¬1+(n:Int)<(k:Int)+1:=by omega
    have j8:0<=(k:Int)+1:=by omega
    have l3:¬k=7:=by omega
    have j9:(1+(n:Int)).toNat-(k+1)=n-k:=by omega
    go_upto_region 9 with fail;go_cut [7] (λv7 wc=>∃(Y:Nat)(q:Ph),v7=.pointer (some ⟨Y,0,none⟩)/\CB wc Y [.string q.nm,.int .i64 q.k,.string q.a,.string q.b,.int .i64 q.n,.int .i64 q.wi,.string q.t,.string q.e]/\q.sz/\Rd wc rb v len (N+2+14*k+12)/\wr.grownBy wc (some rb)/\wr.heap.size<=Y)
    case first =>
     have hS:World.cell? wr.drew ⟨NB,k,none⟩=some (.string nm):=b1;have hR:Rd wr.drew rb v len (N+2+14*k):=e2.drew;have hG:wr.grownBy wr.drew (some rb):=S8 (E2 _ _);have hL:F9 wr.drew NB (k+1) lat:=g9.drew;have d7:wr.heap.size<=wr.drew.heap.size:=A4 _;refine F5 99 (λw'=>World.cell? w' ⟨NB,k,none⟩=some (.string nm)) (by kernel_rfl) ?_;generalize wr.drew=X1 at hS hR hG hL d7 ⊢
     refine D6 0 rfl hS ?_;refine D6 1 rfl hS ?_;refine D6 2 rfl hS ?_;refine D6 3 rfl hS ?_;refine D6 4 rfl hS ?_;refine D6 5 rfl hS ?_;refine D6 6 rfl hS ?_;refine D6 7 rfl hS ?_;refine D6 8 rfl hS ?_;refine D6 9 rfl hS ?_;refine R4 (i:=10) (j:=11) (by kernel_rfl) rfl rfl (λK hK=>?_) (λK hK=>?_)
     ·(go_simp;go_wp2_with (go_at_call 64;refine (Fq rb len _ v nm lat NB (k+1) _ (n-k) _ hR (by omega) g8 e4 e5 (by omega) hL a6).mono ?_;rintro e X2 ⟨⟨q,rfl,hq⟩,b0,a9⟩;have a5:World.cell? X2 ⟨NB,k,none⟩=some (.string nm):=a9.cell hS (by simpa using a6)))
      refine E6 hK a5 ?_;clear hK K;have kY:=F3 X2 [.string ⟨#[]⟩,.int .i64 0,.string ⟨#[]⟩,.string ⟨#[]⟩,.int .i64 0,.int .i64 0,.string ⟨#[]⟩,.string ⟨#[]⟩] 43;have b8:X2.grownBy (X2.alloc (.cells #[.string ⟨#[]⟩,.int .i64 0,.string ⟨#[]⟩,.string ⟨#[]⟩,.int .i64 0,.int .i64 0,.string ⟨#[]⟩,.string ⟨#[]⟩] 43)) (some rb):=F4 (E2 _ _) _;have a1:World.cell? (X2.alloc (.cells #[.string ⟨#[]⟩,.int .i64 0,.string ⟨#[]⟩,.string ⟨#[]⟩,.int .i64 0,.int .i64 0,.string ⟨#[]⟩,.string ⟨#[]⟩] 43)) ⟨NB,k,none⟩=some (.string nm):=b8.cell a5 (by simpa using a6);have a7:Rd (X2.alloc (.cells #[.string ⟨#[]⟩,.int .i64 0,.string ⟨#[]⟩,.string ⟨#[]⟩,.int .i64 0,.int .i64 0,.string ⟨#[]⟩,.string ⟨#[]⟩] 43)) rb v len (N+2+14*k+12):=b0.alloc _;have a8:=E0 (E0 hG a9) b8;have b7:wr.heap.size<=X2.heap.size:=B3 d7 a9.size;refine E7 11 rfl (λK hK=>?_);go_simp;refine E6 hK a1 ?_;clear hK K;have kY:CB (X2.alloc (.cells #[.string ⟨#[]⟩,.int .i64 0,.string ⟨#[]⟩,.string ⟨#[]⟩,.int .i64 0,.int .i64 0,.string ⟨#[]⟩,.string ⟨#[]⟩] 43)) X2.heap.size [.string ⟨#[]⟩,.int .i64 0,.string ⟨#[]⟩,.string ⟨#[]⟩,.int .i64 0,.int .i64 0,.string ⟨#[]⟩,.string ⟨#[]⟩]:=kY;generalize X2.alloc (.cells #[.string ⟨#[]⟩,.int .i64 0,.string ⟨#[]⟩,.string ⟨#[]⟩,.int .i64 0,.int .i64 0,.string ⟨#[]⟩,.string ⟨#[]⟩] 43)=X4 at a1 a7 a8 kY ⊢
      (obtain⟨⟨j0,j1,j2,j3,j4,j5,j6,j7⟩,m0,m1,m2,m3,m4,m5,m6,m7⟩:=kY.c8;have kF:=kY.copy8 (.string q.nm) (.int .i64 q.k) (.string q.a) (.string q.b) (.int .i64 q.n) (.int .i64 q.wi) (.string q.t) (.string q.e);have b6:=Mq X4 X2.heap.size (.string q.nm) (.int .i64 q.k) (.string q.a) (.string q.b) (.int .i64 q.n) (.int .i64 q.wi) (.string q.t) (.string q.e);have b9:=Rd.row a7 b6 (by have:=hR.lt;omega);have b2:=I3 a8 b6 b7;refine E7 12 rfl (λK hK=>?_);go_simp;refine E6 hK (b6.cell a1 (by simp;omega)) ?_;clear hK K j0 j1 j2 j3 j4 j5 j6 j7 m0 m1 m2 m3 m4 m5 m6 m7 kY;(try simp only[Act.put,List.setIfInBounds_toArray,List.set_cons_zero,List.set_cons_succ]);refine F0 (by kernel_rfl) ?_ _;go_wp2_with fail;go_meet;exact⟨_,q,rfl,kF,hq,b9,b2,b7⟩)
     ·go_simp;have kY:=F3 X1 [.string ⟨#[]⟩,.int .i64 0,.string ⟨#[]⟩,.string ⟨#[]⟩,.int .i64 0,.int .i64 0,.string ⟨#[]⟩,.string ⟨#[]⟩] 43;have b8:X1.grownBy (X1.alloc (.cells #[.string ⟨#[]⟩,.int .i64 0,.string ⟨#[]⟩,.string ⟨#[]⟩,.int .i64 0,.int .i64 0,.string ⟨#[]⟩,.string ⟨#[]⟩] 43)) (some rb):=F4 (E2 _ _) _;have a1:World.cell? (X1.alloc (.cells #[.string ⟨#[]⟩,.int .i64 0,.string ⟨#[]⟩,.string ⟨#[]⟩,.int .i64 0,.int .i64 0,.string ⟨#[]⟩,.string ⟨#[]⟩] 43)) ⟨NB,k,none⟩=some (.string nm):=b8.cell hS (by simpa using a6);have a7:Rd (X1.alloc (.cells #[.string ⟨#[]⟩,.int .i64 0,.string ⟨#[]⟩,.string ⟨#[]⟩,.int .i64 0,.int .i64 0,.string ⟨#[]⟩,.string ⟨#[]⟩] 43)) rb v len (N+2+14*k):=hR.alloc _;have e6:F9 (X1.alloc (.cells #[.string ⟨#[]⟩,.int .i64 0,.string ⟨#[]⟩,.string ⟨#[]⟩,.int .i64 0,.int .i64 0,.string ⟨#[]⟩,.string ⟨#[]⟩] 43)) NB (k+1) lat:=hL.alloc _;have a8:=E0 hG b8;have h0:rb<X1.heap.size:=hR.lt;refine E6 hK a1 ?_;clear hK K;have kY:CB (X1.alloc (.cells #[.string ⟨#[]⟩,.int .i64 0,.string ⟨#[]⟩,.string ⟨#[]⟩,.int .i64 0,.int .i64 0,.string ⟨#[]⟩,.string ⟨#[]⟩] 43)) X1.heap.size [.string ⟨#[]⟩,.int .i64 0,.string ⟨#[]⟩,.string ⟨#[]⟩,.int .i64 0,.int .i64 0,.string ⟨#[]⟩,.string ⟨#[]⟩]:=kY;obtain⟨y0,e3⟩:∃y0,X1.heap.size=y0:=⟨_,rfl⟩;rw[e3] at kY d7 h0;clear hS hR hL hG b8;generalize X1.alloc (.cells #[.string ⟨#[]⟩,.int .i64 0,.string ⟨#[]⟩,.string ⟨#[]⟩,.int .i64 0,.int .i64 0,.string ⟨#[]⟩,.string ⟨#[]⟩] 43)=X0 at a1 a7 a8 e6 kY ⊢
      refine E7 10 rfl (λK hK=>?_)
      (go_simp;go_wp2_with (go_at_call 64;refine (Fq rb len _ v nm lat NB (k+1) _ (n-k) _ a7 (by omega) g8 e4 e5 (by omega) e6 a6).mono ?_;rintro e X2 ⟨⟨q,rfl,hq⟩,b0,a9⟩;have a5:World.cell? X2 ⟨NB,k,none⟩=some (.string nm):=a9.cell a1 (by simpa using a6)))
      have kY:CB X2 y0 [.string ⟨#[]⟩,.int .i64 0,.string ⟨#[]⟩,.string ⟨#[]⟩,.int .i64 0,.int .i64 0,.string ⟨#[]⟩,.string ⟨#[]⟩]:=kY.kept a9 (by simp;omega);have b2:=E0 a8 a9;have b7:wr.heap.size<=y0:=d7;refine E6 hK a5 ?_;clear hK K;clear a1 a7 a8 e6;have a1:=a5;clear a5;generalize X2=X4 at *
      (obtain⟨⟨j0,j1,j2,j3,j4,j5,j6,j7⟩,m0,m1,m2,m3,m4,m5,m6,m7⟩:=kY.c8;have kF:=kY.copy8 (.string q.nm) (.int .i64 q.k) (.string q.a) (.string q.b) (.int .i64 q.n) (.int .i64 q.wi) (.string q.t) (.string q.e);have b6:=Mq X4 y0 (.string q.nm) (.int .i64 q.k) (.string q.a) (.string q.b) (.int .i64 q.n) (.int .i64 q.wi) (.string q.t) (.string q.e);have b9:=Rd.row b0 b6 h0;have b2:=I3 b2 b6 b7;refine E7 12 rfl (λK hK=>?_);go_simp;refine E6 hK (b6.cell a1 (by simp;omega)) ?_;clear hK K j0 j1 j2 j3 j4 j5 j6 j7 m0 m1 m2 m3 m4 m5 m6 m7 kY;(try simp only[Act.put,List.setIfInBounds_toArray,List.set_cons_zero,List.set_cons_succ]);refine F0 (by kernel_rfl) ?_ _;go_wp2_with fail;go_meet;exact⟨_,q,rfl,kF,hq,b9,b2,b7⟩)
    case rest =>
     obtain⟨Y,q,rfl,kY,hq,g3,c2,b7⟩:=hcut;have c3:rb<NB+1:=by omega
     have b3:=F2 a2 c2 c3;have HSc:Hid (F9 wc NB 0 M4):=HSk.out.kept c2 a6;have h2:=E0 d3 c2;have h3:∀g,Value.ownBlock u5=some g->g<wr.heap.size:=λg hg=>(a2.lt g hg).2;have l4:=c2.size;clear e2 d3 a2 HSk b1 g9 e4 e5 i5 i6 i7 i8 i9 j8 j9;go_wp2_with fail;refine (K2 rb len _ v 5 _ g3 (by omega)).mono ?_;rintro e w5 ⟨⟨x5,rfl,n2,h8⟩,b9,c0⟩;have l5:=h8 (by omega);have l6:IntKind.i64.wrap (1+x5)=1+x5:=by rw[IntKind.wrap_i64];omega
     have e7:=kY.kept c0 (by simp;omega);have b4:=F2 b3 c0 c3;have HS5:Hid (F9 w5 NB 0 M4):=HSc.out.kept c0 a6;have b2:=E0 h2 c0;have l7:=c0.size;clear g3 c2 b3 HSc h2 kY c0 h8;obtain⟨⟨j0,j1,j2,j3,j4,j5,j6,j7⟩,m0,m1,m2,m3,m4,m5,m6,m7⟩:=e7.c8;obtain⟨W6,g4,d5,a3⟩:∃W6,w5.setCell ⟨Y,5,none⟩ (.int .i64 (1+x5))=W6/\CB W6 Y [.string q.nm,.int .i64 q.k,.string q.a,.string q.b,.int .i64 q.n,.int .i64 (1+x5),.string q.t,.string q.e]/\w5.grownBy W6 (some Y):=⟨_,rfl,e7.set (j:=5) (by simp),E1 (E2 _ _) _⟩;have a4:=E5 b4 a3 (λg hg e=>by have:=h3 g hg;simp at e;omega);have HS6:Hid (F9 W6 NB 0 M4):=HS5.out.kept a3 (by omega);have e8:=Rd.row b9 a3 (by omega);have d8:=I3 b2 a3 (by omega);have l8:=a3.size;go_upto_region 11 with fail;try rw[g4]
     clear g4 j0 j1 j2 j3 j4 j5 j6 j7 m0 m1 m2 m3 m4 m5 m6 m7 e7 b4 HS5 b9 b2 a3;obtain⟨⟨j0,j1,j2,j3,j4,j5,j6,j7⟩,m0,m1,m2,m3,m4,m5,m6,m7⟩:=d5.c8;by_cases hk3:q.k=3
     ·have c4:(q.k==3)=true:=by simpa using hk3
      go_wp2_with fail;refine (K2 rb len _ v (1+x5) _ e8 (by omega)).mono ?_;rintro e w7 ⟨⟨x7,rfl,n3,h9⟩,i0,c1⟩;have l9:=h9 (by omega);have m8:IntKind.i64.wrap (1+x7)=1+x7:=by rw[IntKind.wrap_i64];omega
      have e9:=d5.kept c1 (by simp;omega);have b5:=F2 a4 c1 c3;have HS7:Hid (F9 w7 NB 0 M4):=HS6.out.kept c1 a6;have h4:=E0 d8 c1;have m9:=c1.size;clear j0 j1 j2 j3 j4 j5 j6 j7 m0 m1 m2 m3 m4 m5 m6 m7 d5 a4 HS6 e8 d8 c1 h9;obtain⟨⟨j0,j1,j2,j3,j4,j5,j6,j7⟩,m0,m1,m2,m3,m4,m5,m6,m7⟩:=e9.c8;obtain⟨W8,g5,i2,a3⟩:∃W8,w7.setCell ⟨Y,4,none⟩ (.int .i64 (1+x7))=W8/\CB W8 Y [.string q.nm,.int .i64 q.k,.string q.a,.string q.b,.int .i64 (1+x7),.int .i64 (1+x5),.string q.t,.string q.e]/\w7.grownBy W8 (some Y):=⟨_,rfl,e9.set (j:=4) (by simp),E1 (E2 _ _) _⟩;have c5:=E5 b5 a3 (λg hg e=>by have:=h3 g hg;simp at e;omega);have HS8:Hid (F9 W8 NB 0 M4):=HS7.out.kept a3 (by omega);have k0:=Rd.row i0 a3 (by omega);have h5:=I3 h4 a3 (by omega);have n0:=a3.size;go_upto_region 13 with fail;try rw[g5]
      clear hk3 c4 g5 j0 j1 j2 j3 j4 j5 j6 j7 m0 m1 m2 m3 m4 m5 m6 m7 e9 b5 HS7 i0 h4 a3;have f0:Ph.sz ⟨q.nm,q.k,q.a,q.b,1+x7,1+x5,q.t,q.e⟩:=⟨hq.1,hq.2.1,hq.2.2.1,hq.2.2.2.1,hq.2.2.2.2.1,by show -5000<=1+x5;omega,by show 1+x5<=5000;omega⟩
      (obtain⟨⟨j0,j1,j2,j3,j4,j5,j6,j7⟩,-⟩:=i2.c8;have k1:=h5.size;have a0:=World.ownsRow.alloc c5 (.cells #[.string q.nm,.int .i64 q.k,.string q.a,.string q.b,.int .i64 (1+x7),.int .i64 (1+x5),.string q.t,.string q.e] 43);have c6:=k0.alloc (.cells #[.string q.nm,.int .i64 q.k,.string q.a,.string q.b,.int .i64 (1+x7),.int .i64 (1+x5),.string q.t,.string q.e] 43);have c7:=F4 h5 (.cells #[.string q.nm,.int .i64 q.k,.string q.a,.string q.b,.int .i64 (1+x7),.int .i64 (1+x5),.string q.t,.string q.e] 43);have c9:=HS8.out.alloc (.cells #[.string q.nm,.int .i64 q.k,.string q.a,.string q.b,.int .i64 (1+x7),.int .i64 (1+x5),.string q.t,.string q.e] 43);have k2:(W8.alloc (.cells #[.string q.nm,.int .i64 q.k,.string q.a,.string q.b,.int .i64 (1+x7),.int .i64 (1+x5),.string q.t,.string q.e] 43)).heap.size=W8.heap.size+1:=(by simp);have d0:∀(j:Nat)(u:Value),(Ph.cells (⟨q.nm,q.k,q.a,q.b,1+x7,1+x5,q.t,q.e⟩:Ph))[j]?=some u->(W8.alloc (.cells #[.string q.nm,.int .i64 q.k,.string q.a,.string q.b,.int .i64 (1+x7),.int .i64 (1+x5),.string q.t,.string q.e] 43)).cell? ((⟨W8.heap.size,0,none⟩:Addr).add j)=some u:=λj u hj=>Mz W8 (⟨q.nm,q.k,q.a,q.b,1+x7,1+x5,q.t,q.e⟩:Ph) _ hj;have Hz:Hid (∀p∈ps++[(⟨q.nm,q.k,q.a,q.b,1+x7,1+x5,q.t,q.e⟩:Ph)],p.sz):=(λp hp=>by rcases D0.1 hp with h1|h1;(exact Hpz.out p h1);(obtain rfl:p=(⟨q.nm,q.k,q.a,q.b,1+x7,1+x5,q.t,q.e⟩:Ph):=by simpa using h1);exact f0);go_wp2_with (at_builtin;refine wpList_append_own _ rfl _ _ 31 rfl (NB+1) 43 ii _ 8 104 underlying31 hi f6 f7 f8 rfl (by decide) u5 _ _ rfl a0 ⟨W8.heap.size,0,none⟩ 1 1 (Ph.cells (⟨q.nm,q.k,q.a,q.b,1+x7,1+x5,q.t,q.e⟩:Ph)) rfl rfl d0 (Lf (⟨q.nm,q.k,q.a,q.b,1+x7,1+x5,q.t,q.e⟩:Ph)) (by unfold maxLen;omega) (by omega) (by omega) ?_);intro v' w9 hown9 hgr9 _;have f1:=c6.own a0 hgr9 c3;have f2:=U7 c7 a0 hgr9 (by omega);have f3:=c9.own a0 hgr9 (by omega);have k3:=hgr9.size;have f4:w9.ownsRow (NB+1) 43 8 v' (ps++[(⟨q.nm,q.k,q.a,q.b,1+x7,1+x5,q.t,q.e⟩:Ph)]).length (R0 (ps++[(⟨q.nm,q.k,q.a,q.b,1+x7,1+x5,q.t,q.e⟩:Ph)])):=(by rw[CF,B0,d1];simpa [R0,d1] using hown9);clear j0 j1 j2 j3 j4 j5 j6 j7 a0 c6 c7 c9 d0 hown9 hgr9;go_wp2_with fail;go_roundw;case rel=>exact⟨k+1,ps++[(⟨q.nm,q.k,q.a,q.b,1+x7,1+x5,q.t,q.e⟩:Ph)],by omega,by go_num,by simp;omega,Hz.out,f4,f1.mono (by omega),f2,f3,by omega⟩)
      case measure=>simp[intOf];omega
     ·have c4:(q.k==3)=false:=by simpa using hk3
      have f0:Ph.sz ⟨q.nm,q.k,q.a,q.b,q.n,1+x5,q.t,q.e⟩:=⟨hq.1,hq.2.1,hq.2.2.1,hq.2.2.2.1,hq.2.2.2.2.1,by show -5000<=1+x5;omega,by show 1+x5<=5000;omega⟩;go_upto_region 13 with fail;clear j0 j1 j2 j3 j4 j5 j6 j7 m0 m1 m2 m3 m4 m5 m6 m7
      (obtain⟨⟨j0,j1,j2,j3,j4,j5,j6,j7⟩,-⟩:=d5.c8;have k1:=d8.size;have a0:=World.ownsRow.alloc a4 (.cells #[.string q.nm,.int .i64 q.k,.string q.a,.string q.b,.int .i64 q.n,.int .i64 (1+x5),.string q.t,.string q.e] 43);have c6:=e8.alloc (.cells #[.string q.nm,.int .i64 q.k,.string q.a,.string q.b,.int .i64 q.n,.int .i64 (1+x5),.string q.t,.string q.e] 43);have c7:=F4 d8 (.cells #[.string q.nm,.int .i64 q.k,.string q.a,.string q.b,.int .i64 q.n,.int .i64 (1+x5),.string q.t,.string q.e] 43);have c9:=HS6.out.alloc (.cells #[.string q.nm,.int .i64 q.k,.string q.a,.string q.b,.int .i64 q.n,.int .i64 (1+x5),.string q.t,.string q.e] 43);have k2:(W6.alloc (.cells #[.string q.nm,.int .i64 q.k,.string q.a,.string q.b,.int .i64 q.n,.int .i64 (1+x5),.string q.t,.string q.e] 43)).heap.size=W6.heap.size+1:=(by simp);have d0:∀(j:Nat)(u:Value),(Ph.cells (⟨q.nm,q.k,q.a,q.b,q.n,1+x5,q.t,q.e⟩:Ph))[j]?=some u->(W6.alloc (.cells #[.string q.nm,.int .i64 q.k,.string q.a,.string q.b,.int .i64 q.n,.int .i64 (1+x5),.string q.t,.string q.e] 43)).cell? ((⟨W6.heap.size,0,none⟩:Addr).add j)=some u:=λj u hj=>Mz W6 (⟨q.nm,q.k,q.a,q.b,q.n,1+x5,q.t,q.e⟩:Ph) _ hj;have Hz:Hid (∀p∈ps++[(⟨q.nm,q.k,q.a,q.b,q.n,1+x5,q.t,q.e⟩:Ph)],p.sz):=(λp hp=>by rcases D0.1 hp with h1|h1;(exact Hpz.out p h1);(obtain rfl:p=(⟨q.nm,q.k,q.a,q.b,q.n,1+x5,q.t,q.e⟩:Ph):=by simpa using h1);exact f0);go_wp2_with (at_builtin;refine wpList_append_own _ rfl _ _ 31 rfl (NB+1) 43 ii _ 8 104 underlying31 hi f6 f7 f8 rfl (by decide) u5 _ _ rfl a0 ⟨W6.heap.size,0,none⟩ 1 1 (Ph.cells (⟨q.nm,q.k,q.a,q.b,q.n,1+x5,q.t,q.e⟩:Ph)) rfl rfl d0 (Lf (⟨q.nm,q.k,q.a,q.b,q.n,1+x5,q.t,q.e⟩:Ph)) (by unfold maxLen;omega) (by omega) (by omega) ?_);intro v' w9 hown9 hgr9 _;have f1:=c6.own a0 hgr9 c3;have f2:=U7 c7 a0 hgr9 (by omega);have f3:=c9.own a0 hgr9 (by omega);have k3:=hgr9.size;have f4:w9.ownsRow (NB+1) 43 8 v' (ps++[(⟨q.nm,q.k,q.a,q.b,q.n,1+x5,q.t,q.e⟩:Ph)]).length (R0 (ps++[(⟨q.nm,q.k,q.a,q.b,q.n,1+x5,q.t,q.e⟩:Ph)])):=(by rw[CF,B0,d1];simpa [R0,d1] using hown9);clear j0 j1 j2 j3 j4 j5 j6 j7 a0 c6 c7 c9 d0 hown9 hgr9;go_wp2_with fail;go_roundw;case rel=>exact⟨k+1,ps++[(⟨q.nm,q.k,q.a,q.b,q.n,1+x5,q.t,q.e⟩:Ph)],by omega,by go_num,by simp;omega,Hz.out,f4,f1.mono (by omega),f2,f3,by omega⟩)
      case measure=>simp[intOf];omega
   ·go_wp2_with fail;go_ret;exact⟨⟨_,ps,rfl,by omega,by omega,Hpz.out,I8 a2 (by omega)⟩,e2.mono (by omega),d3⟩
theorem Rd.first(h:Rd w rb v len N):∃a n c,At w rb 0 (Vz a n c):=by
 obtain⟨p,-,c0,-,-,⟨a,a0,rfl,-⟩,-⟩:=h;exact⟨a,_,a0,c0⟩
theorem Yj(h:Rd w rb v len N)(hS:F9 w g 0 ss)(hp:0<ss.length):g≠rb:=by
 rintro rfl;obtain⟨a,n,c,h0⟩:=h.first;have:=hS 0 _ (A0 hp);rw[Nat.add_zero,h0] at this;simp at this
theorem WY{base e r:Nat}(ho:w.ownsRow base e 2 (Sz r 0 0) 0 [])(hS:F9 w g 0 ss)(hp:0<ss.length):g≠r:=by
 rintro rfl;have h1:=hS 0 _ (A0 hp);rcases ho.2 with⟨h0,-⟩|⟨g',cap',cur,h0,-,hg,-,-,hcs,-⟩
 ·cases h0
 ·simp only[Value.slice.injEq,Option.some.injEq,Addr.mk.injEq,and_true,true_and] at h0;obtain⟨rfl,rfl⟩:=h0;have hc:cur.size=0:=by omega
  rw[Nat.add_zero,cell_of_row w _ 0 cur e (0,0) hg,Array.getElem?_eq_none (by omega)] at h1;cases h1
theorem KP(rb len N:Nat)(v:Value)(ps:List Ph)(b o c:Nat)(ts:List BA)(tv:Value)(w:World)(hR:Rd w rb v len N)(hN:N<=900000)(hr:M2 w b o ps)(hb:b<w.heap.size)(hs:Dd ps)(hnp:ps.length<=1048576)(ht:Ls w tv ts)(hts:ts.length<=100):
  Calls prog 17 #[Pz rb 0,Sy b o ps.length c,tv] w
   λe w'=>(∃u sl,e=.returned u/\NN u/\w'.ownsRow w.heap.size 58 2 u sl.length (F8 Sl.cells sl)/\sl.length<=24/\∀y∈sl,y.s.size<=maxLen/\y.t.size<=maxLen)/\Rd w' rb v len (N+24)/\w.grownBy w' (some rb):=by
 have h8:=hR.lt;obtain⟨l3,l4,rfl,-,j7,-⟩:=id ht;obtain⟨is,j8,j0,j1,j2⟩:=info_parts Ii;obtain⟨ii,hi,f7,f8,f9⟩:=info_parts V7;obtain⟨W1,g0,e3,c7⟩:∃W1,w.alloc (Kz [] 58)=W1/\W1.ownsRow w.heap.size 58 2 (Sz w.heap.size 0 0) 0 []/\Up w W1:=⟨_,rfl,EJ _ _ _,(A5 _ _).alloc (A4 _) _⟩;go_in;go_upto_region 2 with fail;try rw[g0]
 clear g0;have c8:=Dl ps b o c W1 (hr.up c7 hb) (A2 hb c7.size) hs hnp;cases hok:P3 ps
 ·rw[hok] at c8;go_wp2_with (go_at_call 26;refine c8.mono ?_;rintro e w2 ⟨rfl,a0⟩)
  go_ret;have a7:=D5 c7 a0;exact⟨⟨_,[],rfl,⟨_,_,_,rfl⟩,E4 e3 a0,by simp,λy hy=>by simp at hy⟩,(hR.kept a7).mono (by omega),⟨a7.os,a7.tape,a7.output,a7.size,λi hi _=>a7.block i hi⟩⟩
 ·rw[hok] at c8;go_upto_region 4 with (go_at_call 26;refine c8.mono ?_;rintro e w2 ⟨rfl,a0⟩)
  have a7:=D5 c7 a0;have e4:=E4 e3 a0;have e6:0<ps.length:=((M3 ps).1 hok).1;have e7:=hr.up a7 hb;have e8:b<w2.heap.size:=A2 hb a7.size
  have c0:World.cell? w2 ⟨b,o,none⟩=some (Tz (I0 ps)):=by
   have:=(e7.cells 0 e6).1;rw[show o+0*8=o by omega,← BL e6] at this;exact this
  have h9:=EW ps b o c hok (ps.length+1) (I0 ps) w2 e7 e8 (by omega);have k3:=Kb hs (I0 ps);have m1:(O9 ps (I0 ps)).length<=24:=by have:=DU ps (I0 ps);have:=((M3 ps).1 hok).2.1;omega
  generalize O9 ps (I0 ps)=ss at *;go_upto_region 5 with (go_at_call 65;refine h9.mono ?_;rintro e w3 ⟨⟨ua,rfl,l2⟩,b6⟩)
  obtain⟨ga,ca,rfl,g1,j9,-⟩:=l2;have e0:=D5 a7 b6;have b1:=E4 e4 b6;have i0:=ht.up e0;clear c8 h9 c0 a0 b6 e3 e4 e7 c7 a7 ht;have i1:=Bj ts _ w3 i0 (by omega);go_upto_region 7 with (go_at_call 66;refine i1.mono ?_;rintro e w4 ⟨⟨ul,rfl,c1,-⟩,d7⟩)
  have c2:=D5 e0 d7;have c3:=E4 b1 d7;have b2:F9 w4 ga 0 ss:=λi s hs=>(d7.cell (p:=⟨ga,0+i,none⟩) j9).trans (g1 i s hs);have d0:=hR.kept c2;have e2:w.grownBy w4 (some rb):=⟨c2.os,c2.tape,c2.output,c2.size,λi hi _=>c2.block i hi⟩;have m2:=e0.size;have k4:=d7.size;have d1:0<ss.length->ga≠w.heap.size:=λhp=>WY c3 b2 hp;have k5:0<ss.length->ga≠rb:=λhp=>Yj d0 b2 hp;clear i1 e0 b1 g1 i0 d7 hR;(try dsimp only[Iz,Sz,Sy,Nz,Vz,Tz,Ez,Pz]);go_loopw [7,9,10] (λu7 u9 i w'=>∃(k:Nat)(sl:List Sl)(ls:List BA),k<=ss.length/\i=.int .i64 k/\sl.length=k/\NN u7/\w'.ownsRow w.heap.size 58 2 u7 sl.length (F8 Sl.cells sl)/\(∀y∈sl,y.s.size<=maxLen/\y.t.size<=maxLen)/\F7 w' w3.heap.size u9 ls/\ls.length<=100/\(∀s∈ls,s.size<=maxLen)/\F9 w' ga 0 ss/\ga<w'.heap.size/\Rd w' rb v len (N+k)/\w.grownBy w' (some rb)/\w3.heap.size<=w'.heap.size/\(0<ss.length->∀g,u7.ownBlock=some g->g≠ga)) (λ_ _ i _=>ss.length-(intOf i).toNat)
  case atStart=>exact⟨0,[],ts,by omega,rfl,rfl,⟨_,_,_,rfl⟩,c3,λy hy=>(by simp at hy),c1,hts,j7,b2,by omega,d0,e2,k4,λhp g hg e=>(by simp[Value.ownBlock] at hg;have:=d1 hp;omega)⟩
  case round =>
   clear c3 c1 b2 d0 e2 d1;obtain⟨k,sl,ls,hk,rfl,l5,g2,b0,g3,c1,l6,g4,g5,l7,d8,d9,l8,g6⟩:=hrel;have Hzy:Hid (∀y∈sl,y.s.size<=maxLen/\y.t.size<=maxLen):=g3;have Hzl:Hid (∀s∈ls,s.size<=maxLen):=g4;clear g3 g4;obtain⟨a9,c9,rfl⟩:=c1.lst.shape;by_cases hp:k<ss.length
   case neg =>
    obtain⟨g7,n7,m7,rfl⟩:=g2;go_wp2_with fail;go_ret;exact⟨⟨_,sl,rfl,⟨_,_,_,rfl⟩,b0,by omega,Hzy.out⟩,d8.mono (by omega),d9⟩
   case pos =>
    by_cases hq:0<ls.length
    case neg =>
     obtain⟨g7,n7,m7,rfl⟩:=g2;have m3:ls.length=0:=by omega
     go_wp2_with fail;go_ret;exact⟨⟨_,sl,rfl,⟨_,_,_,rfl⟩,b0,by omega,Hzy.out⟩,d8.mono (by omega),d9⟩
    case pos =>
     have f0:ga≠rb:=k5 (by omega);have Hap:Hid (∀g,Value.ownBlock u7=some g->g≠ga):=g6 (by omega);clear g6;go_wp2_with fail;refine (K2 rb len _ v (ls.length:Int) _ d8 (by omega)).mono ?_;rintro e w5 ⟨⟨x5,rfl,n5,j5⟩,j6,c6⟩;have m4:=j5 (by omega);obtain⟨j,rfl⟩:∃j:Nat,x5=(j:Int):=⟨x5.toNat,by omega⟩;have hj:j<ls.length:=by omega
     have b7:=F2 b0 c6 h8;have a8:F7 w5 w3.heap.size (Vz a9 ls.length c9) ls:=F2 c1 c6 (by omega);have f1:F9 w5 ga 0 ss:=g5.kept c6 f0;have i2:=E0 d9 c6;have m5:=c6.size;obtain⟨g9,l9,e9⟩:=I6 a8 hq;simp only[Value.slice.injEq] at e9;obtain⟨rfl,-,rfl⟩:=e9;clear d8 d9 c6 b0 c1 g5 j5
     have q1:World.cell? w5 ⟨ga,k,none⟩=some (Tz ss[k]):=by
      have:=f1 k _ (A0 hp);simpa using this
     have q2:World.cell? w5 ⟨g9,j,none⟩=some (Tz ls[j]):=by
      have h1:ls.length*1=ls.length:=Nat.mul_one _;rw[a8.cellAt j (by omega),B1,A0 hj];rfl
     have Hs1:Hid ((ss[k]).size<=maxLen):=k3 _ (List.getElem_mem hp);have Hs2:Hid ((ls[j]).size<=maxLen):=Hzl.out _ (List.getElem_mem hj);generalize ss[k]=s1 at *;generalize ls[j]=s2 at *;obtain⟨m0,k0⟩:=BP a8;unfold maxLen at k0;go_upto_region 10 with fail;have a6:World.cell? w5.drew ⟨ga,k,none⟩=some (Tz s1)/\World.cell? w5.drew ⟨g9,j,none⟩=some (Tz s2):=⟨q1,q2⟩;have a1:=Bp b7;have a4:F7 w5.drew w3.heap.size (Sz g9 ls.length c9) ls:=Bp a8;have c4:F9 w5.drew ga 0 ss:=f1.drew;have c5:Rd w5.drew rb v len (N+k+1):=j6.drew;have a3:w.grownBy w5.drew (some rb):=S8 i2;have f2:w5.heap.size<=w5.drew.heap.size:=A4 _;refine F5 99 (λw'=>World.cell? w' ⟨ga,k,none⟩=some (Tz s1)/\World.cell? w' ⟨g9,j,none⟩=some (Tz s2)) (by kernel_rfl) ?_;generalize w5.drew=X1 at a6 a1 a4 c4 c5 a3 f2 ⊢
     clear q1 q2 b7 a8 f1 j6 i2;refine D6 0 rfl a6 ?_;refine D6 1 rfl a6 ?_;refine D6 2 rfl a6 ?_;refine D6 3 rfl a6 ?_;refine D6 4 rfl a6 ?_;refine D6 5 rfl a6 ?_;refine D6 6 rfl a6 ?_;refine D6 7 rfl a6 ?_;refine D6 8 rfl a6 ?_;refine D6 9 rfl a6 ?_;obtain⟨X2,h0,a0,h4⟩:∃X2,X1.alloc (Kz [Tz s1,Tz s2] 58)=X2/\Up X1 X2/\∀(i:Nat)(u:Value),[Tz s1,Tz s2][i]?=some u->X2.cell? ((⟨X1.heap.size,0,none⟩:Addr).add i)=some u:=⟨_,rfl,(A5 _ _).alloc (A4 _) _,λi u hu=>FO _ _ _ _ hu⟩;have i3:ga<X1.heap.size:=by have:=a3.size;omega
     have k6:g9<X1.heap.size:=(a4.lt g9 rfl).2;have a5:=E4 a1 a0;have b3:F7 X2 w3.heap.size (Sz g9 ls.length c9) ls:=E4 a4 a0;have i4:F9 X2 ga 0 ss:=λi s hs=>(a0.cell (p:=⟨ga,0+i,none⟩) i3).trans (c4 i s hs);have i5:=c5.kept a0;have i6:w.grownBy X2 (some rb):=⟨a0.os.trans a3.os,a0.tape.trans a3.tape,a0.output.trans a3.output,B3 a3.size a0.size,λi hi hne=>(a0.block i (A2 hi a3.size)).trans (a3.block i hi hne)⟩;have b4:World.cell? X2 ⟨ga,k,none⟩=some (Tz s1)/\World.cell? X2 ⟨g9,j,none⟩=some (Tz s2):=⟨(a0.cell (p:=⟨ga,k,none⟩) i3).trans a6.1,(a0.cell (p:=⟨g9,j,none⟩) k6).trans a6.2⟩;have m6:=a0.size;have m9:=a3.size;refine E7 10 rfl (λK hK=>?_);go_simp;try rw[h0]
     refine E6 hK b4 ?_;clear hK K;clear a6 a1 a4 c4 c5 a3 h0 a0;refine E7 11 rfl (λK hK=>?_);refine Bm rfl _ _ 32 rfl w.heap.size 58 is _ 2 32 underlying32 j8 j0 j1 j2 rfl (by decide) u7 _ _ rfl a5 ⟨X1.heap.size,0,none⟩ 1 1 [Tz s1,Tz s2] rfl rfl h4 (by intro u hu;simp only[List.mem_cons,List.not_mem_nil,or_false] at hu;rcases hu with rfl|rfl<;>rfl) (by omega) (by unfold maxLen;omega) (by omega) (by omega) ?_;intro v7 X3 hown3 hgr3 hwh
     have f3:∀g,Value.ownBlock v7=some g->g≠ga:=λg hg e=>by
      rcases hwh g hg with h1|h1
      ·exact Hap.out g h1 e
      ·omega
     have b8:F7 X3 w3.heap.size (Sz g9 ls.length c9) ls:=E5 b3 hgr3 (E9 b3 a5 (by decide));have i7:F9 X3 ga 0 ss:=λi s hs=>hgr3.cell (i4 i s hs) (λe=>Hap.out ga e.symm rfl);have i8:=i5.own a5 hgr3 h8;have i9:=U7 i6 a5 hgr3 (A4 _);have k7:=hgr3.size
     have b1:X3.ownsRow w.heap.size 58 2 v7 (sl++[(⟨s1,s2⟩:Sl)]).length (F8 Sl.cells (sl++[⟨s1,s2⟩])):=by
      rw[AU,B0];simpa [F8,Sl.cells] using hown3
     have b5:NN v7:=by
      obtain⟨g,k1,e⟩:=I6 hown3 (by omega);exact⟨g,_,_,e⟩
     have d2:World.cell? X3 ⟨g9,j,none⟩=some (Tz s2):=by
      have h1:ls.length*1=ls.length:=Nat.mul_one _;have h2:=b8.cellAt j (by omega);have h3:=b3.cellAt j (by omega);rw[h2,← h3];exact b4.2
     have b9:World.cell? X3 ⟨ga,k,none⟩=some (Tz s1)/\World.cell? X3 ⟨g9,j,none⟩=some (Tz s2):=⟨hgr3.cell b4.1 (λe=>Hap.out ga e.symm rfl),d2⟩;obtain⟨g7,n7,m7,rfl⟩:=b5;refine E6 hK b9 ?_;clear hK K;refine E7 12 rfl (λK hK=>?_);go_simp;refine E6 hK b9 ?_;clear hK K;refine F0 (by kernel_rfl) ?_ _;clear a5 b3 i4 i5 i6 b4 h4 hown3 hgr3 hwh b9 d2;go_upto_region 11 with fail;have n0:j<=c9:=by omega
     have e6:j+1<=ls.length:=hj;have n1:IntKind.i64.wrap ((j:Int)+1)=(j:Int)+1:=by rw[IntKind.wrap_i64];omega
     have n2:(j:Int)+1<=(ls.length:Int):=by omega
     have n3:0<=(j:Int)+1:=by omega
     have n4:¬(ls.length:Int)<(j:Int)+1:=by omega
     obtain⟨o2,e4,k2⟩:∃o2:Nat,(if c9=j+1 then some (⟨g9,0,none⟩:Addr) else some ⟨g9,j+1,none⟩)=some ⟨g9,o2,none⟩/\(ls.length-(j+1)≠0->o2=j+1):=by
      by_cases h7:c9=j+1
      ·exact⟨0,by rw[if_pos h7],λh=>by omega⟩
      ·exact⟨j+1,by rw[if_neg h7],λ_=>rfl⟩
     have a1:=Bp b1;have a4:F7 X3.drew w3.heap.size (Sz g9 ls.length c9) ls:=Bp b8;have c4:F9 X3.drew ga 0 ss:=i7.drew;have c5:Rd X3.drew rb v len (N+k+1):=i8.drew;have a3:w.grownBy X3.drew (some rb):=S8 i9;have f2:X3.heap.size<=X3.drew.heap.size:=A4 _;refine F5 99 (λ_=>True) (by kernel_rfl) ?_;generalize X3.drew=Y1 at a1 a4 c4 c5 a3 f2 ⊢
     clear b1 b8 i7 i8 i9;refine D6 1 rfl trivial ?_;refine D6 2 rfl trivial ?_;refine D6 3 rfl trivial ?_;refine D6 5 rfl trivial ?_;refine D6 6 rfl trivial ?_;refine D6 7 rfl trivial ?_;refine D6 8 rfl trivial ?_;obtain⟨Y2,h6,e5,a0⟩:∃Y2,Y1.alloc (Kz [] 9)=Y2/\Y2.ownsRow Y1.heap.size 9 1 (Sz Y1.heap.size 0 0) 0 []/\Up Y1 Y2:=⟨_,rfl,EJ _ _ _,(A5 _ _).alloc (A4 _) _⟩;have j3:F9 Y1 g9 0 ls:=GM (g:=g9) (cap:=c9) a4 rfl;have d3:g9<Y1.heap.size:=(a4.lt g9 rfl).2;have j4:F9 Y2 g9 0 ls:=λi s hs=>(a0.cell (p:=⟨g9,0+i,none⟩) d3).trans (j3 i s hs);have d4:=S0 (j4.take j);refine E7 0 rfl (λK hK=>?_);go_simp;try rw[h6]
     refine E6 hK trivial ?_;clear hK K;clear h6;refine E7 4 rfl (λK hK=>?_);refine P4 rfl _ _ 23 rfl Y1.heap.size 9 ii _ 1 16 underlying23 hi f7 f8 f9 rfl (by decide) _ 0 [] rfl e5 (some ⟨g9,0,none⟩) j c9 ((ls.take j).map Value.string) rfl (by rw[B5,B8];omega) (λ_=>⟨_,rfl,d4⟩) (CJ _) (by unfold maxLen;omega) (by omega) a0.size ?_;intro v1 Y3 b1 hgr3 b5;have b6:Up Y1 Y3:=L5 a0 a0.size e5 hgr3 (A4 _);have k8:F9 Y3 g9 0 ls:=λi s hs=>(b6.cell (p:=⟨g9,0+i,none⟩) d3).trans (j3 i s hs)
     have d5:0<ls.length-(j+1)->∃d:Addr,(some ⟨g9,o2,none⟩:Option Addr)=some d/\∀(i:Nat)(u:Value),((ls.drop (j+1)).map Value.string)[i]?=some u->Y3.cell? (d.add i)=some u:=λhpp=>by
      refine⟨_,rfl,?_⟩;rw[k2 (by omega)];have:=S0 (k8.drop (j+1));rw[Nat.zero_add] at this;exact this
     have k9:=b5 ⟨_,_,_,rfl⟩;clear hgr3 b5 d4 j4;refine E6 hK trivial ?_;clear hK K;refine E7 9 rfl (λK hK=>?_);refine P4 rfl _ _ 23 rfl Y1.heap.size 9 ii _ 1 16 underlying23 hi f7 f8 f9 rfl (by decide) v1 _ _ rfl b1 (some ⟨g9,o2,none⟩) (ls.length-(j+1)) _ ((ls.drop (j+1)).map Value.string) rfl (by rw[B5,A9];omega) d5 (CJ _) (by unfold maxLen;omega) (by omega) b6.size ?_;intro v2 Y4 c3 hgr4 hnn4;have a2:Up Y1 Y4:=L5 b6 b6.size b1 hgr4 (A4 _)
     have f4:F7 Y4 w3.heap.size v2 (ls.take j++ls.drop (j+1)):=by
      have e1:(ls.take j++ls.drop (j+1)).length=0+j+(ls.length-(j+1)):=by rw[B0,B8,A9];omega
      have h5:=I8 c3 (show w3.heap.size<=Y1.heap.size by omega);unfold F7;rw[e1,List.map_append];simpa using h5
     have f5:(ls.take j++ls.drop (j+1)).length<=100:=by rw[B0,B8,A9];omega
     have d6:=E4 a1 a2;have f6:ga<Y1.heap.size:=by omega
     have l0:F9 Y4 ga 0 ss:=λi s hs=>(a2.cell (p:=⟨ga,0+i,none⟩) f6).trans (c4 i s hs);have d0:=c5.kept a2;have e2:w.grownBy Y4 (some rb):=⟨a2.os.trans a3.os,a2.tape.trans a3.tape,a2.output.trans a3.output,B3 a3.size a2.size,λi hi hne=>(a2.block i (A2 hi a3.size)).trans (a3.block i hi hne)⟩;have l1:=a2.size
     have Hz2:Hid (∀y∈sl++[(⟨s1,s2⟩:Sl)],y.s.size<=maxLen/\y.t.size<=maxLen):=λy hy=>by
      rcases D0.1 hy with h1|h1
      ·exact Hzy.out y h1
      ·obtain rfl:y=⟨s1,s2⟩:=by simpa using h1
       exact⟨Hs1.out,Hs2.out⟩
     have Hl2:Hid (∀s∈ls.take j++ls.drop (j+1),s.size<=maxLen):=λs hs=>by
      rcases D0.1 hs with h1|h1
      ·exact Hzl.out s (List.mem_of_mem_take h1)
      ·exact Hzl.out s (List.mem_of_mem_drop h1)
     obtain⟨g8,n8,m8,rfl⟩:=hnn4 k9;clear c3 hgr4 hnn4 b1 d5 b6 e5 a0;refine E6 hK trivial ?_;clear hK K;refine E7 10 rfl (λK hK=>?_);go_simp;refine E6 hK trivial ?_;clear hK K;refine F0 (by kernel_rfl) ?_ _;go_wp2_with fail;go_roundw
     case rel=>exact⟨k+1,sl++[⟨s1,s2⟩],ls.take j++ls.drop (j+1),by omega,by go_num,by simp;omega,⟨_,_,_,rfl⟩,d6,Hz2.out,f4,f5,Hl2.out,l0,by omega,d0,e2,by omega,λ_=>f3⟩
     case measure=>simp[intOf];omega
end Go.Proofs.YtmonodehegcfhaaGreatDoor
