/- A region that draws its order and holds an append to a row of the call's own; rows kept. -/
import Derived.Test.YtmonodehegcfhaaGreatDoorJ2
import Derived.Test.YtmonodehegcfhaaGreatDoorJ7
import Derived.Deep.RegionLaw
import Derived.Test.YtmonodehegcfhaaGreatDoorJ9
import Derived.Test.YtmonodehegcfhaaGreatDoorShelf
import Derived.Laws.AppendOwnNone
import Derived.Sort.OwnSorted
import Derived.Sort.Grow
import Derived.Lib.OwnBridge
set_option maxRecDepth 20000
set_option maxHeartbeats 4000000
namespace Go.Proofs.YtmonodehegcfhaaGreatDoor
open Go.Proofs.Tryz
open Go.RowKit
variable{base cap g j:Nat}{u:Value}{w w' w1:World}
theorem Mz(w:World)(p:Ph)(ty:TypeId)(h:p.cells[j]?=some u):(w.alloc (Kz [Tz p.nm,Iz p.k,Tz p.a,Tz p.b,Iz p.n,Iz p.wi,Tz p.t,Tz p.e] ty)).cell? ((⟨w.heap.size,0,none⟩:Addr).add j)=some u:=by
 have:=(Fi w p ty).1 j u h;rw[Addr.add_mid];exact this
theorem Lf(p:Ph):∀u∈p.cells,u.oneCell'=true:=λu hu=>by
 simp only[Ph.cells,List.mem_cons,List.not_mem_nil,or_false] at hu;rcases hu with rfl|rfl|rfl|rfl|rfl|rfl|rfl|rfl<;>rfl
theorem Ie(w:World)(ss:List BA)(hl:ss.length<=100):R8 (w.alloc (.cells (ss.map Value.string).toArray 9)) (Sz w.heap.size ss.length ss.length) ss :=
 ⟨w.heap.size,ss.length,rfl,K8 w ss 9,by simp,A4 _,by unfold maxLen;omega⟩
def Cd(p:Ph):List BA:=if p.k=2 then [p.a,p.b] else [p.a]
theorem OQ(p:Ph):F1 (Cd p)=Ex p:=by unfold Cd Ex F1;split<;>rfl
theorem Ys(s t:BA)(w:World):
  Calls prog 264 #[.agg #[Tz s,Tz t]] w λe w'=>(∃u,e=.returned u/\R8 w' u [s])/\Up w w':=by
 have hB:Up w (w.alloc (Kz [Tz s,Tz t] 282)):=(A5 _ _).alloc (A4 _) _;have hT:=Ie (w.alloc (Kz [Tz s,Tz t] 282)) [s] (by simp);rw[show (w.alloc (Kz [Tz s,Tz t] 282)).heap.size=w.heap.size+1 by simp] at hT;have a0:=D5 hB ((A5 _ _).alloc (A4 _) (.cells (([s]:List BA).map Value.string).toArray 9));go_in;go_wp2_with fail;go_ret;exact⟨⟨_,rfl,hT⟩,a0⟩
theorem Yt(s t:BA)(w:World):
  Calls prog 267 #[.agg #[Tz s,Tz t]] w λe w'=>(∃u,e=.returned u/\R8 w' u [s,t])/\Up w w':=by
 have hB:Up w (w.alloc (Kz [Tz s,Tz t] 284)):=(A5 _ _).alloc (A4 _) _;have hT:=Ie (w.alloc (Kz [Tz s,Tz t] 284)) [s,t] (by simp);rw[show (w.alloc (Kz [Tz s,Tz t] 284)).heap.size=w.heap.size+1 by simp] at hT;have a0:=D5 hB ((A5 _ _).alloc (A4 _) (.cells (([s,t]:List BA).map Value.string).toArray 9));go_in;go_wp2_with fail;go_ret;exact⟨⟨_,rfl,hT⟩,a0⟩
theorem Yu(s:BA)(n:Int)(w:World):
  Calls prog 269 #[.agg #[Tz s,Iz n]] w λe w'=>(∃u,e=.returned u/\R8 w' u [s])/\Up w w':=by
 have hB:Up w (w.alloc (Kz [Tz s,Iz n] 286)):=(A5 _ _).alloc (A4 _) _;have hT:=Ie (w.alloc (Kz [Tz s,Iz n] 286)) [s] (by simp);rw[show (w.alloc (Kz [Tz s,Iz n] 286)).heap.size=w.heap.size+1 by simp] at hT;have a0:=D5 hB ((A5 _ _).alloc (A4 _) (.cells (([s]:List BA).map Value.string).toArray 9));go_in;go_wp2_with fail;go_ret;exact⟨⟨_,rfl,hT⟩,a0⟩
theorem XA(s:BA)(w:World):
  Calls prog 270 #[.agg #[Tz s]] w λe w'=>(∃u,e=.returned u/\R8 w' u [s])/\Up w w':=by
 have hB:Up w (w.alloc (Kz [Tz s] 288)):=(A5 _ _).alloc (A4 _) _;have hT:=Ie (w.alloc (Kz [Tz s] 288)) [s] (by simp);rw[show (w.alloc (Kz [Tz s] 288)).heap.size=w.heap.size+1 by simp] at hT;have a0:=D5 hB ((A5 _ _).alloc (A4 _) (.cells (([s]:List BA).map Value.string).toArray 9));go_in;go_wp2_with fail;go_ret;exact⟨⟨_,rfl,hT⟩,a0⟩
theorem Yv(s:BA)(w:World):
  Calls prog 271 #[.agg #[Tz s]] w λe w'=>(∃u,e=.returned u/\R8 w' u [s])/\Up w w':=by
 have hB:Up w (w.alloc (Kz [Tz s] 289)):=(A5 _ _).alloc (A4 _) _;have hT:=Ie (w.alloc (Kz [Tz s] 289)) [s] (by simp);rw[show (w.alloc (Kz [Tz s] 289)).heap.size=w.heap.size+1 by simp] at hT;have a0:=D5 hB ((A5 _ _).alloc (A4 _) (.cells (([s]:List BA).map Value.string).toArray 9));go_in;go_wp2_with fail;go_ret;exact⟨⟨_,rfl,hT⟩,a0⟩
theorem KJ(p:Ph)(w:World)(hk:1<=p.k/\p.k<=5):
  Calls prog 147 #[.agg #[Tz p.nm,Iz p.k,Tz p.a,Tz p.b,Iz p.n,Iz p.wi,Tz p.t,Tz p.e]] w λe w'=>(∃u,e=.returned u/\R8 w' u (Cd p))/\Up w w':=by
 obtain⟨pn,pk,pa,pb,pm,pw,pt,pe⟩:=p;simp only at hk ⊢
 have a4:Up w (w.alloc (Kz [Tz pn,Iz pk,Tz pa,Tz pb,Iz pm,Iz pw,Tz pt,Tz pe] 43)):=(A5 _ _).alloc (A4 _) _;rcases (by omega:pk=1∨pk=2∨pk=3∨pk=4∨pk=5) with rfl|rfl|rfl|rfl|rfl
 ·go_in;go_wp2_with fail;refine (OI _ _ _ _ _ _ _ _).mono ?_;rintro e w1 ⟨rfl,a2⟩;have a0:=D5 a4 a2;go_wp2_with fail;refine (Ys _ _ _).mono ?_;rintro e w2 ⟨⟨u,rfl,hT⟩,a3⟩;have a1:=D5 a0 a3;go_wp2_with fail;go_ret;exact⟨⟨_,rfl,hT⟩,a1⟩
 ·go_in;go_wp2_with fail;refine (OJ _ _ _ _ _ _ _ _).mono ?_;rintro e w1 ⟨rfl,a2⟩;have a0:=D5 a4 a2;go_wp2_with fail;refine (Yt _ _ _).mono ?_;rintro e w2 ⟨⟨u,rfl,hT⟩,a3⟩;have a1:=D5 a0 a3;go_wp2_with fail;go_ret;exact⟨⟨_,rfl,hT⟩,a1⟩
 ·go_in;go_wp2_with fail;refine (OK _ _ _ _ _ _ _ _).mono ?_;rintro e w1 ⟨rfl,a2⟩;have a0:=D5 a4 a2;go_wp2_with fail;refine (Yu _ _ _).mono ?_;rintro e w2 ⟨⟨u,rfl,hT⟩,a3⟩;have a1:=D5 a0 a3;go_wp2_with fail;go_ret;exact⟨⟨_,rfl,hT⟩,a1⟩
 ·go_in;go_wp2_with fail;refine (Na _ _ _ _ _ _ _ _).mono ?_;rintro e w1 ⟨rfl,a2⟩;have a0:=D5 a4 a2;go_wp2_with fail;refine (XA _ _).mono ?_;rintro e w2 ⟨⟨u,rfl,hT⟩,a3⟩;have a1:=D5 a0 a3;go_wp2_with fail;go_ret;exact⟨⟨_,rfl,hT⟩,a1⟩
 ·go_in;go_wp2_with fail;refine (OL _ _ _ _ _ _ _ _).mono ?_;rintro e w1 ⟨rfl,a2⟩;have a0:=D5 a4 a2;go_wp2_with fail;refine (Yv _ _).mono ?_;rintro e w2 ⟨⟨u,rfl,hT⟩,a3⟩;have a1:=D5 a0 a3;go_wp2_with fail;go_ret;exact⟨⟨_,rfl,hT⟩,a1⟩
end Go.Proofs.YtmonodehegcfhaaGreatDoor
namespace Go.Proofs.YtmonodehegcfhaaGreatDoor
open Go.Proofs.Tryz
open Go.RowKit Go.Shelf
variable{base cap g j:Nat}{u:Value}{w w' w1:World}
theorem VY(n:Nat)(w:World)(h1:1<=n)(h2:n<=1000):
  Calls prog 184 #[Nz,Iz (n:Int)] w
   λe w'=>(∃cap,e=.returned (Sz w.heap.size 0 cap)/\w'.ownsRow w.heap.size 9 1 (Sz w.heap.size 0 cap) 0 [])/\Up w w':=by
 obtain⟨ii,hi,a0,a3,a1⟩:=info_parts V7;have h:=Any8.slices_Grow_grow Tryz.growS ii (Ez) hi a0 (by omega) none 0 0 n [] w (A4 _) (by omega) (by rw[a1];omega) (by omega) (by simp) (λ_=>rfl) (λa ha=>by cases ha);refine Calls.mono h ?_;rintro e w' ⟨rfl,rfl⟩;have a4:=grownCap_ge w (0+n) 0 9;have a2:=grownCap_le_maxLen w (0+n) 0 9 (by unfold maxLen;omega);refine⟨⟨_,rfl,rfl,.inr ⟨_,_,_,rfl,A4 _,heap_alloc_new _ _,Nat.zero_le _,a2,?_,by simp⟩⟩,(A5 _ _).drew.alloc (by simp) _⟩;have hz:(Value.string ⟨#[]⟩).cells.size=1:=rfl;rw[Array.size_append,Array.size_append,size_zeroCells,size_zeroCells,hz];simp only[List.size_toArray,List.length_nil];show 0+(0+n-0)*1+(grownCap w (0+n) 0 9-(0+n))*1=grownCap w (0+n) 0 9*1
 omega
theorem Sh(s1 s2 s3:List BA)(v1 v2 v3:Value)(sb:Nat)(w:World)(h1:R8 w v1 s1)(h2:Ac w v2 s2)(h3:Ac w v3 s3)(hsb:sb<w.heap.size)
  (e0:At w sb 0 v1) (e1:At w sb 1 v2) (e2:At w sb 2 v3) (hpos:0<s1.length) (hn:s1.length+s2.length+s3.length<=900) :
  Calls prog 152 #[Sz sb 3 3] w
   λe w'=>(∃u,e=.returned u/\w'.ownsRow w.heap.size 9 1 u (s1++s2++s3).length ((s1++s2++s3).map Value.string))/\Up w w':=by
 obtain⟨ii,hi,a7,a8,a9⟩:=info_parts V7;obtain⟨a1,c1,rfl⟩:=Ac.shape (.inr h1);obtain⟨a2,c2,rfl⟩:=h2.shape;obtain⟨a3,c3,rfl⟩:=h3.shape;go_in;go_wp2_with fail;go_loop [3,11] (λz i=>∃k t:Nat,i=.int .i64 (k:Int)/\z=.int .i64 (t:Int)/\((k=0/\t=0)∨(k=1/\t=s1.length)∨(k=2/\t=s1.length+s2.length)∨(k=3/\t=s1.length+s2.length+s3.length))) (λ_ i=>3-(intOf i).toNat)
 case atStart=>exact⟨0,0,rfl,rfl,.inl ⟨rfl,rfl⟩⟩
 case round =>
  obtain⟨k,t,rfl,rfl,b1⟩:=hrel;rcases b1 with⟨rfl,rfl⟩|⟨rfl,rfl⟩|⟨rfl,rfl⟩|⟨rfl,rfl⟩
  ·go_wp2_with fail;go_round
   case rel=>exact⟨1,s1.length,rfl,by go_num,.inr (.inl ⟨rfl,rfl⟩)⟩
   case measure=>simp[intOf]
  ·go_wp2_with fail;go_round
   case rel=>exact⟨2,s1.length+s2.length,rfl,by go_num,.inr (.inr (.inl ⟨rfl,rfl⟩))⟩
   case measure=>simp[intOf]
  ·go_wp2_with fail;go_round
   case rel=>exact⟨3,s1.length+s2.length+s3.length,rfl,by go_num,.inr (.inr (.inr ⟨rfl,rfl⟩))⟩
   case measure=>simp[intOf]
  ·go_wp2_with fail;have hN:(s1.length:Int)+(s2.length:Int)+(s3.length:Int)=((s1.length+s2.length+s3.length:Nat):Int):=by omega
   rw[hN];refine (VY (s1.length+s2.length+s3.length) w (by omega) (by omega)).mono ?_;rintro e w1 ⟨⟨cp,rfl,a0⟩,b0⟩;clear hN;go_wp2_with fail;go_loopw [6,27] (λu i w'=>∃(k:Nat)(xs:List BA),i=.int .i64 (k:Int)/\((k=0/\xs=[])∨(k=1/\xs=s1)∨(k=2/\xs=s1++s2)∨(k=3/\xs=s1++s2++s3))/\w'.ownsRow w.heap.size 9 1 u xs.length (xs.map Value.string)/\Up w w') (λ_ i _=>3-(intOf i).toNat)
   case atStart=>exact⟨0,[],rfl,.inl ⟨rfl,rfl⟩,a0,b0⟩
   case round =>
    clear a0 b0;obtain⟨k,xs,rfl,b2,a0,hB⟩:=hrel;rcases b2 with⟨rfl,hx⟩|⟨rfl,hx⟩|⟨rfl,hx⟩|⟨rfl,hx⟩<;>rw[hx] at a0<;>clear hx
    ·have a4:=(hB.cell (p:=⟨sb,0,none⟩) hsb).trans e0;rcases (show Ac w _ s1 from .inr h1) with⟨hv,hs⟩|⟨g,cc,hv,hS,hg,_,_⟩
     ·rw[hv] at a4;have Hs:Hid (s1=[]):=hs;clear hs hv;go_wp2_with (at_builtin;refine wpList_append_own_none rfl _ _ 23 rfl w.heap.size 9 ii 1 underlying23 hi u6 _ _ rfl a0 rfl ?_)
      go_roundw
      case rel=>exact⟨1,s1,rfl,.inr (.inl ⟨rfl,rfl⟩),by rw[Hs.out];exact a0,hB⟩
      case measure=>simp[intOf]
     ·cases hv
      have a5:F9 wr g 0 s1:=λi s hs=>(hB.cell (p:=⟨g,0+i,none⟩) hg).trans (hS i s hs);go_wp2_with (at_builtin;refine wpList_append_own _ rfl _ _ 23 rfl w.heap.size 9 ii _ 1 16 underlying23 hi a7 a8 a9 rfl (by decide) u6 _ _ rfl a0 ⟨g,0,none⟩ s1.length _ (s1.map Value.string) rfl (by simp) (S0 a5) (CJ _) (by unfold maxLen;first|omega|(simp;omega)) (by first|omega|(simp;omega)) hB.size ?_)
      intro v' w2 hown2 hgrow2 _;have a6:=M1 hB a0 hgrow2 (A4 _);clear a0 hgrow2 hB a4 a5;go_wp2_with fail;go_roundw
      case rel=>exact⟨1,s1,rfl,.inr (.inl ⟨rfl,rfl⟩),by simpa using hown2,a6⟩
      case measure=>simp[intOf]
    ·have a4:=(hB.cell (p:=⟨sb,1,none⟩) hsb).trans e1;rcases h2 with⟨hv,hs⟩|⟨g,cc,hv,hS,hg,_,_⟩
     ·rw[hv] at a4;have Hs:Hid (s2=[]):=hs;clear hs hv;go_wp2_with (at_builtin;refine wpList_append_own_none rfl _ _ 23 rfl w.heap.size 9 ii 1 underlying23 hi u6 _ _ rfl a0 rfl ?_)
      go_roundw
      case rel=>exact⟨2,s1++s2,rfl,.inr (.inr (.inl ⟨rfl,rfl⟩)),by rw[Hs.out,List.append_nil];exact a0,hB⟩
      case measure=>simp[intOf]
     ·cases hv
      have a5:F9 wr g 0 s2:=λi s hs=>(hB.cell (p:=⟨g,0+i,none⟩) hg).trans (hS i s hs);go_wp2_with (at_builtin;refine wpList_append_own _ rfl _ _ 23 rfl w.heap.size 9 ii _ 1 16 underlying23 hi a7 a8 a9 rfl (by decide) u6 _ _ rfl a0 ⟨g,0,none⟩ s2.length _ (s2.map Value.string) rfl (by simp) (S0 a5) (CJ _) (by unfold maxLen;first|omega|(simp;omega)) (by first|omega|(simp;omega)) hB.size ?_)
      intro v' w2 hown2 hgrow2 _;have a6:=M1 hB a0 hgrow2 (A4 _);clear a0 hgrow2 hB a4 a5;go_wp2_with fail;go_roundw
      case rel=>exact⟨2,s1++s2,rfl,.inr (.inr (.inl ⟨rfl,rfl⟩)),by simpa using hown2,a6⟩
      case measure=>simp[intOf]
    ·have a4:=(hB.cell (p:=⟨sb,2,none⟩) hsb).trans e2;rcases h3 with⟨hv,hs⟩|⟨g,cc,hv,hS,hg,_,_⟩
     ·rw[hv] at a4;have Hs:Hid (s3=[]):=hs;clear hs hv;go_wp2_with (at_builtin;refine wpList_append_own_none rfl _ _ 23 rfl w.heap.size 9 ii 1 underlying23 hi u6 _ _ rfl a0 rfl ?_)
      go_roundw
      case rel=>exact⟨3,s1++s2++s3,rfl,.inr (.inr (.inr ⟨rfl,rfl⟩)),by rw[Hs.out,List.append_nil];exact a0,hB⟩
      case measure=>simp[intOf]
     ·cases hv
      have a5:F9 wr g 0 s3:=λi s hs=>(hB.cell (p:=⟨g,0+i,none⟩) hg).trans (hS i s hs);go_wp2_with (at_builtin;refine wpList_append_own _ rfl _ _ 23 rfl w.heap.size 9 ii _ 1 16 underlying23 hi a7 a8 a9 rfl (by decide) u6 _ _ rfl a0 ⟨g,0,none⟩ s3.length _ (s3.map Value.string) rfl (by simp) (S0 a5) (CJ _) (by unfold maxLen;first|omega|(simp;omega)) (by first|omega|(simp;omega)) hB.size ?_)
      intro v' w2 hown2 hgrow2 _;have a6:=M1 hB a0 hgrow2 (A4 _);clear a0 hgrow2 hB a4 a5;go_wp2_with fail;go_roundw
      case rel=>exact⟨3,s1++s2++s3,rfl,.inr (.inr (.inr ⟨rfl,rfl⟩)),by simpa [Nat.add_assoc] using hown2,a6⟩
      case measure=>simp[intOf]
    ·go_wp2_with fail;go_ret;exact⟨⟨_,rfl,a0⟩,hB⟩
end Go.Proofs.YtmonodehegcfhaaGreatDoor
namespace Go.Proofs.YtmonodehegcfhaaGreatDoor
open Go.Proofs.Tryz
open Go.RowKit Go.Shelf Go.Sort
variable{base cap g j:Nat}{u:Value}{w w' w1:World}
theorem XC(s:BA):Value.string s=encStr s.toList:=by
 unfold encStr;rw[Go.ByteArray.toList_eq]
theorem IE(ss:List BA):ss.map Value.string=(F1 ss).map encStr:=by
 rw[F1,List.map_map];exact List.map_congr_left λs _=>XC s
def L0(ks:List Ae):List BA:=ks.map λl=>⟨l.toArray⟩
theorem Eg(ks:List Ae):F1 (L0 ks)=ks:=by
 rw[F1,L0,List.map_map]
 have:((λs:BA=>s.toList) ∘ λl:Ae=>(⟨l.toArray⟩:BA))=id:=by
  funext l;exact Cr l
 rw[this,List.map_id]
theorem JQ(ks:List Ae):ks.map encStr=(L0 ks).map Value.string:=by rw[IE,Eg]
theorem Ru{n nn q:Nat}{os:Array Obj}{ss:List Ae}(hown:w1.ownsRow w.heap.size 9 1 (Sz g n cap) n (ss.map encStr))(hbel:Up w w1)(hbg:w.heap.size<=g)(hlen:ss.length=n):
  (putRow encStr (Sort.ahead (grow (putRow encStr (Sort.ahead w1 nn) g 0 (ss.mergeSort λx y=>decide (x<=y)).toArray) os) q) g 0 (Lib.compact (ss.mergeSort λx y=>decide (x<=y))++List.replicate (n-(Lib.compact (ss.mergeSort λx y=>decide (x<=y))).length) []).toArray).ownsRow w.heap.size 9 1 (Sz g (uniq ss).length cap) (uniq ss).length ((uniq ss).map encStr)/\
   Up w (putRow encStr (Sort.ahead (grow (putRow encStr (Sort.ahead w1 nn) g 0 (ss.mergeSort λx y=>decide (x<=y)).toArray) os) q) g 0 (Lib.compact (ss.mergeSort λx y=>decide (x<=y))++List.replicate (n-(Lib.compact (ss.mergeSort λx y=>decide (x<=y))).length) []).toArray):=by
 have a0:(ss.mergeSort λx y=>decide (x<=y)).length=ss.length:=List.length_mergeSort ss;have a1:=Lib.compact_length_le (ss.mergeSort λx y=>decide (x<=y));subst hlen;rcases hown.2 with⟨h0,_⟩|⟨g',cap',cur,hv,hbase,hb,h1,h2,h3,h4⟩
 ·cases h0
 cases hv
 have hs:=ownsRow_sorted (n:=nn) (os:=os) (ts:=ss.mergeSort λx y=>decide (x<=y)) a0 hbase hb h1 h2 h3;have hc:=Lib.ownsRow_putRow (q:=q) (k:=(Lib.compact (ss.mergeSort λx y=>decide (x<=y))).length) (ys:=Lib.compact (ss.mergeSort λx y=>decide (x<=y))++List.replicate (ss.length-(Lib.compact (ss.mergeSort λx y=>decide (x<=y))).length) []) hs (by simp;omega) (by omega);rw[List.take_left] at hc;exact⟨hc,Lib.below_putRow (hbel.grown (grownBy_sorted _) hbel.size (λj hj=>by cases hj;exact hbase)) hbg⟩
theorem NV(p:Ph)(s2 s3:List BA)(v2 v3:Value)(w:World)(hk:1<=p.k/\p.k<=5)(h2:Ac w v2 s2)(h3:Ac w v3 s3)(hn:s2.length+s3.length<=800):
  Calls prog 107 #[.agg #[Tz p.nm,Iz p.k,Tz p.a,Tz p.b,Iz p.n,Iz p.wi,Tz p.t,Tz p.e],v2,v3] w
   λe w'=>(∃u,e=.returned u/\w'.ownsRow w.heap.size 9 1 u (Fx p (F1 s2) (F1 s3)).length ((L0 (Fx p (F1 s2) (F1 s3))).map Value.string))/\Up w w':=by
 have b4:Up w (w.alloc (Kz [Tz p.nm,Iz p.k,Tz p.a,Tz p.b,Iz p.n,Iz p.wi,Tz p.t,Tz p.e] 43)):=(A5 _ _).alloc (A4 _) _;obtain⟨a2,c2,rfl⟩:=h2.shape;obtain⟨a3,c3,rfl⟩:=h3.shape;go_in;go_wp2_with fail;refine (KJ p _ hk).mono ?_;rintro e w1 ⟨⟨u1,rfl,b0⟩,b7⟩;have b5:=D5 b4 b7;obtain⟨a1,c1,rfl⟩:=Ac.shape (.inr b0);have a9:RowKit.Below w1.heap.size w1 (w1.alloc (Kz [Vz a1 (Cd p).length c1,Vz a2 s2.length c2,Vz a3 s3.length c3] 23)):=(RowKit.Below.refl _ _).alloc (A4 _) _;have a4:=D5 b5 a9;have a8:0<(Cd p).length:=by unfold Cd;split<;>simp
 have c5:(Cd p).length<=2:=by unfold Cd;split<;>simp
 go_wp2_with fail;refine (Sh (Cd p) s2 s3 _ _ _ w1.heap.size _ (b0.up a9) (h2.up a4) (h3.up a4) (by simp) (by simp) (by simp) (by simp) a8 (by omega)).mono ?_;rintro e w2 ⟨⟨u2,rfl,a0⟩,b8⟩;have c6:=D5 a4 b8;have a0:=I8 a0 a4.size;rw[IE] at a0;obtain⟨n,hN⟩:∃n,n=(Cd p++s2++s3).length:=⟨_,rfl⟩;have a7:(F1 (Cd p++s2++s3)).length=n:=by rw[hN];simp[F1]
 rw[← hN] at a0;have c7:0<n:=by rw[hN];simp;omega
 have c9:n<=900:=by rw[hN];simp;omega
 have HK:Hid (uniq (F1 (Cd p++s2++s3))=Fx p (F1 s2) (F1 s3)):=by
  show _=_
  rw[Fx,← OQ];simp[F1]
 generalize F1 (Cd p++s2++s3)=ks at *;clear hN b0 h2 h3 b7 b8 a9 b5 a4 b4 a8 c5 hn;obtain⟨g,b1,rfl⟩:=I6 a0 c7;obtain⟨g',b9,hv,c0,b2,b3,c4,_,hH⟩:=Lib.holds_of_ownsRow a0 (by simp);cases hv
 unfold maxLen at c4;have a5:=Tryz.slices_Sort_string g 0 b1 ks w2 hH b2 (by omega);rw[a7] at a5;go_wp2_with fail;refine a5.mono ?_;rintro e w3 ⟨rfl,nn,os,rfl⟩;clear a5;have c8:(ks.mergeSort λx y=>decide (x<=y)).length=n:=by rw[List.length_mergeSort];exact a7
 have b6:Holds encStr (grow (putRow encStr (Sort.ahead w2 nn) g 0 (ks.mergeSort λx y=>decide (x<=y)).toArray) os) g 0 (ks.mergeSort λx y=>decide (x<=y)).toArray :=
  holds_grow encStr _ os g 0 _ (by simpa [putRow,mapBlock,Sort.ahead] using b2) (holds_putRow encStr _ g 0 _ _ (holds_ahead encStr w2 nn g 0 _ hH) (by simp))
 have a6:=Tryz.slices_Compact_string g 0 b1 (ks.mergeSort λx y=>decide (x<=y)) _ b6 (by omega) (by omega);rw[c8] at a6;clear b6 hH;go_wp2_with fail;refine a6.mono ?_;rintro e w4 ⟨rfl,q,rfl⟩;obtain⟨ho,hB⟩:=Ru (nn:=nn) (q:=q) (os:=os) a0 c6 c0 a7;rw[HK.out,JQ] at ho;clear a6;go_wp2_with fail;go_ret;refine⟨⟨_,rfl,?_⟩,hB⟩;have:=HK.out;unfold uniq at this;rw[this] at ho ⊢
 exact ho
end Go.Proofs.YtmonodehegcfhaaGreatDoor
namespace Go.Proofs.YtmonodehegcfhaaGreatDoor
open Go.Proofs.Tryz
open Go.RowKit
variable{base cap g j:Nat}{u:Value}{w w' w1:World}
abbrev VK:=Value×List Ae
def X9:VK:=(.slice none 0 0,[])
def Bx:List (BA×VK)->List Value
 | []=>[]
 | r::rest=>.string r.1::r.2.1::Bx rest
theorem OR(a b:List (BA×VK)):Bx (a++b)=Bx a++Bx b:=by
 induction a with
 | nil=>rfl
 | cons r rest ih=>simp[Bx,ih]
theorem OS(a:List (BA×VK)):(Bx a).length=a.length*2:=by
 induction a with
 | nil=>rfl
 | cons r rest ih=>simp[Bx,ih];omega
theorem OT:∀(a:List (BA×VK)) (i:Nat) (h:i<a.length),(Bx a)[i*2]?=some (Tz (a[i]).1)/\(Bx a)[i*2+1]?=some ((a[i]).2.1)
 | r::rest,0,_=>⟨rfl,rfl⟩
 | r::rest,i+1,h=>by
  have:=OT rest i (by simpa using h);rw[show (i+1)*2=i*2+1+1 by omega];simpa [Bx] using this
def Ct(w:World)(base:Nat)(x:VK):Prop:=w.ownsRow base 9 1 x.1 x.2.length ((L0 x.2).map Value.string)
theorem Ct.shape{x:VK}(h:Ct w base x):∃a n c,x.1=Vz a n c:=by
 rcases h.2 with⟨h0,_⟩|⟨g,cap,_,hv,_⟩
 ·exact⟨_,_,_,h0⟩
 ·exact⟨_,_,_,hv⟩
theorem Ct.up{x:VK}(h:Ct w base x)(hb:Up w w'):Ct w' base x:=E4 h hb
theorem OU(w:World)(base:Nat):Ct w base X9:=B9 _ _ _ _
theorem Ct.lst{x:VK}(h:Ct w base x):Ac w x.1 (L0 x.2):=by
 have hl:(L0 x.2).length=x.2.length:=by simp[L0]
 rcases h.2 with⟨h0,h1⟩|⟨g,cap,cur,hv,_⟩
 ·exact .inl ⟨h0,by cases hx:x.2 with
   | nil=>rfl
   | cons a r=>rw[hx] at h1;simp at h1⟩
 ·exact .inr (R8.own h hl ⟨g,cap,hv⟩)
def Ft(w:World)(base g:Nat)(rows:List (BA×VK)):Prop:=w.rangeAt g 0 (Bx rows)/\g<w.heap.size/\∀r∈rows,Ct w base r.2
theorem Ft.up{rows:List (BA×VK)}(h:Ft w base g rows)(hb:Up w w'):Ft w' base g rows :=
 ⟨λj v hv=>by rw[hb.cell (p:=⟨g,0+j,none⟩) h.2.1];exact h.1 j v hv,A2 h.2.1 hb.size,λr hr=>(h.2.2 r hr).up hb⟩
theorem Ft.cells{rows:List (BA×VK)}(h:Ft w base g rows)(i:Nat)(hi:i<rows.length):At w g (i*2) (Tz (rows[i]).1)/\At w g (i*2+1) ((rows[i]).2.1):=by
 obtain⟨h1,h2⟩:=OT rows i hi;exact⟨by simpa using h.1 _ _ h1,by simpa using h.1 _ _ h2⟩
theorem Ft.of_own{e:Nat}{rows:List (BA×VK)}(h:w.ownsRow base e 2 (Sz g rows.length cap) rows.length (Bx rows))(hv:∀r∈rows,Ct w base r.2):Ft w base g rows:=by
 refine⟨λj v hv=>?_,(h.lt g rfl).2,hv⟩;have hj:j<rows.length*2:=by rw[← OS];exact (A3.1 hv).1
 rw[Nat.zero_add,h.cellAt j hj];exact hv
theorem Ft.look{rows:List (BA×VK)}(h:Ft w base g rows)(nm:BA):Ct w base (look rows nm X9):=by
 unfold Go.Proofs.YtmonodehegcfhaaGreatDoor.look;split
 ·rename_i r hr;exact h.2.2 r (List.mem_of_find?_eq_some hr)
 ·exact OU _ _
def Dt(rows:List (BA×VK)):List (BA×List Ae):=rows.map λr=>(r.1,r.2.2)
theorem Fy(rows:List (BA×VK))(nm:BA):look (Dt rows) nm []=(look rows nm X9).2:=by
 unfold look Dt;rw[List.find?_map];have e:((λr:BA×List Ae=>r.1.toList==nm.toList) ∘ λr:BA×VK=>(r.1,r.2.2))=λr=>r.1.toList==nm.toList:=by funext r;rfl
 rw[e];cases rows.find? λr=>r.1.toList==nm.toList<;>rfl
theorem Rw(rows:List (BA×VK))(base g c:Nat)(nm:BA)(w:World)(hr:Ft w base g rows)(hn:rows.length<=1048576):
  Calls prog 108 #[Sz g rows.length c,Tz nm] w λe w'=>e=.returned (look rows nm X9).1/\Up w w':=by
 have hg:=hr.2.1;go_in;go_wp2;go_loopw [10] (λi w'=>∃k:Nat,k<=rows.length/\i=.int .i64 k/\Gt rows nm k/\Up w w') (λi _=>rows.length-(intOf i).toNat)
 case atStart=>exact⟨0,by omega,rfl,λ_ _ h=>by omega,A5 _ _⟩
 case round =>
  obtain⟨k,hk,rfl,a1,hB⟩:=hrel;have Hal:Hid (Gt rows nm k):=a1;clear a1;by_cases hp:k<rows.length
  ·obtain⟨c0,c1⟩:=hr.cells k hp;obtain⟨a,n,cc,a0⟩:=(hr.2.2 rows[k] (by simp)).shape;rw[a0] at c1;obtain⟨hc,hf⟩:=G9 hB;cases hq:((rows[k]).1.toList==nm.toList)
   ·have Hq:Hid (((rows[k]).1.toList==nm.toList)=false):=hq;go_wp2;go_roundw
    case rel=>exact⟨k+1,by omega,by go_num,LF Hal.out hp Hq.out,hB.alloc hB.size _⟩
    case measure=>simp[intOf];omega
   ·have Hq:Hid (look rows nm X9=(rows[k]).2):=Oo X9 Hal.out hp hq;have Hsh:Hid ((rows[k]).2.1=Vz a n cc):=a0;clear a0;go_wp2;go_ret;exact⟨by rw[Hq.out,Hsh.out];rfl,hB.alloc hB.size _⟩
  ·have Hq:Hid (look rows nm X9=X9):=MT X9 Hal.out hp;go_wp2;go_ret;exact⟨by rw[Hq.out];rfl,hB⟩
end Go.Proofs.YtmonodehegcfhaaGreatDoor
