/- The program's slots of a phase alone. -/
import Derived.Test.YtaffjphkobhagaaGreatDoorWc
import Derived.Test.YtaffjphkobhagaaGreatDoorShelf
import Derived.Laws.AppendOwnNone
import Derived.Sort.OwnSorted
import Derived.Lib.OwnBridge
set_option maxRecDepth 20000
set_option maxHeartbeats 4000000
namespace Go.Proofs.YtaffjphkobhagaaGreatDoor
open Proofs.Tryz
variable{os:Array Obj}{cap g:Nat}{w w' w1:World}
section
open Go.RowKit
theorem Iu(w:World)(ss:List BA)(hl:ss.length<=100):R9 (w.alloc (.cells (ss.map Value.string).toArray 9)) (Sy w.heap.size ss.length ss.length) ss :=
 ⟨w.heap.size,ss.length,rfl,DB w ss 9,dC,A3 _,by unfold maxLen;omega⟩
def AY(p:Ph):List BA:=if p.k=2 then [p.a,p.b] else [p.a]
theorem RH(p:Ph):D7 (AY p)=Ed p:=by unfold AY Ed D7;split<;>rfl
theorem Afu(s t:BA)(w:World):
  Calls prog 253 #[.agg #[Tz s,Tz t]] w λe w'=>(∃u,e=.returned u/\R9 w' u [s])/\Up w w':=by
 have hB:Up w (w.alloc (Kz [Tz s,Tz t] 273)):=(A4 _ _).alloc (A3 _) _;have hT:=Iu (w.alloc (Kz [Tz s,Tz t] 273)) [s] dC;rw[show (w.alloc (Kz [Tz s,Tz t] 273)).heap.size=w.heap.size+1 by simp] at hT;have a0:=D3 hB ((A4 _ _).alloc (A3 _) (.cells (([s]:List BA).map Value.string).toArray 9));go_in;go_wp2_with fail;go_ret;exact⟨⟨_,rfl,hT⟩,a0⟩
theorem Afv(s t:BA)(w:World):
  Calls prog 256 #[.agg #[Tz s,Tz t]] w λe w'=>(∃u,e=.returned u/\R9 w' u [s,t])/\Up w w':=by
 have hB:Up w (w.alloc (Kz [Tz s,Tz t] 275)):=(A4 _ _).alloc (A3 _) _;have hT:=Iu (w.alloc (Kz [Tz s,Tz t] 275)) [s,t] dC;rw[show (w.alloc (Kz [Tz s,Tz t] 275)).heap.size=w.heap.size+1 by simp] at hT;have a0:=D3 hB ((A4 _ _).alloc (A3 _) (.cells (([s,t]:List BA).map Value.string).toArray 9));go_in;go_wp2_with fail;go_ret;exact⟨⟨_,rfl,hT⟩,a0⟩
theorem Afw(s:BA)(n:Int)(w:World):
  Calls prog 258 #[.agg #[Tz s,Iz n]] w λe w'=>(∃u,e=.returned u/\R9 w' u [s])/\Up w w':=by
 have hB:Up w (w.alloc (Kz [Tz s,Iz n] 277)):=(A4 _ _).alloc (A3 _) _;have hT:=Iu (w.alloc (Kz [Tz s,Iz n] 277)) [s] dC;rw[show (w.alloc (Kz [Tz s,Iz n] 277)).heap.size=w.heap.size+1 by simp] at hT;have a0:=D3 hB ((A4 _ _).alloc (A3 _) (.cells (([s]:List BA).map Value.string).toArray 9));go_in;go_wp2_with fail;go_ret;exact⟨⟨_,rfl,hT⟩,a0⟩
theorem AdJ(s:BA)(w:World):
  Calls prog 259 #[.agg #[Tz s]] w λe w'=>(∃u,e=.returned u/\R9 w' u [s])/\Up w w':=by
 have hB:Up w (w.alloc (Kz [Tz s] 279)):=(A4 _ _).alloc (A3 _) _;have hT:=Iu (w.alloc (Kz [Tz s] 279)) [s] dC;rw[show (w.alloc (Kz [Tz s] 279)).heap.size=w.heap.size+1 by simp] at hT;have a0:=D3 hB ((A4 _ _).alloc (A3 _) (.cells (([s]:List BA).map Value.string).toArray 9));go_in;go_wp2_with fail;go_ret;exact⟨⟨_,rfl,hT⟩,a0⟩
theorem Afx(s:BA)(w:World):
  Calls prog 260 #[.agg #[Tz s]] w λe w'=>(∃u,e=.returned u/\R9 w' u [s])/\Up w w':=by
 have hB:Up w (w.alloc (Kz [Tz s] 280)):=(A4 _ _).alloc (A3 _) _;have hT:=Iu (w.alloc (Kz [Tz s] 280)) [s] dC;rw[show (w.alloc (Kz [Tz s] 280)).heap.size=w.heap.size+1 by simp] at hT;have a0:=D3 hB ((A4 _ _).alloc (A3 _) (.cells (([s]:List BA).map Value.string).toArray 9));go_in;go_wp2_with fail;go_ret;exact⟨⟨_,rfl,hT⟩,a0⟩
theorem Lx(p:Ph)(w:World)(hk:1<=p.k/\p.k<=5):
  Calls prog 142 #[.agg #[Tz p.nm,Iz p.k,Tz p.a,Tz p.b,Iz p.n,Iz p.wi,Tz p.t,Tz p.e]] w λe w'=>(∃u,e=.returned u/\R9 w' u (AY p))/\Up w w':=by
 obtain⟨pn,pk,pa,pb,pm,pw,pt,pe⟩:=p;simp only at hk ⊢
 have a4:Up w (w.alloc (Kz [Tz pn,Iz pk,Tz pa,Tz pb,Iz pm,Iz pw,Tz pt,Tz pe] 126)):=(A4 _ _).alloc (A3 _) _;rcases (by omega:pk=1\/pk=2\/pk=3\/pk=4\/pk=5) with rfl|rfl|rfl|rfl|rfl
 .go_in;go_wp2_with fail;refine (RC _ _ _ _ _ _ _ _).mono ?_;rintro e w1 ⟨rfl,a2⟩;have a0:=D3 a4 a2;go_wp2_with fail;refine (Afu _ _ _).mono ?_;rintro e w2 ⟨⟨u,rfl,hT⟩,a3⟩;have a1:=D3 a0 a3;go_wp2_with fail;go_ret;exact⟨⟨_,rfl,hT⟩,a1⟩
 .go_in;go_wp2_with fail;refine (RD _ _ _ _ _ _ _ _).mono ?_;rintro e w1 ⟨rfl,a2⟩;have a0:=D3 a4 a2;go_wp2_with fail;refine (Afv _ _ _).mono ?_;rintro e w2 ⟨⟨u,rfl,hT⟩,a3⟩;have a1:=D3 a0 a3;go_wp2_with fail;go_ret;exact⟨⟨_,rfl,hT⟩,a1⟩
 .go_in;go_wp2_with fail;refine (RE _ _ _ _ _ _ _ _).mono ?_;rintro e w1 ⟨rfl,a2⟩;have a0:=D3 a4 a2;go_wp2_with fail;refine (Afw _ _ _).mono ?_;rintro e w2 ⟨⟨u,rfl,hT⟩,a3⟩;have a1:=D3 a0 a3;go_wp2_with fail;go_ret;exact⟨⟨_,rfl,hT⟩,a1⟩
 .go_in;go_wp2_with fail;refine (Pd _ _ _ _ _ _ _ _).mono ?_;rintro e w1 ⟨rfl,a2⟩;have a0:=D3 a4 a2;go_wp2_with fail;refine (AdJ _ _).mono ?_;rintro e w2 ⟨⟨u,rfl,hT⟩,a3⟩;have a1:=D3 a0 a3;go_wp2_with fail;go_ret;exact⟨⟨_,rfl,hT⟩,a1⟩
 .go_in;go_wp2_with fail;refine (RF _ _ _ _ _ _ _ _).mono ?_;rintro e w1 ⟨rfl,a2⟩;have a0:=D3 a4 a2;go_wp2_with fail;refine (Afx _ _).mono ?_;rintro e w2 ⟨⟨u,rfl,hT⟩,a3⟩;have a1:=D3 a0 a3;go_wp2_with fail;go_ret;exact⟨⟨_,rfl,hT⟩,a1⟩
end
section
open Go.RowKit Go.Shelf
theorem Ab0(n:Nat)(w:World)(h1:1<=n)(h2:n<=1000):
  Calls prog 228 #[Nz,Iz (n:Int)] w
   λe w'=>(∃cap,e=.returned (Sy w.heap.size 0 cap)/\w'.ownsRow w.heap.size 9 1 (Sy w.heap.size 0 cap) 0 [])/\Up w w':=by
 obtain⟨ii,hi,a0,a3,a1⟩:=info_parts Av;have h:=Any8.slices_Grow_grow Tryz.growS ii (Ez) hi a0 oM none 0 0 n [] w (A3 _) oM (by rw[a1];omega) oM dC (λ_=>rfl) (λa ha=>by cases ha);refine Calls.mono h ?_;rintro e w' ⟨rfl,rfl⟩;have a4:=grownCap_ge w (0+n) 0 9;have a2:=grownCap_le_maxLen w (0+n) 0 9 (by unfold maxLen;omega);refine⟨⟨_,rfl,rfl,.inr ⟨_,_,_,rfl,A3 _,heap_alloc_new _ _,Nat.zero_le _,a2,?_,dC⟩⟩,(A4 _ _).drew.alloc dC _⟩;have hz:(Value.string ⟨#[]⟩).cells.size=1:=rfl;rw[Array.size_append,Array.size_append,size_zeroCells,size_zeroCells,hz];simp only[List.size_toArray,List.length_nil];show 0+(0+n-0)*1+(grownCap w (0+n) 0 9-(0+n))*1=grownCap w (0+n) 0 9*1
 omega
theorem WU(s1 s2 s3:List BA)(v1 v2 v3:Value)(sb:Nat)(w:World)(h1:R9 w v1 s1)(h2:CF w v2 s2)(h3:CF w v3 s3)(hsb:sb<w.heap.size)
  (e0:AS w sb 0 v1) (e1:AS w sb 1 v2) (e2:AS w sb 2 v3) (hpos:0<s1.length) (hn:s1.length+s2.length+s3.length<=900) :
  Calls prog 218 #[Sy sb 3 3] w
   λe w'=>(∃u,e=.returned u/\w'.ownsRow w.heap.size 9 1 u (s1++s2++s3).length ((s1++s2++s3).map Value.string))/\Up w w':=by
 obtain⟨ii,hi,a7,a8,a9⟩:=info_parts Av;obtain⟨a1,c1,rfl⟩:=CF.shape (.inr h1);obtain⟨a2,c2,rfl⟩:=h2.shape;obtain⟨a3,c3,rfl⟩:=h3.shape;go_in;go_wp2_with fail;go_loop [3,11] (λz i=>∃k t:Nat,i=.int .i64 (k:Int)/\z=.int .i64 (t:Int)/\((k=0/\t=0)\/(k=1/\t=s1.length)\/(k=2/\t=s1.length+s2.length)\/(k=3/\t=s1.length+s2.length+s3.length))) (λ_ i=>3-(intOf i).toNat)
 case atStart=>exact⟨0,0,rfl,rfl,.inl ⟨rfl,rfl⟩⟩
 case round =>
  obtain⟨k,t,rfl,rfl,b1⟩:=hrel;rcases b1 with⟨rfl,rfl⟩|⟨rfl,rfl⟩|⟨rfl,rfl⟩|⟨rfl,rfl⟩
  .go_wp2_with fail;go_round
   case rel=>exact⟨1,s1.length,rfl,mO,.inr (.inl ⟨rfl,rfl⟩)⟩
   case measure=>simp[intOf]
  .go_wp2_with fail;go_round
   case rel=>exact⟨2,s1.length+s2.length,rfl,mO,.inr (.inr (.inl ⟨rfl,rfl⟩))⟩
   case measure=>simp[intOf]
  .go_wp2_with fail;go_round
   case rel=>exact⟨3,s1.length+s2.length+s3.length,rfl,mO,.inr (.inr (.inr ⟨rfl,rfl⟩))⟩
   case measure=>simp[intOf]
  .go_wp2_with fail;have hN:(s1.length:Int)+(s2.length:Int)+(s3.length:Int)=((s1.length+s2.length+s3.length:Nat):Int):=oM
   rw[hN];refine (Ab0 (s1.length+s2.length+s3.length) w oM oM).mono ?_;rintro e w1 ⟨⟨cp,rfl,a0⟩,b0⟩;clear hN;go_wp2_with fail;(try dsimp only[Iz,Sy,Sx,Nz,Vz,Tz,Ez,Pz]);go_loopw [6,27] (λu i w'=>∃(k:Nat)(xs:List BA),i=.int .i64 (k:Int)/\((k=0/\xs=[])\/(k=1/\xs=s1)\/(k=2/\xs=s1++s2)\/(k=3/\xs=s1++s2++s3))/\w'.ownsRow w.heap.size 9 1 u xs.length (xs.map Value.string)/\Up w w') (λ_ i _=>3-(intOf i).toNat)
   case atStart=>exact⟨0,[],rfl,.inl ⟨rfl,rfl⟩,a0,b0⟩
   case round =>
    clear a0 b0;obtain⟨k,xs,rfl,b2,a0,hB⟩:=hrel;rcases b2 with⟨rfl,hx⟩|⟨rfl,hx⟩|⟨rfl,hx⟩|⟨rfl,hx⟩<;>rw[hx] at a0<;>clear hx
    .have a4:=(hB.cell (p:=⟨sb,0,none⟩) hsb).trans e0;rcases (show CF w _ s1 from .inr h1) with⟨hv,hs⟩|⟨g,cc,hv,hS,hg,_,_⟩
     .rw[hv] at a4;have Hs:Hid (s1=[]):=hs;clear hs hv;go_wp2_with (at_builtin;refine wpList_append_own_none rfl _ _ 22 rfl w.heap.size 9 ii 1 underlying22 hi u6 _ _ rfl a0 rfl ?_)
      go_roundw
      case rel=>exact⟨1,s1,rfl,.inr (.inl ⟨rfl,rfl⟩),by rw[Hs.out];exact a0,hB⟩
      case measure=>simp[intOf]
     .cases hv
      have a5:G0 wr g 0 s1:=λi s hs=>(hB.cell (p:=⟨g,0+i,none⟩) hg).trans (hS i s hs);go_wp2_with (at_builtin;refine wpList_append_own _ rfl _ _ 22 rfl w.heap.size 9 ii _ 1 16 underlying22 hi a7 a8 a9 rfl aS u6 _ _ rfl a0 ⟨g,0,none⟩ s1.length _ (s1.map Value.string) rfl dC (X6 a5) (GN _) (by unfold maxLen;first|omega|(simp;omega)) (by first|omega|(simp;omega)) hB.size ?_)
      intro v' w2 hown2 hgrow2 _;have a6:=S0 hB a0 hgrow2 (A3 _);clear a0 hgrow2 hB a4 a5;go_wp2_with fail;go_roundw
      case rel=>exact⟨1,s1,rfl,.inr (.inl ⟨rfl,rfl⟩),by simpa using hown2,a6⟩
      case measure=>simp[intOf]
    .have a4:=(hB.cell (p:=⟨sb,1,none⟩) hsb).trans e1;rcases h2 with⟨hv,hs⟩|⟨g,cc,hv,hS,hg,_,_⟩
     .rw[hv] at a4;have Hs:Hid (s2=[]):=hs;clear hs hv;go_wp2_with (at_builtin;refine wpList_append_own_none rfl _ _ 22 rfl w.heap.size 9 ii 1 underlying22 hi u6 _ _ rfl a0 rfl ?_)
      go_roundw
      case rel=>exact⟨2,s1++s2,rfl,.inr (.inr (.inl ⟨rfl,rfl⟩)),by rw[Hs.out,List.append_nil];exact a0,hB⟩
      case measure=>simp[intOf]
     .cases hv
      have a5:G0 wr g 0 s2:=λi s hs=>(hB.cell (p:=⟨g,0+i,none⟩) hg).trans (hS i s hs);go_wp2_with (at_builtin;refine wpList_append_own _ rfl _ _ 22 rfl w.heap.size 9 ii _ 1 16 underlying22 hi a7 a8 a9 rfl aS u6 _ _ rfl a0 ⟨g,0,none⟩ s2.length _ (s2.map Value.string) rfl dC (X6 a5) (GN _) (by unfold maxLen;first|omega|(simp;omega)) (by first|omega|(simp;omega)) hB.size ?_)
      intro v' w2 hown2 hgrow2 _;have a6:=S0 hB a0 hgrow2 (A3 _);clear a0 hgrow2 hB a4 a5;go_wp2_with fail;go_roundw
      case rel=>exact⟨2,s1++s2,rfl,.inr (.inr (.inl ⟨rfl,rfl⟩)),by simpa using hown2,a6⟩
      case measure=>simp[intOf]
    .have a4:=(hB.cell (p:=⟨sb,2,none⟩) hsb).trans e2;rcases h3 with⟨hv,hs⟩|⟨g,cc,hv,hS,hg,_,_⟩
     .rw[hv] at a4;have Hs:Hid (s3=[]):=hs;clear hs hv;go_wp2_with (at_builtin;refine wpList_append_own_none rfl _ _ 22 rfl w.heap.size 9 ii 1 underlying22 hi u6 _ _ rfl a0 rfl ?_)
      go_roundw
      case rel=>exact⟨3,s1++s2++s3,rfl,.inr (.inr (.inr ⟨rfl,rfl⟩)),by rw[Hs.out,List.append_nil];exact a0,hB⟩
      case measure=>simp[intOf]
     .cases hv
      have a5:G0 wr g 0 s3:=λi s hs=>(hB.cell (p:=⟨g,0+i,none⟩) hg).trans (hS i s hs);go_wp2_with (at_builtin;refine wpList_append_own _ rfl _ _ 22 rfl w.heap.size 9 ii _ 1 16 underlying22 hi a7 a8 a9 rfl aS u6 _ _ rfl a0 ⟨g,0,none⟩ s3.length _ (s3.map Value.string) rfl dC (X6 a5) (GN _) (by unfold maxLen;first|omega|(simp;omega)) (by first|omega|(simp;omega)) hB.size ?_)
      intro v' w2 hown2 hgrow2 _;have a6:=S0 hB a0 hgrow2 (A3 _);clear a0 hgrow2 hB a4 a5;go_wp2_with fail;go_roundw
      case rel=>exact⟨3,s1++s2++s3,rfl,.inr (.inr (.inr ⟨rfl,rfl⟩)),by simpa [Nat.add_assoc] using hown2,a6⟩
      case measure=>simp[intOf]
    .go_wp2_with fail;go_ret;exact⟨⟨_,rfl,a0⟩,hB⟩
end
section
open Go.RowKit Go.Shelf Go.Sort
theorem AdN(s:BA):Value.string s=encStr s.toList:=by
 unfold encStr;rw[Go.ByteArray.toList_eq]
theorem Jr(ss:List BA):ss.map Value.string=(D7 ss).map encStr:=by
 rw[D7,List.map_map];exact List.map_congr_left λs _=>AdN s
def F8(ks:List T6):List BA:=ks.map λl=>⟨l.toArray⟩
theorem DH(ks:List T6):D7 (F8 ks)=ks:=by
 rw[D7,F8,List.map_map]
 have:((λs:BA=>s.toList) ∘ λl:T6=>(⟨l.toArray⟩:BA))=id:=by
  funext l;exact Bw l
 rw[this,List.map_id]
theorem Km(ks:List T6):ks.map encStr=(F8 ks).map Value.string:=by rw[Jr,DH]
theorem RM{n nn q:Nat}{ss:List T6}(hown:w1.ownsRow w.heap.size 9 1 (Sy g n cap) n (ss.map encStr))(hbel:Up w w1)(hbg:w.heap.size<=g)(hlen:ss.length=n):
  (putRow encStr (Sort.ahead (grow (putRow encStr (Sort.ahead w1 nn) g 0 (ss.mergeSort λx y=>decide (x<=y)).toArray) os) q) g 0 (Lib.compact (ss.mergeSort λx y=>decide (x<=y))++List.replicate (n-(Lib.compact (ss.mergeSort λx y=>decide (x<=y))).length) []).toArray).ownsRow w.heap.size 9 1 (Sy g (uniq ss).length cap) (uniq ss).length ((uniq ss).map encStr)/\
   Up w (putRow encStr (Sort.ahead (grow (putRow encStr (Sort.ahead w1 nn) g 0 (ss.mergeSort λx y=>decide (x<=y)).toArray) os) q) g 0 (Lib.compact (ss.mergeSort λx y=>decide (x<=y))++List.replicate (n-(Lib.compact (ss.mergeSort λx y=>decide (x<=y))).length) []).toArray):=by
 have a0:(ss.mergeSort λx y=>decide (x<=y)).length=ss.length:=List.length_mergeSort ss;have a1:=Lib.compact_length_le (ss.mergeSort λx y=>decide (x<=y));subst hlen;rcases hown.2 with⟨h0,_⟩|⟨g',cap',cur,hv,hbase,hb,h1,h2,h3,h4⟩
 .cases h0
 cases hv
 have hs:=ownsRow_sorted (n:=nn) (os:=os) (ts:=ss.mergeSort λx y=>decide (x<=y)) a0 hbase hb h1 h2 h3;have hc:=Lib.ownsRow_putRow (q:=q) (k:=(Lib.compact (ss.mergeSort λx y=>decide (x<=y))).length) (ys:=Lib.compact (ss.mergeSort λx y=>decide (x<=y))++List.replicate (ss.length-(Lib.compact (ss.mergeSort λx y=>decide (x<=y))).length) []) hs gG oM;rw[List.take_left] at hc;exact⟨hc,Lib.below_putRow (hbel.grown (grownBy_sorted _) hbel.size (λj hj=>by cases hj;exact hbase)) hbg⟩
theorem PX(p:Ph)(s2 s3:List BA)(v2 v3:Value)(w:World)(hk:1<=p.k/\p.k<=5)(h2:CF w v2 s2)(h3:CF w v3 s3)(hn:s2.length+s3.length<=800):
  Calls prog 188 #[.agg #[Tz p.nm,Iz p.k,Tz p.a,Tz p.b,Iz p.n,Iz p.wi,Tz p.t,Tz p.e],v2,v3] w
   λe w'=>(∃u,e=.returned u/\w'.ownsRow w.heap.size 9 1 u (EX p (D7 s2) (D7 s3)).length ((F8 (EX p (D7 s2) (D7 s3))).map Value.string))/\Up w w':=by
 have b4:Up w (w.alloc (Kz [Tz p.nm,Iz p.k,Tz p.a,Tz p.b,Iz p.n,Iz p.wi,Tz p.t,Tz p.e] 126)):=(A4 _ _).alloc (A3 _) _;obtain⟨a2,c2,rfl⟩:=h2.shape;obtain⟨a3,c3,rfl⟩:=h3.shape;go_in;go_wp2_with fail;refine (Lx p _ hk).mono ?_;rintro e w1 ⟨⟨u1,rfl,b0⟩,b7⟩;have b5:=D3 b4 b7;obtain⟨a1,c1,rfl⟩:=CF.shape (.inr b0);have a9:RowKit.Below w1.heap.size w1 (w1.alloc (Kz [Vz a1 (AY p).length c1,Vz a2 s2.length c2,Vz a3 s3.length c3] 22)):=(RowKit.Below.refl _ _).alloc (A3 _) _;have a4:=D3 b5 a9;have a8:0<(AY p).length:=by unfold AY;split<;>simp
 have c6:(AY p).length<=2:=by unfold AY;split<;>simp
 go_wp2_with fail;refine (WU (AY p) s2 s3 _ _ _ w1.heap.size _ (b0.up a9) (h2.up a4) (h3.up a4) dC dC dC dC a8 oM).mono ?_;rintro e w2 ⟨⟨u2,rfl,a0⟩,b8⟩;have c7:=D3 a4 b8;have a0:=Dj a0 a4.size;rw[Jr] at a0;obtain⟨n,hN⟩:∃n,n=(AY p++s2++s3).length:=⟨_,rfl⟩;have a7:(D7 (AY p++s2++s3)).length=n:=by rw[hN];simp[D7]
 rw[← hN] at a0;have c8:0<n:=by rw[hN];simp;omega
 have d0:n<=900:=by rw[hN];simp;omega
 have HK:Hid (uniq (D7 (AY p++s2++s3))=EX p (D7 s2) (D7 s3)):=by
  show _=_
  rw[EX,← RH];simp[D7]
 generalize D7 (AY p++s2++s3)=ks at *;clear hN b0 h2 h3 b7 b8 a9 b5 a4 b4 a8 c6 hn;obtain⟨g,b1,rfl⟩:=AG a0 c8;obtain⟨g',b9,hv,c4,b2,b3,c5,_,hH⟩:=Lib.holds_of_ownsRow a0 dC;cases hv
 unfold maxLen at c5;have a5:=Tryz.slices_Sort_string g 0 b1 ks w2 hH b2 oM;rw[a7] at a5;go_wp2_with fail;refine a5.mono ?_;rintro e w3 ⟨rfl,nn,os,rfl⟩;clear a5;have c9:(ks.mergeSort λx y=>decide (x<=y)).length=n:=by rw[List.length_mergeSort];exact a7
 have b6:Holds encStr (grow (putRow encStr (Sort.ahead w2 nn) g 0 (ks.mergeSort λx y=>decide (x<=y)).toArray) os) g 0 (ks.mergeSort λx y=>decide (x<=y)).toArray :=
  holds_grow encStr _ os g 0 _ (by simpa [putRow,mapBlock,Sort.ahead] using b2) (holds_putRow encStr _ g 0 _ _ (holds_ahead encStr w2 nn g 0 _ hH) dC)
 have a6:=Tryz.slices_Compact_string g 0 b1 (ks.mergeSort λx y=>decide (x<=y)) _ b6 oM oM;rw[c9] at a6;clear b6 hH;go_wp2_with fail;refine a6.mono ?_;rintro e w4 ⟨rfl,q,rfl⟩;obtain⟨ho,hB⟩:=RM (nn:=nn) (q:=q) (os:=os) a0 c7 c4 a7;rw[HK.out,Km] at ho;clear a6;go_wp2_with fail;go_ret;refine⟨⟨_,rfl,?_⟩,hB⟩;have:=HK.out;unfold uniq at this;rw[this] at ho ⊢
 exact ho
end
section
open Go.RowKit
abbrev VK:=Value×List T6
def P3:VK:=(.slice none 0 0,[])
def Am:List (BA×VK)->List Value
 | []=>[]
 | r::rest=>.string r.1::r.2.1::Am rest
theorem RN(a b:List (BA×VK)):Am (a++b)=Am a++Am b:=by
 induction a with
 | nil=>rfl
 | cons r rest ih=>simp[Am,ih]
theorem RO(a:List (BA×VK)):(Am a).length=a.length*2:=by
 induction a with
 | nil=>rfl
 | cons r rest ih=>simp[Am,ih];omega
theorem RP:∀(a:List (BA×VK)) (i:Nat) (h:i<a.length),(Am a)[i*2]?=some (Tz (a[i]).1)/\(Am a)[i*2+1]?=some ((a[i]).2.1)
 | r::rest,0,_=>⟨rfl,rfl⟩
 | r::rest,i+1,h=>by
  have:=RP rest i (by simpa using h);rw[show (i+1)*2=i*2+1+1 by omega];simpa [Am] using this
def BD(w:World)(base:Nat)(x:VK):Prop:=w.ownsRow base 9 1 x.1 x.2.length ((F8 x.2).map Value.string)
theorem BD.shape{base:Nat}{x:VK}(h:BD w base x):∃a n c,x.1=Vz a n c:=by
 rcases h.2 with⟨h0,_⟩|⟨g,cap,_,hv,_⟩
 .exact⟨_,_,_,h0⟩
 .exact⟨_,_,_,hv⟩
theorem BD.up{base:Nat}{x:VK}(h:BD w base x)(hb:Up w w'):BD w' base x:=R8 h hb
theorem RQ(w:World)(base:Nat):BD w base P3:=B9 _ _ _ _
theorem BD.lst{base:Nat}{x:VK}(h:BD w base x):CF w x.1 (F8 x.2):=by
 have hl:(F8 x.2).length=x.2.length:=by simp[F8]
 rcases h.2 with⟨h0,h1⟩|⟨g,cap,cur,hv,_⟩
 .exact .inl ⟨h0,by cases hx:x.2 with
   | nil=>rfl
   | cons a r=>rw[hx] at h1;simp at h1⟩
 .exact .inr (R9.own h hl ⟨g,cap,hv⟩)
def EV(w:World)(base g:Nat)(rows:List (BA×VK)):Prop:=w.rangeAt g 0 (Am rows)/\g<w.heap.size/\∀r∈rows,BD w base r.2
theorem EV.up{base:Nat}{rows:List (BA×VK)}(h:EV w base g rows)(hb:Up w w'):EV w' base g rows :=
 ⟨λj v hv=>by rw[hb.cell (p:=⟨g,0+j,none⟩) h.2.1];exact h.1 j v hv,A1 h.2.1 hb.size,λr hr=>(h.2.2 r hr).up hb⟩
theorem EV.cells{base:Nat}{rows:List (BA×VK)}(h:EV w base g rows)(i:Nat)(hi:i<rows.length):AS w g (i*2) (Tz (rows[i]).1)/\AS w g (i*2+1) ((rows[i]).2.1):=by
 obtain⟨h1,h2⟩:=RP rows i hi;exact⟨by simpa using h.1 _ _ h1,by simpa using h.1 _ _ h2⟩
theorem EV.of_own{base e:Nat}{rows:List (BA×VK)}(h:w.ownsRow base e 2 (Sy g rows.length cap) rows.length (Am rows))(hv:∀r∈rows,BD w base r.2):EV w base g rows:=by
 refine⟨λj v hv=>?_,(h.lt g rfl).2,hv⟩;have hj:j<rows.length*2:=by rw[← RO];exact (A2.1 hv).1
 rw[Nat.zero_add,h.cellAt j hj];exact hv
theorem EV.look{base:Nat}{rows:List (BA×VK)}(h:EV w base g rows)(nm:BA):BD w base (look rows nm P3):=by
 unfold Go.Proofs.YtaffjphkobhagaaGreatDoor.look;split
 .rename_i r hr;exact h.2.2 r (List.mem_of_find?_eq_some hr)
 .exact RQ _ _
def CR(rows:List (BA×VK)):List (BA×List T6):=rows.map λr=>(r.1,r.2.2)
theorem Fk(rows:List (BA×VK))(nm:BA):look (CR rows) nm []=(look rows nm P3).2:=by
 unfold look CR;rw[List.find?_map];have e:((λr:BA×List T6=>r.1.toList==nm.toList) ∘ λr:BA×VK=>(r.1,r.2.2))=λr=>r.1.toList==nm.toList:=by funext r;rfl
 rw[e];cases rows.find? λr=>r.1.toList==nm.toList<;>rfl
theorem Vx(rows:List (BA×VK))(base g c:Nat)(nm:BA)(w:World)(hr:EV w base g rows)(hn:rows.length<=1048576):
  cU prog 189 #[Sy g rows.length c,Tz nm] w (look rows nm P3).1:=by
 have hg:=hr.2.1;delta cU;go_in;go_wp2;(try dsimp only[Iz,Sy,Sx,Nz,Vz,Tz,Ez,Pz]);go_loopw [10] (λi w'=>∃k:Nat,k<=rows.length/\i=.int .i64 k/\Gw rows nm k/\Up w w') (λi _=>rows.length-(intOf i).toNat)
 case atStart=>exact⟨0,oM,rfl,λ_ _ h=>oM,A4 _ _⟩
 case round =>
  obtain⟨k,hk,rfl,a1,hB⟩:=hrel;have Hal:Hid (Gw rows nm k):=a1;clear a1;by_cases hp:k<rows.length
  .obtain⟨c0,c1⟩:=hr.cells k hp;obtain⟨a,n,cc,a0⟩:=(hr.2.2 rows[k] dC).shape;rw[a0] at c1;obtain⟨hc,hf⟩:=E2 hB;cases hq:((rows[k]).1.toList==nm.toList)
   .have Hq:Hid (((rows[k]).1.toList==nm.toList)=false):=hq;go_wp2;go_roundw
    case rel=>exact⟨k+1,oM,mO,MA Hal.out hp Hq.out,hB.alloc hB.size _⟩
    case measure=>simp[intOf];omega
   .have Hq:Hid (look rows nm P3=(rows[k]).2):=QR P3 Hal.out hp hq;have Hsh:Hid ((rows[k]).2.1=Vz a n cc):=a0;clear a0;go_wp2;go_ret;exact⟨by rw[Hq.out,Hsh.out];rfl,hB.alloc hB.size _⟩
  .have Hq:Hid (look rows nm P3=P3):=OM P3 Hal.out hp;go_wp2;go_ret;exact⟨by rw[Hq.out];rfl,hB⟩
theorem TY(nm:BA)(k:Int)(a b:BA)(n wi:Int)(t e:BA)(w:World):
  Calls prog 129 #[.agg #[Tz nm,Iz k,Tz a,Tz b,Iz n,Iz wi,Tz t,Tz e]] w λe' w'=>e'=.returned (.agg #[Tz nm,Iz k,Tz a,Tz b,Iz n,Iz wi,Tz t,Tz e])/\Up w w':=by
 go_in;go_wp2;go_returns
 exact⟨rfl,by go_grown⟩
theorem TZ(nm:BA)(k:Int)(a b:BA)(n wi:Int)(t e:BA)(l:Int)(w:World)(hl:0<=l)(hl':l<=1048576)(hnm:nm.size<=maxLen)(ha:a.size<=maxLen)(hb:b.size<=maxLen)(ht:t.size<=maxLen)(he:e.size<=maxLen):
  Calls prog 119 #[.agg #[Tz nm,Iz k,Tz a,Tz b,Iz n,Iz wi,Tz t,Tz e],Iz l] w
   λe' w'=>(∃x:Int,e'=.returned (Iz x)/\x<=l/\-1<=x/\(0<=x->nm.size+a.size+b.size+t.size+e.size<=l))/\Up w w':=by
 unfold maxLen at *;go_in;go_wp2
 all_goals
  go_ret;exact⟨⟨_,rfl,oM,oM,oM⟩,(A4 _ _).alloc (A3 _) _⟩
end
end Go.Proofs.YtaffjphkobhagaaGreatDoor
