/- The program's slots of a phase alone. -/
import Derived.Test.YtgecdacgmehmbaaGreatDoorJ8
import Derived.Test.YtgecdacgmehmbaaGreatDoorJ10
import Derived.Test.YtgecdacgmehmbaaGreatDoorShelf
import Derived.Laws.AppendOwnNone
import Derived.Sort.OwnSorted
import Derived.Sort.Grow
import Derived.Lib.OwnBridge
set_option maxRecDepth 20000
set_option maxHeartbeats 4000000
namespace Go.Proofs.YtgecdacgmehmbaaGreatDoor
open Go.RowKit
theorem Ab4 (w:World) (ss:List ByteArray) (hl:ss.length<=100):Txt (w.alloc (.cells (ss.map Value.string).toArray 9)) (.slice (some ⟨w.heap.size,0,none⟩) ss.length ss.length) ss :=
 ⟨w.heap.size,ss.length,rfl,Ac8 w ss 9,by simp,A3 _,by unfold maxLen;omega⟩
def ownB (p:Ph):List ByteArray:=if p.k=2 then [p.a,p.b] else [p.a]
theorem Ago (p:Ph):keys (ownB p)=ownK p:=by unfold ownB ownK keys;split<;>rfl
theorem slFill (s t:ByteArray) (w:World) :
  Calls Tryz.prog 274 #[.agg #[.string s,.string t]] w λe w'=>(∃u,e=.returned u/\Txt w' u [s])/\Below w.heap.size w w':=by
 have hB:Below w.heap.size w (w.alloc (.cells #[.string s,.string t] 277)):=(A4 _ _).alloc (A3 _) _;have hT:=Ab4 (w.alloc (.cells #[.string s,.string t] 277)) [s] (by simp);rw[show (w.alloc (.cells #[.string s,.string t] 277)).heap.size=w.heap.size+1 by simp] at hT;have hB1:=D5 hB ((A4 _ _).alloc (A3 _) (.cells (([s]:List ByteArray).map Value.string).toArray 9));go_enter Tryz.func274,Tryz.ntmps274
 go_wp2_with fail
 go_ret
 exact⟨⟨_,rfl,hT⟩,hB1⟩
theorem slMove (s t:ByteArray) (w:World) :
  Calls Tryz.prog 277 #[.agg #[.string s,.string t]] w λe w'=>(∃u,e=.returned u/\Txt w' u [s,t])/\Below w.heap.size w w':=by
 have hB:Below w.heap.size w (w.alloc (.cells #[.string s,.string t] 279)):=(A4 _ _).alloc (A3 _) _;have hT:=Ab4 (w.alloc (.cells #[.string s,.string t] 279)) [s,t] (by simp);rw[show (w.alloc (.cells #[.string s,.string t] 279)).heap.size=w.heap.size+1 by simp] at hT;have hB1:=D5 hB ((A4 _ _).alloc (A3 _) (.cells (([s,t]:List ByteArray).map Value.string).toArray 9));go_enter Tryz.func277,Tryz.ntmps277
 go_wp2_with fail
 go_ret
 exact⟨⟨_,rfl,hT⟩,hB1⟩
theorem slHold (s:ByteArray) (n:Int) (w:World) :
  Calls Tryz.prog 279 #[.agg #[.string s,.int .i64 n]] w λe w'=>(∃u,e=.returned u/\Txt w' u [s])/\Below w.heap.size w w':=by
 have hB:Below w.heap.size w (w.alloc (.cells #[.string s,.int .i64 n] 281)):=(A4 _ _).alloc (A3 _) _;have hT:=Ab4 (w.alloc (.cells #[.string s,.int .i64 n] 281)) [s] (by simp);rw[show (w.alloc (.cells #[.string s,.int .i64 n] 281)).heap.size=w.heap.size+1 by simp] at hT;have hB1:=D5 hB ((A4 _ _).alloc (A3 _) (.cells (([s]:List ByteArray).map Value.string).toArray 9));go_enter Tryz.func279,Tryz.ntmps279
 go_wp2_with fail
 go_ret
 exact⟨⟨_,rfl,hT⟩,hB1⟩
theorem AmP (s:ByteArray) (w:World) :
  Calls Tryz.prog 280 #[.agg #[.string s]] w λe w'=>(∃u,e=.returned u/\Txt w' u [s])/\Below w.heap.size w w':=by
 have hB:Below w.heap.size w (w.alloc (.cells #[.string s] 283)):=(A4 _ _).alloc (A3 _) _;have hT:=Ab4 (w.alloc (.cells #[.string s] 283)) [s] (by simp);rw[show (w.alloc (.cells #[.string s] 283)).heap.size=w.heap.size+1 by simp] at hT;have hB1:=D5 hB ((A4 _ _).alloc (A3 _) (.cells (([s]:List ByteArray).map Value.string).toArray 9));go_enter Tryz.func280,Tryz.ntmps280
 go_wp2_with fail
 go_ret
 exact⟨⟨_,rfl,hT⟩,hB1⟩
theorem slTest (s:ByteArray) (w:World) :
  Calls Tryz.prog 281 #[.agg #[.string s]] w λe w'=>(∃u,e=.returned u/\Txt w' u [s])/\Below w.heap.size w w':=by
 have hB:Below w.heap.size w (w.alloc (.cells #[.string s] 284)):=(A4 _ _).alloc (A3 _) _;have hT:=Ab4 (w.alloc (.cells #[.string s] 284)) [s] (by simp);rw[show (w.alloc (.cells #[.string s] 284)).heap.size=w.heap.size+1 by simp] at hT;have hB1:=D5 hB ((A4 _ _).alloc (A3 _) (.cells (([s]:List ByteArray).map Value.string).toArray 9));go_enter Tryz.func281,Tryz.ntmps281
 go_wp2_with fail
 go_ret
 exact⟨⟨_,rfl,hT⟩,hB1⟩
theorem Adj (p:Ph) (w:World) (hk:1<=p.k/\p.k<=5) :
  Calls Tryz.prog 156 #[.agg #[.string p.nm,.int .i64 p.k,.string p.a,.string p.b,.int .i64 p.n,.int .i64 p.wi,.string p.t,.string p.e]] w λe w'=>(∃u,e=.returned u/\Txt w' u (ownB p))/\Below w.heap.size w w':=by
 obtain⟨pn,pk,pa,pb,pm,pw,pt,pe⟩:=p;simp only at hk ⊢
 have hBx:Below w.heap.size w (w.alloc (.cells #[.string pn,.int .i64 pk,.string pa,.string pb,.int .i64 pm,.int .i64 pw,.string pt,.string pe] 73)):=(A4 _ _).alloc (A3 _) _;rcases (by omega:pk=1∨pk=2∨pk=3∨pk=4∨pk=5) with rfl|rfl|rfl|rfl|rfl
 ·go_enter Tryz.func156,Tryz.ntmps156
  go_wp2_with fail
  refine (Agd _ _ _ _ _ _ _ _).mono ?_;rintro e w1 ⟨rfl,hb1⟩;have hB1:=D5 hBx hb1;go_wp2_with fail
  refine (slFill _ _ _).mono ?_;rintro e w2 ⟨⟨u,rfl,hT⟩,hb2⟩;have hB2:=D5 hB1 hb2;go_wp2_with fail
  go_ret
  exact⟨⟨_,rfl,hT⟩,hB2⟩
 ·go_enter Tryz.func156,Tryz.ntmps156
  go_wp2_with fail
  refine (Age _ _ _ _ _ _ _ _).mono ?_;rintro e w1 ⟨rfl,hb1⟩;have hB1:=D5 hBx hb1;go_wp2_with fail
  refine (slMove _ _ _).mono ?_;rintro e w2 ⟨⟨u,rfl,hT⟩,hb2⟩;have hB2:=D5 hB1 hb2;go_wp2_with fail
  go_ret
  exact⟨⟨_,rfl,hT⟩,hB2⟩
 ·go_enter Tryz.func156,Tryz.ntmps156
  go_wp2_with fail
  refine (Agf _ _ _ _ _ _ _ _).mono ?_;rintro e w1 ⟨rfl,hb1⟩;have hB1:=D5 hBx hb1;go_wp2_with fail
  refine (slHold _ _ _).mono ?_;rintro e w2 ⟨⟨u,rfl,hT⟩,hb2⟩;have hB2:=D5 hB1 hb2;go_wp2_with fail
  go_ret
  exact⟨⟨_,rfl,hT⟩,hB2⟩
 ·go_enter Tryz.func156,Tryz.ntmps156
  go_wp2_with fail
  refine (AeT _ _ _ _ _ _ _ _).mono ?_;rintro e w1 ⟨rfl,hb1⟩;have hB1:=D5 hBx hb1;go_wp2_with fail
  refine (AmP _ _).mono ?_;rintro e w2 ⟨⟨u,rfl,hT⟩,hb2⟩;have hB2:=D5 hB1 hb2;go_wp2_with fail
  go_ret
  exact⟨⟨_,rfl,hT⟩,hB2⟩
 ·go_enter Tryz.func156,Tryz.ntmps156
  go_wp2_with fail
  refine (Agg _ _ _ _ _ _ _ _).mono ?_;rintro e w1 ⟨rfl,hb1⟩;have hB1:=D5 hBx hb1;go_wp2_with fail
  refine (slTest _ _).mono ?_;rintro e w2 ⟨⟨u,rfl,hT⟩,hb2⟩;have hB2:=D5 hB1 hb2;go_wp2_with fail
  go_ret
  exact⟨⟨_,rfl,hT⟩,hB2⟩
end Go.Proofs.YtgecdacgmehmbaaGreatDoor
namespace Go.Proofs.YtgecdacgmehmbaaGreatDoor
open Go.RowKit Go.Shelf
theorem AlO (n:Nat) (w:World) (h1:1<=n) (h2:n<=1000) :
  Calls Tryz.prog 201 #[.slice none 0 0,.int .i64 (n:Int)] w
   λe w'=>(∃cap,e=.returned (.slice (some ⟨w.heap.size,0,none⟩) 0 cap)/\w'.ownsRow w.heap.size 9 1 (.slice (some ⟨w.heap.size,0,none⟩) 0 cap) 0 [])/\Below w.heap.size w w':=by
 obtain⟨ii,hi,iz0,iz1,iz2⟩:=info_parts L9;have h:=Any8.slices_Grow_grow Tryz.growS ii (.string ⟨#[]⟩) hi iz0 (by omega) none 0 0 n [] w (A3 _) (by omega) (by rw[iz2];omega) (by omega) (by simp) (λ_=>rfl) (λa ha=>by cases ha);refine Calls.mono h ?_;rintro e w' ⟨rfl,rfl⟩;have hge:=grownCap_ge w (0+n) 0 9;have hle:=grownCap_le_maxLen w (0+n) 0 9 (by unfold maxLen;omega);refine⟨⟨_,rfl,rfl,.inr ⟨_,_,_,rfl,A3 _,heap_alloc_new _ _,Nat.zero_le _,hle,?_,by simp⟩⟩,(A4 _ _).drew.alloc (by simp) _⟩;have hz:(Value.string ⟨#[]⟩).cells.size=1:=rfl;rw[Array.size_append,Array.size_append,size_zeroCells,size_zeroCells,hz];simp only[List.size_toArray,List.length_nil];show 0+(0+n-0)*1+(grownCap w (0+n) 0 9-(0+n))*1=grownCap w (0+n) 0 9*1
 omega
theorem AiM (s1 s2 s3:List ByteArray) (v1 v2 v3:Value) (sb:Nat) (w:World) (h1:Txt w v1 s1) (h2:Lst w v2 s2) (h3:Lst w v3 s3) (hsb:sb<w.heap.size)
  (e0:w.cell? ⟨sb,0,none⟩=some v1) (e1:w.cell? ⟨sb,1,none⟩=some v2) (e2:w.cell? ⟨sb,2,none⟩=some v3) (hpos:0<s1.length) (hn:s1.length+s2.length+s3.length<=900) :
  Calls Tryz.prog 176 #[.slice (some ⟨sb,0,none⟩) 3 3] w
   λe w'=>(∃u,e=.returned u/\w'.ownsRow w.heap.size 9 1 u (s1++s2++s3).length ((s1++s2++s3).map Value.string))/\Below w.heap.size w w':=by
 obtain⟨ii,hi,iz0,iz1,iz2⟩:=info_parts L9;obtain⟨a1,c1,rfl⟩:=Lst.shape (.inr h1);obtain⟨a2,c2,rfl⟩:=h2.shape;obtain⟨a3,c3,rfl⟩:=h3.shape;go_enter Tryz.func176,Tryz.ntmps176
 go_wp2_with fail
 go_loop [3,11] (λz i=>∃k t:Nat,i=.int .i64 (k:Int)/\z=.int .i64 (t:Int)/\((k=0/\t=0)∨(k=1/\t=s1.length)∨(k=2/\t=s1.length+s2.length)∨(k=3/\t=s1.length+s2.length+s3.length))) (λ_ i=>3-(intOf i).toNat)
 case atStart=>exact⟨0,0,rfl,rfl,.inl ⟨rfl,rfl⟩⟩
 case round =>
  obtain⟨k,t,rfl,rfl,hkt⟩:=hrel;rcases hkt with⟨rfl,rfl⟩|⟨rfl,rfl⟩|⟨rfl,rfl⟩|⟨rfl,rfl⟩
  ·go_wp2_with fail
   go_round
   case rel=>exact⟨1,s1.length,rfl,by go_num,.inr (.inl ⟨rfl,rfl⟩)⟩
   case measure=>simp[intOf]
  ·go_wp2_with fail
   go_round
   case rel=>exact⟨2,s1.length+s2.length,rfl,by go_num,.inr (.inr (.inl ⟨rfl,rfl⟩))⟩
   case measure=>simp[intOf]
  ·go_wp2_with fail
   go_round
   case rel=>exact⟨3,s1.length+s2.length+s3.length,rfl,by go_num,.inr (.inr (.inr ⟨rfl,rfl⟩))⟩
   case measure=>simp[intOf]
  ·go_wp2_with fail
   have hN:(s1.length:Int)+(s2.length:Int)+(s3.length:Int)=((s1.length+s2.length+s3.length:Nat):Int):=by omega
   rw[hN];refine (AlO (s1.length+s2.length+s3.length) w (by omega) (by omega)).mono ?_;rintro e w1 ⟨⟨cp,rfl,hown⟩,hB1⟩;clear hN;go_wp2_with fail
   go_loopw [6,27] (λu i w'=>∃(k:Nat) (xs:List ByteArray),i=.int .i64 (k:Int)/\((k=0/\xs=[])∨(k=1/\xs=s1)∨(k=2/\xs=s1++s2)∨(k=3/\xs=s1++s2++s3))/\w'.ownsRow w.heap.size 9 1 u xs.length (xs.map Value.string)/\Below w.heap.size w w') (λ_ i _=>3-(intOf i).toNat)
   case atStart=>exact⟨0,[],rfl,.inl ⟨rfl,rfl⟩,hown,hB1⟩
   case round =>
    clear hown hB1;obtain⟨k,xs,rfl,hkx,hown,hB⟩:=hrel;rcases hkx with⟨rfl,hx⟩|⟨rfl,hx⟩|⟨rfl,hx⟩|⟨rfl,hx⟩<;>rw[hx] at hown<;>clear hx
    ·have hcell:=(hB.cell (p:=⟨sb,0,none⟩) hsb).trans e0
     rcases (show Lst w _ s1 from .inr h1) with⟨hv,hs⟩|⟨g,cc,hv,hS,hg,_,_⟩
     ·rw[hv] at hcell
      have Hs:Hid (s1=[]):=hs;clear hs hv;go_wp2_with (at_builtin;refine wpList_append_own_none rfl _ _ 22 rfl w.heap.size 9 ii 1 Tryz.underlying22 hi u6 _ _ rfl hown rfl ?_)
      go_roundw
      case rel=>exact⟨1,s1,rfl,.inr (.inl ⟨rfl,rfl⟩),by rw[Hs.out];exact hown,hB⟩
      case measure=>simp[intOf]
     ·cases hv
      have hS2:StrsAt wr g 0 s1:=λi s hs=>(hB.cell (p:=⟨g,0+i,none⟩) hg).trans (hS i s hs);go_wp2_with (at_builtin;refine wpList_append_own _ rfl _ _ 22 rfl w.heap.size 9 ii _ 1 16 Tryz.underlying22 hi iz0 iz1 iz2 rfl (by decide) u6 _ _ rfl hown ⟨g,0,none⟩ s1.length _ (s1.map Value.string) rfl (by simp) (J5 hS2) (Z2 _) (by unfold maxLen;first|omega|(simp;omega)) (by first|omega|(simp;omega)) hB.size ?_)
      intro v' w2 hown2 hgrow2 _;have hB2:=G4 hB hown hgrow2 (A3 _);clear hown hgrow2 hB hcell hS2;go_wp2_with fail
      go_roundw
      case rel=>exact⟨1,s1,rfl,.inr (.inl ⟨rfl,rfl⟩),by simpa using hown2,hB2⟩
      case measure=>simp[intOf]
    ·have hcell:=(hB.cell (p:=⟨sb,1,none⟩) hsb).trans e1
     rcases h2 with⟨hv,hs⟩|⟨g,cc,hv,hS,hg,_,_⟩
     ·rw[hv] at hcell
      have Hs:Hid (s2=[]):=hs;clear hs hv;go_wp2_with (at_builtin;refine wpList_append_own_none rfl _ _ 22 rfl w.heap.size 9 ii 1 Tryz.underlying22 hi u6 _ _ rfl hown rfl ?_)
      go_roundw
      case rel=>exact⟨2,s1++s2,rfl,.inr (.inr (.inl ⟨rfl,rfl⟩)),by rw[Hs.out,List.append_nil];exact hown,hB⟩
      case measure=>simp[intOf]
     ·cases hv
      have hS2:StrsAt wr g 0 s2:=λi s hs=>(hB.cell (p:=⟨g,0+i,none⟩) hg).trans (hS i s hs);go_wp2_with (at_builtin;refine wpList_append_own _ rfl _ _ 22 rfl w.heap.size 9 ii _ 1 16 Tryz.underlying22 hi iz0 iz1 iz2 rfl (by decide) u6 _ _ rfl hown ⟨g,0,none⟩ s2.length _ (s2.map Value.string) rfl (by simp) (J5 hS2) (Z2 _) (by unfold maxLen;first|omega|(simp;omega)) (by first|omega|(simp;omega)) hB.size ?_)
      intro v' w2 hown2 hgrow2 _;have hB2:=G4 hB hown hgrow2 (A3 _);clear hown hgrow2 hB hcell hS2;go_wp2_with fail
      go_roundw
      case rel=>exact⟨2,s1++s2,rfl,.inr (.inr (.inl ⟨rfl,rfl⟩)),by simpa using hown2,hB2⟩
      case measure=>simp[intOf]
    ·have hcell:=(hB.cell (p:=⟨sb,2,none⟩) hsb).trans e2
     rcases h3 with⟨hv,hs⟩|⟨g,cc,hv,hS,hg,_,_⟩
     ·rw[hv] at hcell
      have Hs:Hid (s3=[]):=hs;clear hs hv;go_wp2_with (at_builtin;refine wpList_append_own_none rfl _ _ 22 rfl w.heap.size 9 ii 1 Tryz.underlying22 hi u6 _ _ rfl hown rfl ?_)
      go_roundw
      case rel=>exact⟨3,s1++s2++s3,rfl,.inr (.inr (.inr ⟨rfl,rfl⟩)),by rw[Hs.out,List.append_nil];exact hown,hB⟩
      case measure=>simp[intOf]
     ·cases hv
      have hS2:StrsAt wr g 0 s3:=λi s hs=>(hB.cell (p:=⟨g,0+i,none⟩) hg).trans (hS i s hs);go_wp2_with (at_builtin;refine wpList_append_own _ rfl _ _ 22 rfl w.heap.size 9 ii _ 1 16 Tryz.underlying22 hi iz0 iz1 iz2 rfl (by decide) u6 _ _ rfl hown ⟨g,0,none⟩ s3.length _ (s3.map Value.string) rfl (by simp) (J5 hS2) (Z2 _) (by unfold maxLen;first|omega|(simp;omega)) (by first|omega|(simp;omega)) hB.size ?_)
      intro v' w2 hown2 hgrow2 _;have hB2:=G4 hB hown hgrow2 (A3 _);clear hown hgrow2 hB hcell hS2;go_wp2_with fail
      go_roundw
      case rel=>exact⟨3,s1++s2++s3,rfl,.inr (.inr (.inr ⟨rfl,rfl⟩)),by simpa [Nat.add_assoc] using hown2,hB2⟩
      case measure=>simp[intOf]
    ·go_wp2_with fail
     go_ret
     exact⟨⟨_,rfl,hown⟩,hB⟩
end Go.Proofs.YtgecdacgmehmbaaGreatDoor
namespace Go.Proofs.YtgecdacgmehmbaaGreatDoor
open Go.RowKit Go.Shelf Go.Sort
theorem AmQ (s:ByteArray):Value.string s=encStr s.toList:=by
 unfold encStr;rw[Go.ByteArray.toList_eq]
theorem Acd (ss:List ByteArray):ss.map Value.string=(keys ss).map encStr:=by
 rw[keys,List.map_map];exact List.map_congr_left λs _=>AmQ s
def namesOf (ks:List Key):List ByteArray:=ks.map λl=>⟨l.toArray⟩
theorem Aac (ks:List Key):keys (namesOf ks)=ks:=by
 rw[keys,namesOf,List.map_map]
 have:((λs:ByteArray=>s.toList) ∘ λl:Key=>(⟨l.toArray⟩:ByteArray))=id:=by
  funext l;exact R7 l
 rw[this,List.map_id]
theorem AcA (ks:List Key):ks.map encStr=(namesOf ks).map Value.string:=by rw[Acd,Aac]
theorem Aik {w w1:World} {g cap n nn q:Nat} {os:Array Obj} {ss:List Key} (hown:w1.ownsRow w.heap.size 9 1 (.slice (some ⟨g,0,none⟩) n cap) n (ss.map encStr)) (hbel:Below w.heap.size w w1) (hbg:w.heap.size<=g) (hlen:ss.length=n) :
  (putRow encStr (Sort.ahead (grow (putRow encStr (Sort.ahead w1 nn) g 0 (ss.mergeSort λx y=>decide (x<=y)).toArray) os) q) g 0 (Lib.compact (ss.mergeSort λx y=>decide (x<=y))++List.replicate (n-(Lib.compact (ss.mergeSort λx y=>decide (x<=y))).length) []).toArray).ownsRow w.heap.size 9 1 (.slice (some ⟨g,0,none⟩) (uniq ss).length cap) (uniq ss).length ((uniq ss).map encStr)/\
   Below w.heap.size w (putRow encStr (Sort.ahead (grow (putRow encStr (Sort.ahead w1 nn) g 0 (ss.mergeSort λx y=>decide (x<=y)).toArray) os) q) g 0 (Lib.compact (ss.mergeSort λx y=>decide (x<=y))++List.replicate (n-(Lib.compact (ss.mergeSort λx y=>decide (x<=y))).length) []).toArray):=by
 have hl2:(ss.mergeSort λx y=>decide (x<=y)).length=ss.length:=List.length_mergeSort ss;have hle:=Lib.compact_length_le (ss.mergeSort λx y=>decide (x<=y));subst hlen;rcases hown.2 with⟨h0,_⟩|⟨g',cap',cur,hv,hbase,hb,h1,h2,h3,h4⟩
 ·cases h0
 cases hv
 have hs:=ownsRow_sorted (n:=nn) (os:=os) (ts:=ss.mergeSort λx y=>decide (x<=y)) hl2 hbase hb h1 h2 h3;have hc:=Lib.ownsRow_putRow (q:=q) (k:=(Lib.compact (ss.mergeSort λx y=>decide (x<=y))).length) (ys:=Lib.compact (ss.mergeSort λx y=>decide (x<=y))++List.replicate (ss.length-(Lib.compact (ss.mergeSort λx y=>decide (x<=y))).length) []) hs (by simp;omega) (by omega);rw[List.take_left] at hc;exact⟨hc,Lib.below_putRow (hbel.grown (grownBy_sorted _) hbel.size (λj hj=>by cases hj;exact hbase)) hbg⟩
theorem Afx (p:Ph) (s2 s3:List ByteArray) (v2 v3:Value) (w:World) (hk:1<=p.k/\p.k<=5) (h2:Lst w v2 s2) (h3:Lst w v3 s3) (hn:s2.length+s3.length<=800) :
  Calls Tryz.prog 154 #[.agg #[.string p.nm,.int .i64 p.k,.string p.a,.string p.b,.int .i64 p.n,.int .i64 p.wi,.string p.t,.string p.e],v2,v3] w
   λe w'=>(∃u,e=.returned u/\w'.ownsRow w.heap.size 9 1 u (fpK p (keys s2) (keys s3)).length ((namesOf (fpK p (keys s2) (keys s3))).map Value.string))/\Below w.heap.size w w':=by
 have hBx:Below w.heap.size w (w.alloc (.cells #[.string p.nm,.int .i64 p.k,.string p.a,.string p.b,.int .i64 p.n,.int .i64 p.wi,.string p.t,.string p.e] 73)):=(A4 _ _).alloc (A3 _) _;obtain⟨a2,c2,rfl⟩:=h2.shape;obtain⟨a3,c3,rfl⟩:=h3.shape;go_enter Tryz.func154,Tryz.ntmps154
 go_wp2_with fail
 refine (Adj p _ hk).mono ?_;rintro e w1 ⟨⟨u1,rfl,hT1⟩,hb1⟩;have hB1:=D5 hBx hb1;obtain⟨a1,c1,rfl⟩:=Lst.shape (.inr hT1);have hal:RowKit.Below w1.heap.size w1 (w1.alloc (.cells #[.slice a1 (ownB p).length c1,.slice a2 s2.length c2,.slice a3 s3.length c3] 22)):=(RowKit.Below.refl _ _).alloc (A3 _) _;have hB1a:=D5 hB1 hal;have hpos:0<(ownB p).length:=by unfold ownB;split<;>simp
 have hlo:(ownB p).length<=2:=by unfold ownB;split<;>simp
 go_wp2_with fail
 refine (AiM (ownB p) s2 s3 _ _ _ w1.heap.size _ (hT1.up hal) (h2.up hB1a) (h3.up hB1a) (by simp) (by simp) (by simp) (by simp) hpos (by omega)).mono ?_;rintro e w2 ⟨⟨u2,rfl,hown2⟩,hb2⟩;have hB2:=D5 hB1a hb2;have hown2:=F9 hown2 hB1a.size;rw[Acd] at hown2;obtain⟨n,hN⟩:∃n,n=(ownB p++s2++s3).length:=⟨_,rfl⟩;have hlen:(keys (ownB p++s2++s3)).length=n:=by rw[hN];simp[keys]
 rw[← hN] at hown2;have hnp:0<n:=by rw[hN];simp;omega
 have hn9:n<=900:=by rw[hN];simp;omega
 have HK:Hid (uniq (keys (ownB p++s2++s3))=fpK p (keys s2) (keys s3)):=by
  show _=_
  rw[fpK,← Ago];simp[keys]
 generalize keys (ownB p++s2++s3)=ks at *;clear hN hT1 h2 h3 hb1 hb2 hal hB1 hB1a hBx hpos hlo hn;obtain⟨g,cap,rfl⟩:=F2 hown2 hnp;obtain⟨g',cap',hv,hbg,hgl,hncap,hcm,_,hH⟩:=Lib.holds_of_ownsRow hown2 (by simp);cases hv
 unfold maxLen at hcm;have hsort:=Tryz.slices_Sort_string g 0 cap ks w2 hH hgl (by omega);rw[hlen] at hsort;go_wp2_with fail
 refine hsort.mono ?_;rintro e w3 ⟨rfl,nn,os,rfl⟩;clear hsort;have hl2:(ks.mergeSort λx y=>decide (x<=y)).length=n:=by rw[List.length_mergeSort];exact hlen
 have hH2:Holds encStr (grow (putRow encStr (Sort.ahead w2 nn) g 0 (ks.mergeSort λx y=>decide (x<=y)).toArray) os) g 0 (ks.mergeSort λx y=>decide (x<=y)).toArray :=
  holds_grow encStr _ os g 0 _ (by simpa [putRow,mapBlock,Sort.ahead] using hgl) (holds_putRow encStr _ g 0 _ _ (holds_ahead encStr w2 nn g 0 _ hH) (by simp))
 have hcomp:=Tryz.slices_Compact_string g 0 cap (ks.mergeSort λx y=>decide (x<=y)) _ hH2 (by omega) (by omega);rw[hl2] at hcomp;clear hH2 hH;go_wp2_with fail
 refine hcomp.mono ?_;rintro e w4 ⟨rfl,q,rfl⟩;obtain⟨ho,hB⟩:=Aik (nn:=nn) (q:=q) (os:=os) hown2 hB2 hbg hlen;rw[HK.out,AcA] at ho;clear hcomp;go_wp2_with fail
 go_ret
 refine⟨⟨_,rfl,?_⟩,hB⟩;have:=HK.out;unfold uniq at this;rw[this] at ho ⊢
 exact ho
end Go.Proofs.YtgecdacgmehmbaaGreatDoor
namespace Go.Proofs.YtgecdacgmehmbaaGreatDoor
open Go.RowKit
abbrev VK:=Value×List Key
def nilR:VK:=(.slice none 0 0,[])
def rowSS:List (ByteArray×VK)->List Value
 | []=>[]
 | r::rest=>.string r.1::r.2.1::rowSS rest
theorem Agp (a b:List (ByteArray×VK)):rowSS (a++b)=rowSS a++rowSS b:=by
 induction a with
 | nil=>rfl
 | cons r rest ih=>simp[rowSS,ih]
theorem Agq (a:List (ByteArray×VK)):(rowSS a).length=a.length*2:=by
 induction a with
 | nil=>rfl
 | cons r rest ih=>simp[rowSS,ih];omega
theorem Agr:∀(a:List (ByteArray×VK)) (i:Nat) (h:i<a.length),(rowSS a)[i*2]?=some (.string (a[i]).1)/\(rowSS a)[i*2+1]?=some ((a[i]).2.1)
 | r::rest,0,_=>⟨rfl,rfl⟩
 | r::rest,i+1,h=>by
  have:=Agr rest i (by simpa using h);rw[show (i+1)*2=i*2+1+1 by omega];simpa [rowSS] using this
def OwnV (w:World) (base:Nat) (x:VK):Prop:=w.ownsRow base 9 1 x.1 x.2.length ((namesOf x.2).map Value.string)
theorem OwnV.shape {w:World} {base:Nat} {x:VK} (h:OwnV w base x):∃a n c,x.1=.slice a n c:=by
 rcases h.2 with⟨h0,_⟩|⟨g,cap,_,hv,_⟩
 ·exact⟨_,_,_,h0⟩
 ·exact⟨_,_,_,hv⟩
theorem OwnV.up {w w':World} {base:Nat} {x:VK} (h:OwnV w base x) (hb:Below w.heap.size w w'):OwnV w' base x:=E0 h hb
theorem Ags (w:World) (base:Nat):OwnV w base nilR:=B7 _ _ _ _
theorem OwnV.lst {w:World} {base:Nat} {x:VK} (h:OwnV w base x):Lst w x.1 (namesOf x.2):=by
 have hl:(namesOf x.2).length=x.2.length:=by simp[namesOf]
 rcases h.2 with⟨h0,h1⟩|⟨g,cap,cur,hv,_⟩
 ·exact .inl ⟨h0,by cases hx:x.2 with
   | nil=>rfl
   | cons a r=>rw[hx] at h1;simp at h1⟩
 ·exact .inr (Txt.own h hl ⟨g,cap,hv⟩)
def TabS (w:World) (base g:Nat) (rows:List (ByteArray×VK)):Prop:=w.rangeAt g 0 (rowSS rows)/\g<w.heap.size/\∀r∈rows,OwnV w base r.2
theorem TabS.up {w w':World} {base g:Nat} {rows:List (ByteArray×VK)} (h:TabS w base g rows) (hb:Below w.heap.size w w'):TabS w' base g rows :=
 ⟨λj v hv=>by rw[hb.cell (p:=⟨g,0+j,none⟩) h.2.1];exact h.1 j v hv,A1 h.2.1 hb.size,λr hr=>(h.2.2 r hr).up hb⟩
theorem TabS.cells {w:World} {base g:Nat} {rows:List (ByteArray×VK)} (h:TabS w base g rows) (i:Nat) (hi:i<rows.length):w.cell? ⟨g,i*2,none⟩=some (.string (rows[i]).1)/\w.cell? ⟨g,i*2+1,none⟩=some ((rows[i]).2.1):=by
 obtain⟨h1,h2⟩:=Agr rows i hi;exact⟨by simpa using h.1 _ _ h1,by simpa using h.1 _ _ h2⟩
theorem TabS.of_own {w:World} {base e g cap:Nat} {rows:List (ByteArray×VK)} (h:w.ownsRow base e 2 (.slice (some ⟨g,0,none⟩) rows.length cap) rows.length (rowSS rows)) (hv:∀r∈rows,OwnV w base r.2):TabS w base g rows:=by
 refine⟨λj v hv=>?_,(h.lt g rfl).2,hv⟩;have hj:j<rows.length*2:=by rw[← Agq];exact (A2.1 hv).1
 rw[Nat.zero_add,h.cellAt j hj];exact hv
theorem TabS.look {w:World} {base g:Nat} {rows:List (ByteArray×VK)} (h:TabS w base g rows) (nm:ByteArray):OwnV w base (look rows nm nilR):=by
 unfold Go.Proofs.YtgecdacgmehmbaaGreatDoor.look;split
 ·rename_i r hr
  exact h.2.2 r (List.mem_of_find?_eq_some hr)
 ·exact Ags _ _
def plainR (rows:List (ByteArray×VK)):List (ByteArray×List Key):=rows.map λr=>(r.1,r.2.2)
theorem Aa9 (rows:List (ByteArray×VK)) (nm:ByteArray):look (plainR rows) nm []=(look rows nm nilR).2:=by
 unfold look plainR;rw[List.find?_map];have e:((λr:ByteArray×List Key=>r.1.toList==nm.toList) ∘ λr:ByteArray×VK=>(r.1,r.2.2))=λr=>r.1.toList==nm.toList:=by funext r;rfl
 rw[e];cases rows.find? λr=>r.1.toList==nm.toList<;>rfl
theorem Ail (rows:List (ByteArray×VK)) (base g c:Nat) (nm:ByteArray) (w:World) (hr:TabS w base g rows) (hn:rows.length<=1048576) :
  Calls Tryz.prog 155 #[.slice (some ⟨g,0,none⟩) rows.length c,.string nm] w λe w'=>e=.returned (look rows nm nilR).1/\Below w.heap.size w w':=by
 have hg:=hr.2.1;go_enter Tryz.func155,Tryz.ntmps155
 go_wp2
 go_loopw [10] (λi w'=>∃k:Nat,k<=rows.length/\i=.int .i64 k/\noneT rows nm k/\Below w.heap.size w w') (λi _=>rows.length-(intOf i).toNat)
 case atStart=>exact⟨0,by omega,rfl,λ_ _ h=>by omega,A4 _ _⟩
 case round =>
  obtain⟨k,hk,rfl,hal,hB⟩:=hrel;have Hal:Hid (noneT rows nm k):=hal;clear hal;by_cases hp:k<rows.length
  ·obtain⟨c0,c1⟩:=hr.cells k hp
   obtain⟨a,n,cc,hsh⟩:=(hr.2.2 rows[k] (by simp)).shape;rw[hsh] at c1;obtain⟨hc,hf⟩:=E2 hB;cases hq:((rows[k]).1.toList==nm.toList)
   ·have Hq:Hid (((rows[k]).1.toList==nm.toList)=false):=hq
    go_wp2
    go_roundw
    case rel=>exact⟨k+1,by omega,by go_num,AiB Hal.out hp Hq.out,hB.alloc hB.size _⟩
    case measure=>simp[intOf];omega
   ·have Hq:Hid (look rows nm nilR=(rows[k]).2):=Al7 nilR Hal.out hp hq
    have Hsh:Hid ((rows[k]).2.1=.slice a n cc):=hsh;clear hsh;go_wp2
    go_ret
    exact⟨by rw[Hq.out,Hsh.out];rfl,hB.alloc hB.size _⟩
  ·have Hq:Hid (look rows nm nilR=nilR):=Akl nilR Hal.out hp
   go_wp2
   go_ret
   exact⟨by rw[Hq.out];rfl,hB⟩
end Go.Proofs.YtgecdacgmehmbaaGreatDoor
