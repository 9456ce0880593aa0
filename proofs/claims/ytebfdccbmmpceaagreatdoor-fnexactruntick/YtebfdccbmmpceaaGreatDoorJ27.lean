/- The specification's copy of a batch (chapter 21). -/
import Derived.Test.YtebfdccbmmpceaaGreatDoorJ26
import Derived.Test.YtebfdccbmmpceaaGreatDoorJ17
import Derived.Test.YtebfdccbmmpceaaGreatDoorJ1
import Derived.Test.YtebfdccbmmpceaaGreatDoorJ2
import Derived.Laws.OwnMore
import Derived.Test.YtebfdccbmmpceaaGreatDoorKf
import Derived.Test.YtebfdccbmmpceaaGreatDoorXr
set_option maxRecDepth 20000
set_option maxHeartbeats 4000000
namespace Go.Proofs.YtebfdccbmmpceaaGreatDoor
open Go.RowKit
theorem AiP:(Tryz.prog.info? 84).map (λi=>(i.zero,i.size,i.bytes))=some (some (.agg #[.string ⟨#[]⟩,.int .i64 0,.string ⟨#[]⟩,.string ⟨#[]⟩,.int .i64 0,.int .i64 0,.string ⟨#[]⟩,.string ⟨#[]⟩]),8,104):=by kernel_rfl
theorem AiQ:(Tryz.prog.info? 169).map (λi=>(i.zero,i.size,i.bytes))=some (some (.agg #[.string ⟨#[]⟩,.string ⟨#[]⟩]),2,32):=by kernel_rfl
theorem Ad0:(Tryz.prog.info? 52).map (λi=>(i.zero,i.size,i.bytes))=some (some (.agg #[.string ⟨#[]⟩,.slice none 0 0,.slice none 0 0,.string ⟨#[]⟩,.int .i64 0,.int .i64 0]),6,96):=by kernel_rfl
theorem AbS:(Tryz.prog.info? 90).map (λi=>(i.zero,i.size,i.bytes))=some (some (.agg #[.string ⟨#[]⟩,.int .i64 0,.int .i64 0]),3,32):=by kernel_rfl
theorem AiR:(Tryz.prog.info? 52).map (·.size)=some 6:=by kernel_rfl
theorem oneP (ps:List Ph):∀u∈rowsF Ph.cells ps,u.oneCell'=true:=AaD ps λa _ u hu=>by
 simp only[Ph.cells,List.mem_cons,List.not_mem_nil,or_false] at hu;rcases hu with rfl|rfl|rfl|rfl|rfl|rfl|rfl|rfl<;>rfl
theorem oneSl (ps:List Sl):∀u∈rowsF Sl.cells ps,u.oneCell'=true:=AaD ps λa _ u hu=>by
 simp only[Sl.cells,List.mem_cons,List.not_mem_nil,or_false] at hu;rcases hu with rfl|rfl<;>rfl
theorem Aa2 (ps:List Done):∀u∈rowsF Done.cells ps,u.oneCell'=true:=AaD ps λa _ u hu=>by
 simp only[Done.cells,List.mem_cons,List.not_mem_nil,or_false] at hu;rcases hu with rfl|rfl|rfl<;>rfl
theorem Ac7 (w:World) (e k:Nat):(w.alloc (.cells #[] e)).ownsRow w.heap.size e k (.slice (some ⟨w.heap.size,0,none⟩) 0 0) 0 []:=B9 w #[] 0 (A3 _) (by unfold maxLen;omega) (by simp)
theorem J2 (w:World) (b:Nat) (x0 x1 x2 x3 x4 x5:Value):w.grownBy ((((((w.setCell ⟨b,0,none⟩ x0).setCell ⟨b,1,none⟩ x1).setCell ⟨b,2,none⟩ x2).setCell ⟨b,3,none⟩ x3).setCell ⟨b,4,none⟩ x4).setCell ⟨b,5,none⟩ x5) (some b) :=
 E0 (rb:=b) (E0 (rb:=b) (E0 (rb:=b) (E0 (rb:=b) (E0 (rb:=b) (E0 (rb:=b) (E4 w _) _) _) _) _) _) _
theorem AjP (x:Rb) (rv sv:Value) (w:World) (H:RbV w x rv sv) :
  Calls Tryz.prog 43 #[.agg #[.string x.nm,rv,sv,.string x.ad,.int .i64 x.si,.int .i64 x.st]] w λe w'=>(∃ru su,e=.returned (.agg #[.string x.nm,ru,su,.string x.ad,.int .i64 x.si,.int .i64 x.st])/\RcW w' w.heap.size (x,ru,su))/\Below w.heap.size w w':=by
 obtain⟨b,o,c,rfl,hr,hb,-,-⟩:=H.r;obtain⟨g,q,d,rfl,hs,hg⟩:=H.s;have hnp:=H.np;have hns:=H.ns;obtain⟨ip,hip,p0,p1,p2⟩:=info_parts AiP;obtain⟨is,his,s0,s1,s2⟩:=info_parts AiQ;obtain⟨W1,hW1,kA,kR,hB1,hs1⟩:=L1 w [.string x.nm,.slice (some ⟨b,o,none⟩) x.ps.length c,.slice (some ⟨g,q,none⟩) x.sl.length d,.string x.ad,.int .i64 x.si,.int .i64 x.st] 52 [.string ⟨#[]⟩,.slice none 0 0,.slice none 0 0,.string ⟨#[]⟩,.int .i64 0,.int .i64 0] 52;go_enter Tryz.func43,Tryz.ntmps43
 go_upto_region 1 with fail
 try rw[hW1]
 clear hW1;have hr1:=hr.up hB1 hb;have hs9:=hs.up hB1 hg;have hA0:w.heap.size<W1.heap.size:=by omega
 have hR0:w.heap.size+1<W1.heap.size:=by omega
 have hb0:b<W1.heap.size:=by omega
 have hg0:g<W1.heap.size:=by omega
 have Hs1:Hid (W1.heap.size=w.heap.size+2):=hs1;clear hs1;obtain⟨W2,hW2,ho2,hb2⟩:∃W2,W1.alloc (.cells #[] 84)=W2/\W2.ownsRow W1.heap.size 84 8 (.slice (some ⟨W1.heap.size,0,none⟩) 0 0) 0 []/\Below W1.heap.size W1 W2:=⟨_,rfl,Ac7 _ _ _,(A4 _ _).alloc (A3 _) _⟩;have kA2:=kA.up hb2 hA0;obtain⟨e0,e1,e2,e3,e4,e5⟩:=kA2.c6;have hn2:=O8 (f:=Ph.cells) (by decide) G9 (hr1.up hb2 hb0);go_wp2_with (at_builtin;(try rw[hW2]);refine N0 _ rfl _ _ 49 rfl W1.heap.size 84 ip _ 8 104 Tryz.underlying49 hip p0 p1 p2 rfl (by decide) _ 0 [] rfl ho2 (some ⟨b,o,none⟩) x.ps.length c (rowsF Ph.cells x.ps) rfl (G5 G9 _) (λ_=>⟨_,rfl,hn2⟩) (oneP _) (by unfold maxLen;omega) (by omega) hb2.size ?_)
 intro v1 w1 hown1 hgr1 hnn1;have ho3:w1.ownsRow W1.heap.size 84 8 v1 x.ps.length (rowsF Ph.cells x.ps):=by simpa using hown1
 have hnn:=hnn1 ⟨_,_,_,rfl⟩;have hB2:Below W1.heap.size W1 w1:=F1 hb2 hb2.size ho2 hgr1 (A3 _);have kA3:=kA.up hB2 hA0;have kR3:=kR.up hB2 hR0;clear hown1 hgr1 hnn1 ho2 hn2 e0 e1 e2 e3 e4 e5 kA2 kA kR hW2 hb2;obtain⟨e0,e1,e2,e3,e4,e5⟩:=kA3.c6;obtain⟨f0,f1,f2,f3,f4,f5⟩:=kA3.f6;obtain⟨g1,n1,m1,rfl⟩:=hnn;go_upto_region 2 with fail
 obtain⟨W3,hW3,kA4,kR4,ho4,hB3⟩:∃W3,w1.setCell ⟨w.heap.size,1,none⟩ (.slice (some ⟨g1,0,none⟩) n1 m1)=W3/\CB W3 w.heap.size [.string x.nm,.slice (some ⟨g1,0,none⟩) n1 m1,.slice (some ⟨g,q,none⟩) x.sl.length d,.string x.ad,.int .i64 x.si,.int .i64 x.st]/\CB W3 (w.heap.size+1) [.string ⟨#[]⟩,.slice none 0 0,.slice none 0 0,.string ⟨#[]⟩,.int .i64 0,.int .i64 0]/\W3.ownsRow W1.heap.size 84 8 (.slice (some ⟨g1,0,none⟩) n1 m1) x.ps.length (rowsF Ph.cells x.ps)/\Below w.heap.size w W3 :=
  ⟨_,rfl,kA3.set (j:=1) (by simp),kR3.other (by omega),E9 ho3 (E0 (E4 _ _) _) hA0,(hB1.trans (hB2.mono (by omega))).setCell (p:=⟨w.heap.size,1,none⟩) (A3 _) _⟩
 try rw[hW3]
 have hz3:W1.heap.size<=W3.heap.size:=by rw[← hW3];have:=hB2.size;simpa using this
 clear hW3 e0 e1 e2 e3 e4 e5 f0 f1 f2 f3 f4 f5 kA3 kR3 ho3 hB2;obtain⟨W4,hW4,ho5,hb4⟩:∃W4,W3.alloc (.cells #[] 169)=W4/\W4.ownsRow W3.heap.size 169 2 (.slice (some ⟨W3.heap.size,0,none⟩) 0 0) 0 []/\Below W3.heap.size W3 W4:=⟨_,rfl,Ac7 _ _ _,(A4 _ _).alloc (A3 _) _⟩;have hn5:=O8 (f:=Sl.cells) (by decide) M9 ((hs.up hB3 hg).up hb4 (by omega));have kA5:=kA4.up hb4 (by omega);obtain⟨e0,e1,e2,e3,e4,e5⟩:=kA5.c6;go_wp2_with (at_builtin;(try rw[hW4]);refine N0 _ rfl _ _ 50 rfl W3.heap.size 169 is _ 2 32 Tryz.underlying50 his s0 s1 s2 rfl (by decide) _ 0 [] rfl ho5 (some ⟨g,q,none⟩) x.sl.length d (rowsF Sl.cells x.sl) rfl (G5 M9 _) (λ_=>⟨_,rfl,hn5⟩) (oneSl _) (by unfold maxLen;omega) (by omega) hb4.size ?_)
 intro v2 w2 hown2 hgr2 hnn2;have ho6:w2.ownsRow W3.heap.size 169 2 v2 x.sl.length (rowsF Sl.cells x.sl):=by simpa using hown2
 have hnn:=hnn2 ⟨_,_,_,rfl⟩;have hB4:Below W3.heap.size W3 w2:=F1 hb4 hb4.size ho5 hgr2 (A3 _);have kA6:=kA4.up hB4 (by omega);have kR6:=kR4.up hB4 (by omega);have ho7:=E1 ho4 hB4;clear hown2 hgr2 hnn2 ho5 hn5 e0 e1 e2 e3 e4 e5 kA5 kA4 kR4 hW4 hb4 ho4;obtain⟨e0,e1,e2,e3,e4,e5⟩:=kA6.c6;obtain⟨f0,f1,f2,f3,f4,f5⟩:=kA6.f6;obtain⟨g2,n2,m2,rfl⟩:=hnn;go_upto_region 3 with fail
 obtain⟨W5,hW5,kA8,kR8,ho8,ho9,hB5⟩:∃W5,w2.setCell ⟨w.heap.size,2,none⟩ (.slice (some ⟨g2,0,none⟩) n2 m2)=W5/\CB W5 w.heap.size [.string x.nm,.slice (some ⟨g1,0,none⟩) n1 m1,.slice (some ⟨g2,0,none⟩) n2 m2,.string x.ad,.int .i64 x.si,.int .i64 x.st]/\CB W5 (w.heap.size+1) [.string ⟨#[]⟩,.slice none 0 0,.slice none 0 0,.string ⟨#[]⟩,.int .i64 0,.int .i64 0]/\W5.ownsRow W1.heap.size 84 8 (.slice (some ⟨g1,0,none⟩) n1 m1) x.ps.length (rowsF Ph.cells x.ps)/\W5.ownsRow W3.heap.size 169 2 (.slice (some ⟨g2,0,none⟩) n2 m2) x.sl.length (rowsF Sl.cells x.sl)/\Below w.heap.size w W5 :=
  ⟨_,rfl,kA6.set (j:=2) (by simp),kR6.other (by omega),E9 ho7 (E0 (E4 _ _) _) hA0,E9 ho6 (E0 (E4 _ _) _) (by omega),(hB3.trans (hB4.mono (by omega))).setCell (p:=⟨w.heap.size,2,none⟩) (A3 _) _⟩
 try rw[hW5]
 clear hW5 e0 e1 e2 e3 e4 e5 f0 f1 f2 f3 f4 f5 kA6 kR6 ho6 ho7 hB4;obtain⟨e0,e1,e2,e3,e4,e5⟩:=kA8.c6;obtain⟨y0,y1,y2,y3,y4,y5⟩:=kR8.c6;obtain⟨f0,f1,f2,f3,f4,f5⟩:=kR8.f6;go_wp2_with fail
 refine R4 Tryz.results43 Tryz.underlying52 rfl AiR kR8 rfl ?_;refine⟨⟨_,_,rfl,?_,?_,⟨_,_,_,rfl⟩,⟨_,_,_,rfl⟩,H.zp,H.zs,H.zn,H.np,H.ns⟩,L0 hB5 (by omega) _ _ _ _ _ _⟩
 ·exact G4 (E9 ho8 (J2 _ _ _ _ _ _ _ _) hR0) (by omega)
 ·exact G4 (E9 ho9 (J2 _ _ _ _ _ _ _ _) (by omega)) (by omega)
theorem AgV (n lo hi:Int) (w:World) :
  Calls Tryz.prog 154 #[.int .i64 n,.int .i64 lo,.int .i64 hi] w λe w'=>e=.returned (.bool (inB n lo hi))/\w'=w:=by
 by_cases h1:lo<=n<;>by_cases h2:n<=hi
 all_goals
  go_enter Tryz.func154,Tryz.ntmps154
  go_wp2
  go_ret
  exact⟨D7 (by simp[inB,h1,h2]),rfl⟩
theorem Aam (s:ByteArray) (w:World) (hs:s.size<=maxLen) :
  Calls Tryz.prog 120 #[.string s] w λe w'=>e=.returned (.bool (nameB s))/\w'=w:=by
 unfold maxLen at hs;by_cases h1:1<=s.size/\s.size<=8
 case neg =>
  have h2:inB s.size 1 8=false:=(Aa5 _ _ _).2 (by omega);go_enter Tryz.func120,Tryz.ntmps120
  go_wp2_with (go_at_call 154;refine (AgV _ _ _ _).mono ?_;rintro e w' ⟨rfl,hw⟩;obtain rfl:=hw.symm;clear hw)
  go_ret
  exact⟨D7 (by simp only[nameB];simp;omega),rfl⟩
 have hn:Hid (nameB s=allB s.data.toList):=by show nameB s=_;simp[nameB,h1]
 have h2:inB s.size 1 8=true:=(P9 _ _ _).2 (by omega);go_enter Tryz.func120,Tryz.ntmps120
 go_wp2_with (go_at_call 154;refine (AgV _ _ _ _).mono ?_;rintro e w' ⟨rfl,hw⟩;obtain rfl:=hw.symm;clear hw)
 go_loop [3] (λi=>∃k:Nat,k<=s.size/\i=.int .i64 k/\allB (s.data.toList.take k)=true) (λi=>s.size-(intOf i).toNat)
 case atStart=>exact⟨0,by omega,rfl,rfl⟩
 case round =>
  obtain⟨k,hk,rfl,hal⟩:=hrel;have Hal:Hid (allB (s.data.toList.take k)=true):=hal;clear hal;by_cases hp:k<s.size
  ·have HS:Hid (nbB (s[k]'hp).toNat=true->allB (s.data.toList.take (k+1))=true):=by show _->_;intro hb;rw[Abw s k hp,Hal.out,hb];rfl
   have HN:Hid (nbB (s[k]'hp).toNat=false->allB s.data.toList=false):=AaT s k hp;go_wp2
   all_goals first
    | (go_ret;exact⟨D7 (by rw[hn.out];exact (HN.out (by rw[← Bool.not_eq_true,AaS];go_light;simp at *;omega)).symm),rfl⟩)
    | (go_round
       case rel=>exact⟨k+1,by omega,by go_num,HS.out (by rw[AaS];go_light;simp at *;omega)⟩
       case measure=>simp[intOf];omega)
  ·go_wp2
   go_ret
   exact⟨D7 (by rw[hn.out,AbX s k hp Hal.out]),rfl⟩
theorem N6 (ss:List ByteArray) (v:Value) (s:ByteArray) (w:World) (h:Ls w v ss) :
  Calls Tryz.prog 118 #[v,.string s] w λe w'=>e=.returned (.bool (memS ss s))/\w'=w:=by
 obtain⟨a,c,rfl,hn,-,hpos⟩:=h;unfold maxLen at hn;go_enter Tryz.func118,Tryz.ntmps118
 go_wp2
 go_loop [5] (λi=>∃k:Nat,k<=ss.length/\i=.int .i64 k/\memS (ss.take k) s=false) (λi=>ss.length-(intOf i).toNat)
 case atStart=>exact⟨0,by omega,rfl,rfl⟩
 case round =>
  obtain⟨k,hk,rfl,hal⟩:=hrel;have Hal:Hid (memS (ss.take k) s=false):=hal;clear hal;by_cases hp:k<ss.length
  ·obtain⟨b,o,rfl,hS,hb⟩:=hpos (by omega)
   have c0:=hS.cell hp;cases hq:((ss[k]).toList==s.toList)
   ·have Hq:Hid (((ss[k]).toList==s.toList)=false):=hq
    go_wp2
    go_round
    case rel=>exact⟨k+1,by omega,by go_num,Aa6 hp Hal.out Hq.out⟩
    case measure=>simp[intOf];omega
   ·have Hq:Hid (((ss[k]).toList==s.toList)=true):=hq
    go_wp2
    go_ret
    exact⟨D7 (Acc hp Hq.out).symm,rfl⟩
  ·go_wp2
   go_ret
   exact⟨D7 (AaZ hp Hal.out).symm,rfl⟩
theorem Aa3 (xs ys:List ByteArray) (u v:Value) (w:World) (h:Ls w u xs) (h2:Ls w v ys) :
  Calls Tryz.prog 121 #[u,v] w λe w'=>e=.returned (.bool (shareB xs ys))/\w'=w:=by
 obtain⟨a,c,rfl,hn,-,hpos⟩:=h;obtain⟨a2,c2,rfl,-⟩:=id h2;unfold maxLen at hn;go_enter Tryz.func121,Tryz.ntmps121
 go_wp2
 go_loop [5] (λi=>∃k:Nat,k<=xs.length/\i=.int .i64 k/\shareB (xs.take k) ys=false) (λi=>xs.length-(intOf i).toNat)
 case atStart=>exact⟨0,by omega,rfl,rfl⟩
 case round =>
  obtain⟨k,hk,rfl,hal⟩:=hrel;have Hal:Hid (shareB (xs.take k) ys=false):=hal;clear hal;by_cases hp:k<xs.length
  ·obtain⟨b,o,rfl,hS,hb⟩:=hpos (by omega)
   have c0:=hS.cell hp;cases hq:memS ys xs[k]
   ·have Hq:Hid (memS ys xs[k]=false):=hq
    go_wp2_with (go_at_call 118;refine (N6 ys _ _ _ h2).mono ?_;rintro e w' ⟨rfl,hw⟩;obtain rfl:=hw.symm;clear hw)
    go_round
    case rel=>exact⟨k+1,by omega,by go_num,Ahx hp Hal.out Hq.out⟩
    case measure=>simp[intOf];omega
   ·have Hq:Hid (memS ys xs[k]=true):=hq
    go_wp2_with (go_at_call 118;refine (N6 ys _ _ _ h2).mono ?_;rintro e w' ⟨rfl,hw⟩;obtain rfl:=hw.symm;clear hw)
    go_ret
    exact⟨D7 (Agd hp Hq.out).symm,rfl⟩
  ·go_wp2
   go_ret
   exact⟨D7 (AiY hp Hal.out).symm,rfl⟩
theorem M2 {w w':World} {m n:Nat} (h:w'=w.drewN m):∃k,w'.drewN n=w.drewN k:=⟨_,by rw[h,World.drewN_drewN]⟩
theorem Y6 (ss all:List ByteArray) (u v:Value) (w:World) (h:Ls w u ss) (h2:Ls w v all) :
  Calls Tryz.prog 85 #[u,v] w λe w'=>e=.returned (.bool (pB (PartOk ss all)))/\∃m,w'=w.drewN m:=by
 obtain⟨a,c,rfl,hn,-,hpos⟩:=h;obtain⟨a2,c2,rfl,-⟩:=id h2;unfold maxLen at hn;go_enter Tryz.func85,Tryz.ntmps85
 go_wp2
 go_loopw [5] (λi w'=>∃k m:Nat,k<=ss.length/\i=.int .i64 k/\PartTo ss all k/\AscTo ss k/\w'=w.drewN m) (λi _=>ss.length-(intOf i).toNat)
 case atStart=>exact⟨0,0,by omega,rfl,PartTo.zero _ _,AscTo.zero _,rfl⟩
 case round =>
  obtain⟨k,m,hk,rfl,hal,hasc,hw⟩:=hrel;have Hw:Hid (wr=w.drewN m):=hw;clear hw;have Hal:Hid (PartTo ss all k):=hal;have Hasc:Hid (AscTo ss k):=hasc;clear hal hasc;by_cases hp:k<ss.length
  ·obtain⟨b,o,rfl,hS,hb⟩:=hpos (by omega)
   have c0:wr.cell? ⟨b,o+k,none⟩=some (.string ss[k]):=by rw[Hw.out];exact hS.cell hp
   cases hq:memS all ss[k]
   ·have Hq:Hid (¬PartOk ss all):=λh=>by rw[Adv h.1 hp] at hq;cases hq
    go_wp2_with fail
    go_quiet ((go_at_call 118;exact Calls.quiet_of_same (N6 all _ _ _ (by have e:=Hw.out;subst e;exact h2))))
    go_wp2
    go_ret
    exact⟨D7 (F3 Hq.out).symm,M2 Hw.out⟩
   have Hq:Hid (PartTo ss all (k+1)):=Hal.out.step hp hq;cases k with
   | zero =>
    simp only[Nat.add_zero] at c0;go_wp2_with fail
    go_quiet ((go_at_call 118;exact Calls.quiet_of_same (N6 all _ _ _ (by have e:=Hw.out;subst e;exact h2))))
    go_wp2
    go_roundw
    case rel=>obtain⟨m',hm'⟩:=M2 (n:=nq) Hw.out;exact⟨1,m',by omega,by go_num,Hq.out,AscTo.one _,hm'⟩
    case measure=>simp[intOf];omega
   | succ k =>
    have c1:wr.cell? ⟨b,o+k,none⟩=some (.string ss[k]):=by rw[Hw.out];exact hS.cell (k:=k) (by omega)
    cases hl:ltS ss[k] ss[k+1]
    ·have Hl:Hid (¬PartOk ss all):=λh=>by rw[Age h.2 hp] at hl;cases hl
     unfold ltS at hl;go_wp2_with fail
     go_quiet ((go_at_call 118;exact Calls.quiet_of_same (N6 all _ _ _ (by have e:=Hw.out;subst e;exact h2))))
     go_wp2
     go_ret
     exact⟨D7 (F3 Hl.out).symm,M2 Hw.out⟩
    ·have Hl:Hid (AscTo ss (k+2)):=Hasc.out.step hp hl
     unfold ltS at hl;go_wp2_with fail
     go_quiet ((go_at_call 118;exact Calls.quiet_of_same (N6 all _ _ _ (by have e:=Hw.out;subst e;exact h2))))
     go_wp2
     go_roundw
     case rel=>obtain⟨m',hm'⟩:=M2 (n:=nq) Hw.out;exact⟨k+1+1,m',by omega,by go_num,Hq.out,Hl.out,hm'⟩
     case measure=>simp[intOf];omega
  ·go_wp2
   go_ret
   exact⟨D7 (I7 ⟨AdI Hal.out hp,Adu Hasc.out hp⟩).symm,_,Hw.out⟩
theorem Afc (ss:List ByteArray) (u:Value) (w:World) (h:Ls w u ss) :
  Calls Tryz.prog 119 #[u] w λe w'=>e=.returned (.bool (pB (ThingsOk ss)))/\∃m,w'=w.drewN m:=by
 obtain⟨a,c,rfl,hn,hz,hpos⟩:=h;unfold maxLen at hn;by_cases h8:8<ss.length
 ·go_enter Tryz.func119,Tryz.ntmps119
  go_wp2
  go_ret
  exact⟨D7 (F3 λh=>by have:=h.1;omega).symm,0,rfl⟩
 have H8:Hid (ss.length<=8):=by show _<=_;omega
 go_enter Tryz.func119,Tryz.ntmps119
 go_wp2
 go_loopw [3] (λi w'=>∃k m:Nat,k<=ss.length/\i=.int .i64 k/\NamesTo ss k/\AscTo ss k/\w'=w.drewN m) (λi _=>ss.length-(intOf i).toNat)
 case atStart=>exact⟨0,0,by omega,rfl,NamesTo.zero _,AscTo.zero _,rfl⟩
 case round =>
  obtain⟨k,m,hk,rfl,hal,hasc,hw⟩:=hrel;have Hw:Hid (wr=w.drewN m):=hw;clear hw;have Hal:Hid (NamesTo ss k):=hal;have Hasc:Hid (AscTo ss k):=hasc;clear hal hasc;by_cases hp:k<ss.length
  ·obtain⟨b,o,rfl,hS,hb⟩:=hpos (by omega)
   have c0:wr.cell? ⟨b,o+k,none⟩=some (.string ss[k]):=by rw[Hw.out];exact hS.cell hp
   have z0:=hz ss[k] (by simp);cases hq:nameB ss[k]
   ·have Hq:Hid (¬ThingsOk ss):=λh=>by rw[Agf h.2.1 hp] at hq;cases hq
    go_wp2_with fail
    go_quiet ((go_at_call 120;exact Calls.quiet_of_same (Aam _ _ z0)))
    go_wp2
    go_ret
    exact⟨D7 (F3 Hq.out).symm,M2 Hw.out⟩
   have Hq:Hid (NamesTo ss (k+1)):=Hal.out.step hp hq;cases k with
   | zero =>
    simp only[Nat.add_zero] at c0;go_wp2_with fail
    go_quiet ((go_at_call 120;exact Calls.quiet_of_same (Aam _ _ z0)))
    go_wp2
    go_roundw
    case rel=>obtain⟨m',hm'⟩:=M2 (n:=nq) Hw.out;exact⟨1,m',by omega,by go_num,Hq.out,AscTo.one _,hm'⟩
    case measure=>simp[intOf];omega
   | succ k =>
    have c1:wr.cell? ⟨b,o+k,none⟩=some (.string ss[k]):=by rw[Hw.out];exact hS.cell (k:=k) (by omega)
    cases hl:ltS ss[k] ss[k+1]
    ·have Hl:Hid (¬ThingsOk ss):=λh=>by rw[Age h.2.2 hp] at hl;cases hl
     unfold ltS at hl;go_wp2_with fail
     go_quiet ((go_at_call 120;exact Calls.quiet_of_same (Aam _ _ z0)))
     go_wp2
     go_ret
     exact⟨D7 (F3 Hl.out).symm,M2 Hw.out⟩
    ·have Hl:Hid (AscTo ss (k+2)):=Hasc.out.step hp hl
     unfold ltS at hl;go_wp2_with fail
     go_quiet ((go_at_call 120;exact Calls.quiet_of_same (Aam _ _ z0)))
     go_wp2
     go_roundw
     case rel=>obtain⟨m',hm'⟩:=M2 (n:=nq) Hw.out;exact⟨k+1+1,m',by omega,by go_num,Hq.out,Hl.out,hm'⟩
     case measure=>simp[intOf];omega
  ·go_wp2
   go_ret
   exact⟨D7 (I7 ⟨H8.out,AcP Hal.out hp,Adu Hasc.out hp⟩).symm,_,Hw.out⟩
def At11 (b:Bk) (k:Nat):Prop:=NamesTo (nms b.bs) k/\AscTo (nms b.bs) k/\BasTo b.things b.bs k/\ApartTo b.bs k 0
def One11 (b:Bk) (k:Nat) (x:Ba):Prop:=nameB x.nm=true/\(∀y,0<k->b.bs[k-1]?=some y->ltS y.nm x.nm=true)/\PartOk x.needs b.things/\PartOk x.has x.needs
theorem AbT {bs:List Ba} {k:Nat} {x:Ba} (h:bs[k]?=some x):(nms bs)[k]?=some x.nm:=by rw[nms,B0,h];rfl
theorem AmO {b:Bk} (h:BookOk b) {k:Nat} {x:Ba} (hx:b.bs[k]?=some x):One11 b k x:=by
 have hk:=(A2.1 hx).1;have hb:=h.2.2.2.2.1 k x hk hx;refine⟨h.2.2.1 k _ (by rw[I6];exact hk) (AbT hx),λy h0 hy=>?_,hb.1,hb.2⟩;exact h.2.2.2.1 (k-1) _ _ (by rw[I6];omega) (AbT hy) (by rw[show k-1+1=k by omega];exact AbT hx)
theorem Afy {b:Bk} {k:Nat} {x:Ba} (h:At11 b k) (hx:b.bs[k]?=some x) (h1:One11 b k x) (ha:ApartTo b.bs (k+1) 0):At11 b (k+1):=by
 have hk:=(A2.1 hx).1;refine⟨λi a hi he=>?_,λi a c hi he hc=>?_,λi y hi hy=>?_,ha⟩
 ·by_cases e:i=k
  ·subst e
   rw[AbT hx] at he;obtain rfl:=A5 he;exact h1.1
  ·exact h.1 i a (by omega) he
 ·by_cases e:i+1=k
  ·subst e
   rw[AbT hx] at hc;obtain rfl:=A5 hc;have hy:b.bs[i]?=some b.bs[i]:=A0 (by omega);rw[AbT hy] at he;obtain rfl:=A5 he;exact h1.2.1 _ (by omega) (by rw[Nat.add_sub_cancel];exact hy)
  ·exact h.2.1 i a c (by omega) he hc
 ·by_cases e:i=k
  ·subst e
   rw[hx] at hy;obtain rfl:=A5 hy;exact⟨h1.2.2.1,h1.2.2.2⟩
  ·exact h.2.2.1 i y (by omega) hy
theorem AmP {b:Bk} {k:Nat} (h:At11 b k) (hk:¬k<b.bs.length) (ht:ThingsOk b.things) (h5:b.bs.length<=5):BookOk b :=
 ⟨ht,h5,AcP h.1 (by rw[I6];exact hk),Adu h.2.1 (by rw[I6];exact hk),Ai0 h.2.2.1 hk,Ak0 h.2.2.2 hk⟩
theorem Aan (b:Bk) (v:Value) (w:World) (h:BkV w v b) :
  Calls Tryz.prog 84 #[v] w λe w'=>e=.returned (.bool (bookB b))/\Below w.heap.size w w':=by
 obtain⟨a1,c1,a2,c2,rfl,h1,h2⟩:=h.parts;have hC:CB (w.alloc (.cells #[.slice a1 (b).things.length c1,.slice a2 (b).bs.length c2] 33)) w.heap.size [.slice a1 b.things.length c1,.slice a2 b.bs.length c2]:=E7 w _ _;have hB0:=(A4 w.heap.size w).alloc (A3 _) (.cells #[.slice a1 (b).things.length c1,.slice a2 (b).bs.length c2] 33);have g1:=h1.inv.1;have g2:=h2.at.1;unfold maxLen at g1 g2;go_enter Tryz.func84,Tryz.ntmps84
 go_upto_region 1 with fail
 generalize w.alloc (.cells #[.slice a1 (b).things.length c1,.slice a2 (b).bs.length c2] 33)=W1 at *;have l1:=h1.up hB0;have l2:=h2.up hB0;clear h h1 h2;obtain⟨tv,htv⟩:∃tv,Value.slice a1 b.things.length c1=tv:=⟨_,rfl⟩;rw[htv] at l1 hC;clear htv;obtain⟨e0,e1⟩:=hC.c2';have hlt:=hC.2.2;go_wp2_with fail
 refine (Afc b.things tv _ l1).mono ?_;rintro e w2 ⟨rfl,m2,hw2⟩;have hB:Below W1.heap.size W1 w2:=by rw[hw2];exact E8 (A4 _ _) _
 clear hw2;cases ho:pB (ThingsOk b.things)
 ·have Hq:Hid (bookB b=false):=F3 λh=>J4.1 ho h.1
  go_wp2_with fail
  go_ret
  exact⟨D7 Hq.out.symm,D6 hB0 hB⟩
 have Ho:Hid (ThingsOk b.things):=F8.1 ho;clear ho;obtain⟨hc,hf⟩:=E6 hB;by_cases h5:5<b.bs.length
 ·have Hq:Hid (bookB b=false):=F3 λh=>by have:=h.2.1;omega
  go_wp2_with fail
  go_ret
  exact⟨D7 Hq.out.symm,D6 hB0 hB⟩
 obtain⟨-,hpos⟩:=l2.at;go_wp2_with fail
 clear hc hf;go_loopw [3,4,5] (λi _ _ w'=>∃k:Nat,k<=b.bs.length/\i=.int .i64 k/\At11 b k/\Below W1.heap.size W1 w') (λi _ _ _=>b.bs.length-(intOf i).toNat)
 case atStart=>exact⟨0,by omega,rfl,⟨NamesTo.zero _,AscTo.zero _,BasTo.zero _ _,ApartTo.zero _⟩,hB⟩
 case round =>
  clear hB;obtain⟨k,hk,rfl,hal,hB⟩:=hrel;have Hal:Hid (At11 b k):=hal;clear hal;have f0:=(hB.cell (p:=⟨w.heap.size,0,none⟩) hlt).trans e0;have f1:=(hB.cell (p:=⟨w.heap.size,1,none⟩) hlt).trans e1;have hsz:=hB.size;by_cases hp:k<b.bs.length
  ·obtain⟨bb,o,rfl,hS,hb⟩:=hpos (by omega)
   obtain⟨a3,d3,a4,d4,c3,c4,c5,l3,l4,z0⟩:=((hS.at hp).up hB hb).cells;have Hx:Hid (b.bs[k]?=some b.bs[k]):=A0 hp;have HP:Hid (∀(m:Nat) (hm:m<b.bs.length),ApartTo b.bs k m->m<k->shareB (b.bs[k]).has (b.bs[m]).has=false->ApartTo b.bs k (m+1)):=λm hm h h1 h2=>h.step hp h1 h2
   have HA:Hid (∀(m:Nat) (hm:m<b.bs.length),m<k->shareB (b.bs[k]).has (b.bs[m]).has=true->bookB b=false):=λm hm h1 h2=>F3 λhb=>by
    rw[hb.2.2.2.2.2.at hp h1] at h2;cases h2
   generalize b.bs[k]=x0 at *;have HN:Hid (¬One11 b k x0->bookB b=false):=λh=>F3 λhb=>h (AmO hb Hx.out);have hC1:CB (wr.alloc (.cells #[.string (x0).nm,.slice a3 (x0).has.length d3,.slice a4 (x0).needs.length d4] 128)) wr.heap.size [.string x0.nm,.slice a3 x0.has.length d3,.slice a4 x0.needs.length d4]:=E7 wr _ _;have hb5:=(A4 wr.heap.size wr).alloc (A3 _) (.cells #[.string (x0).nm,.slice a3 (x0).has.length d3,.slice a4 (x0).needs.length d4] 128);go_upto_region 7 with fail
   generalize wr.alloc (.cells #[.string (x0).nm,.slice a3 (x0).has.length d3,.slice a4 (x0).needs.length d4] 128)=W2 at *;have hB5:=D6 hB hb5;have l3:=l3.up hb5;have l4:=l4.up hb5;have l1':=l1.up hB5;obtain⟨hv,hhv⟩:∃hv,Value.slice a3 x0.has.length d3=hv:=⟨_,rfl⟩;obtain⟨nv,hnv⟩:∃nv,Value.slice a4 x0.needs.length d4=nv:=⟨_,rfl⟩;rw[hhv] at l3 hC1;rw[hnv] at l4 hC1;have f0:=(hB5.cell (p:=⟨w.heap.size,0,none⟩) hlt).trans e0;have f1:=(hB5.cell (p:=⟨w.heap.size,1,none⟩) hlt).trans e1;have hxl:=hC1.2.2;obtain⟨⟨q0,q1,q2⟩,-⟩:=hC1.c3;have hne:wr.heap.size≠w.heap.size:=by omega
   have hS5:=hS.up hB5 hb;clear hhv hnv c3 c4 c5 hb5 hB hS hsz;generalize wr.heap.size=xb at *;have Q0:Hid (∀n,Calls Tryz.prog 120 #[.string x0.nm] (W2.drewN n) λe w''=>e=.returned (.bool (nameB x0.nm))/\∃m,w''=W2.drewN m):=λn=>Calls.quiet_of_same (Aam _ _ z0);have Q1:Hid (∀n,Calls Tryz.prog 85 #[nv,tv] (W2.drewN n) λe w''=>e=.returned (.bool (pB (PartOk x0.needs b.things)))/\∃m,w''=W2.drewN m):=λn=>Calls.quiet_of (Y6 x0.needs b.things nv tv _ l4.drewN l1'.drewN);have Q2:Hid (∀n,Calls Tryz.prog 85 #[hv,nv] (W2.drewN n) λe w''=>e=.returned (.bool (pB (PartOk x0.has x0.needs)))/\∃m,w''=W2.drewN m):=λn=>Calls.quiet_of (Y6 x0.has x0.needs hv nv _ l3.drewN l4.drewN);cases hq:nameB x0.nm
   ·have Hq:Hid (¬One11 b k x0):=λh=>by rw[h.1] at hq;cases hq
    (go_wp2_with fail;go_quiet ((first|(go_at_call 120;exact Q0.out _)|(go_at_call_of 85 tv;exact Q1.out _)|(go_at_call_of 85 hv;exact Q2.out _)));go_wp2;go_ret;exact⟨D7 (HN.out (by first|exact Hq.out)).symm,D6 hB0 (E8 hB5 _)⟩)
   have H1:Hid (nameB x0.nm=true):=hq;cases k with
   | zero =>
    have H2:Hid (∀y,0<0->b.bs[0-1]?=some y->ltS y.nm x0.nm=true):=λy h=>by omega
    cases hq1:pB (PartOk x0.needs b.things)
    ·have Hq:Hid (¬One11 b (0) x0):=λh=>J4.1 hq1 h.2.2.1
     (go_wp2_with fail;go_quiet ((first|(go_at_call 120;exact Q0.out _)|(go_at_call_of 85 tv;exact Q1.out _)|(go_at_call_of 85 hv;exact Q2.out _)));go_wp2;go_ret;exact⟨D7 (HN.out (by first|exact Hq.out)).symm,D6 hB0 (E8 hB5 _)⟩)
    have H3:Hid (PartOk x0.needs b.things):=F8.1 hq1;cases hq2:pB (PartOk x0.has x0.needs)
    ·have Hq:Hid (¬One11 b (0) x0):=λh=>J4.1 hq2 h.2.2.2
     (go_wp2_with fail;go_quiet ((first|(go_at_call 120;exact Q0.out _)|(go_at_call_of 85 tv;exact Q1.out _)|(go_at_call_of 85 hv;exact Q2.out _)));go_wp2;go_ret;exact⟨D7 (HN.out (by first|exact Hq.out)).symm,D6 hB0 (E8 hB5 _)⟩)
    have H4:Hid (One11 b (0) x0):=⟨H1.out,H2.out,H3.out,F8.1 hq2⟩;go_wp2_with fail
    go_quiet ((first|(go_at_call 120;exact Q0.out _)|(go_at_call_of 85 tv;exact Q1.out _)|(go_at_call_of 85 hv;exact Q2.out _)))
    have hBX:Below W1.heap.size W1 (W2.drewN nq):=E8 hB5 _;have x1:(W2.drewN nq).cell? ⟨xb,1,none⟩=some hv:=q1;have y1:(W2.drewN nq).cell? ⟨w.heap.size,1,none⟩=some (.slice (some ⟨bb,o,none⟩) b.bs.length c2):=f1;have lX:Ls (W2.drewN nq) hv x0.has:=l3;have sX:BsAt (W2.drewN nq) bb o b.bs:=hS5;clear Q0 Q1 Q2 hB5 q0 q1 q2 f0 f1 l3 l4 l1' hS5 hC1 HN H1 H2 H3 hq1 hq2 hq;generalize W2.drewN nq=X at *;go_wp2_with fail
    go_loopw [5] (λj w'=>∃m n:Nat,m<=0/\j=.int .i64 m/\ApartTo b.bs (0) m/\w'=X.drewN n) (λj _=>0-(intOf j).toNat)
    case atStart=>exact⟨0,0,by omega,rfl,Hal.out.2.2.2,rfl⟩
    case round =>
     obtain⟨m,n,hm,rfl,hap,hw⟩:=hrel;have Hw:Hid (wr=X.drewN n):=hw;have Hap:Hid (ApartTo b.bs (0) m):=hap;clear hw hap;have hBw:Below W1.heap.size W1 wr:=by rw[Hw.out];exact E8 hBX _
     by_cases hmk:m<0
     ·omega
     ·have Hs:Hid (At11 b (0+1)):=Afy Hal.out Hx.out H4.out (Hap.out.next hmk)
      go_wp2_with fail
      go_roundw
      case rel=>exact⟨0+1,by omega,by go_num,Hs.out,hBw⟩
      case measure=>simp[intOf];omega
   | succ k =>
    obtain⟨-,-,-,-,p0,-⟩:=(hS5.at (k:=k) (by omega)).cells;have Hy:Hid (b.bs[k+1-1]?=some (b.bs[k]'(by omega))):=by show _=_;rw[Nat.add_sub_cancel];exact A0 _
    generalize b.bs[k]'(by omega)=y0 at *;cases hl:ltS y0.nm x0.nm
    ·have Hq:Hid (¬One11 b (k+1) x0):=λh=>by rw[h.2.1 y0 (by omega) Hy.out] at hl;cases hl
     unfold ltS at hl
     (go_wp2_with fail;go_quiet ((first|(go_at_call 120;exact Q0.out _)|(go_at_call_of 85 tv;exact Q1.out _)|(go_at_call_of 85 hv;exact Q2.out _)));go_wp2;go_ret;exact⟨D7 (HN.out (by first|exact Hq.out)).symm,D6 hB0 (E8 hB5 _)⟩)
    have H2:Hid (∀y,0<k+1->b.bs[k+1-1]?=some y->ltS y.nm x0.nm=true):=λy _ hy=>by
     rw[Hy.out] at hy;obtain rfl:=A5 hy;exact hl
    unfold ltS at hl;cases hq1:pB (PartOk x0.needs b.things)
    ·have Hq:Hid (¬One11 b (k+1) x0):=λh=>J4.1 hq1 h.2.2.1
     (go_wp2_with fail;go_quiet ((first|(go_at_call 120;exact Q0.out _)|(go_at_call_of 85 tv;exact Q1.out _)|(go_at_call_of 85 hv;exact Q2.out _)));go_wp2;go_ret;exact⟨D7 (HN.out (by first|exact Hq.out)).symm,D6 hB0 (E8 hB5 _)⟩)
    have H3:Hid (PartOk x0.needs b.things):=F8.1 hq1;cases hq2:pB (PartOk x0.has x0.needs)
    ·have Hq:Hid (¬One11 b (k+1) x0):=λh=>J4.1 hq2 h.2.2.2
     (go_wp2_with fail;go_quiet ((first|(go_at_call 120;exact Q0.out _)|(go_at_call_of 85 tv;exact Q1.out _)|(go_at_call_of 85 hv;exact Q2.out _)));go_wp2;go_ret;exact⟨D7 (HN.out (by first|exact Hq.out)).symm,D6 hB0 (E8 hB5 _)⟩)
    have H4:Hid (One11 b (k+1) x0):=⟨H1.out,H2.out,H3.out,F8.1 hq2⟩;go_wp2_with fail
    go_quiet ((first|(go_at_call 120;exact Q0.out _)|(go_at_call_of 85 tv;exact Q1.out _)|(go_at_call_of 85 hv;exact Q2.out _)))
    have hBX:Below W1.heap.size W1 (W2.drewN nq):=E8 hB5 _;have x1:(W2.drewN nq).cell? ⟨xb,1,none⟩=some hv:=q1;have y1:(W2.drewN nq).cell? ⟨w.heap.size,1,none⟩=some (.slice (some ⟨bb,o,none⟩) b.bs.length c2):=f1;have lX:Ls (W2.drewN nq) hv x0.has:=l3;have sX:BsAt (W2.drewN nq) bb o b.bs:=hS5;clear Q0 Q1 Q2 hB5 q0 q1 q2 f0 f1 l3 l4 l1' hS5 hC1 HN H1 H2 H3 hq1 hq2 hq;clear p0;generalize W2.drewN nq=X at *;go_wp2_with fail
    go_loopw [5] (λj w'=>∃m n:Nat,m<=k+1/\j=.int .i64 m/\ApartTo b.bs (k+1) m/\w'=X.drewN n) (λj _=>k+1-(intOf j).toNat)
    case atStart=>exact⟨0,0,by omega,rfl,Hal.out.2.2.2,rfl⟩
    case round =>
     obtain⟨m,n,hm,rfl,hap,hw⟩:=hrel;have Hw:Hid (wr=X.drewN n):=hw;have Hap:Hid (ApartTo b.bs (k+1) m):=hap;clear hw hap;have hBw:Below W1.heap.size W1 wr:=by rw[Hw.out];exact E8 hBX _
     by_cases hmk:m<k+1
     ·have hml:m<b.bs.length:=by omega
      obtain⟨a5,d5,a6,d6,-,r1,-,l5,-,-⟩:=(sX.at hml).cells;have r1':wr.cell? ⟨bb,o+m*3+1,none⟩=some (.slice a5 (b.bs[m]).has.length d5):=by rw[Hw.out];exact r1
      have x1':wr.cell? ⟨xb,1,none⟩=some hv:=by rw[Hw.out];exact x1
      have y1':wr.cell? ⟨w.heap.size,1,none⟩=some (.slice (some ⟨bb,o,none⟩) b.bs.length c2):=by rw[Hw.out];exact y1
      have HP1:Hid (shareB x0.has (b.bs[m]).has=false->ApartTo b.bs (k+1) (m+1)):=HP.out m hml Hap.out hmk;have HA1:Hid (shareB x0.has (b.bs[m]).has=true->bookB b=false):=HA.out m hml hmk;have lX':Ls wr hv x0.has:=by rw[Hw.out];exact lX
      have l5':Ls wr (.slice a5 (b.bs[m]).has.length d5) (b.bs[m]).has:=by rw[Hw.out];exact l5
      clear r1 l5;generalize b.bs[m]=y0 at *;obtain⟨uv,huv⟩:∃uv,Value.slice a5 y0.has.length d5=uv:=⟨_,rfl⟩;rw[huv] at r1' l5';clear huv;cases hs:shareB x0.has y0.has
      ·have Hs:Hid (ApartTo b.bs (k+1) (m+1)):=HP1.out hs
       have Q3:Hid (∀n,Calls Tryz.prog 121 #[hv,uv] (wr.drewN n) λe w''=>e=.returned (.bool false)/\∃m,w''=wr.drewN m):=λn=>by rw[← hs];exact Calls.quiet_of_same (Aa3 x0.has y0.has hv uv _ lX'.drewN l5'.drewN)
       go_wp2_with fail
       go_quiet ((go_at_call 121;exact Q3.out _))
       go_wp2_with fail
       go_roundw
       case rel =>
        obtain⟨m',hm'⟩:=M2 (n:=nq) Hw.out;exact⟨m+1,m',by omega,by go_num,Hs.out,hm'⟩
       case measure=>simp[intOf];omega
      ·have Hs:Hid (bookB b=false):=HA1.out hs
       have Q3:Hid (∀n,Calls Tryz.prog 121 #[hv,uv] (wr.drewN n) λe w''=>e=.returned (.bool true)/\∃m,w''=wr.drewN m):=λn=>by rw[← hs];exact Calls.quiet_of_same (Aa3 x0.has y0.has hv uv _ lX'.drewN l5'.drewN)
       go_wp2_with fail
       go_quiet ((go_at_call 121;exact Q3.out _))
       go_wp2_with fail
       go_ret
       exact⟨D7 Hs.out.symm,D6 hB0 (E8 hBw _)⟩
     ·have Hs:Hid (At11 b (k+1+1)):=Afy Hal.out Hx.out H4.out (Hap.out.next hmk)
      go_wp2_with fail
      go_roundw
      case rel=>exact⟨k+1+1,by omega,by go_num,Hs.out,hBw⟩
      case measure=>simp[intOf];omega
  ·have Hq:Hid (bookB b=true):=I7 (AmP Hal.out hp Ho.out (by omega))
   go_wp2_with fail
   go_ret
   exact⟨D7 Hq.out.symm,D6 hB0 hB⟩
theorem Aa4 (ss:List ByteArray) (v:Value) (w:World) (h:Ls w v ss) (hn:ss.length<=1048576) :
  Calls Tryz.prog 83 #[v] w λe w'=>(∃u,e=.returned u/\OwnT w' w.heap.size u ss/\NN u)/\Below w.heap.size w w':=by
 obtain⟨a,c,rfl,-,-,hpos⟩:=h;obtain⟨ii,hi,iz0,iz1,iz2⟩:=info_parts M1;have ho:=Abx w;have hb:=(A4 w.heap.size w).alloc (A3 _) (.cells #[] 9);rcases C4 ss.length with h0|h0
 ·obtain rfl:=C5.1 h0
  simp only[List.length_nil];go_enter Tryz.func83,Tryz.ntmps83
  go_wp2_with (at_builtin;refine AcR _ rfl _ _ 22 rfl w.heap.size 9 ii 1 Tryz.underlying22 hi _ 0 [] rfl ho a c rfl ?_)
  go_ret
  exact⟨⟨_,rfl,ho,_,_,_,rfl⟩,hb⟩
 ·obtain⟨g,o,rfl,hS,hg⟩:=hpos h0
  have hn1:=K0 (hS.alloc (.cells #[] 9));go_enter Tryz.func83,Tryz.ntmps83
  go_wp2_with (at_builtin;refine wpList_append_own _ rfl _ _ 22 rfl w.heap.size 9 ii _ 1 16 Tryz.underlying22 hi iz0 iz1 iz2 rfl (by decide) _ 0 [] rfl ho ⟨g,o,none⟩ ss.length c (ss.map Value.string) rfl (by simp) hn1 (Aaa ss) (by unfold maxLen;omega) (by omega) hb.size ?_)
  intro v1 w1 hown1 hgr1 _;have hB1:=I3 hb ho hgr1 (A3 _);have ho1:OwnT w1 w.heap.size v1 ss:=by unfold OwnT;simpa using hown1
  obtain⟨g1,k1,rfl⟩:=F4 ho1 h0;clear hown1 hgr1 ho hb hn1;go_wp2_with fail
  go_ret
  exact⟨⟨_,rfl,ho1,_,_,_,rfl⟩,hB1⟩
theorem Ac8 (b:Bk) (v:Value) (w:World) (h:BkV w v b) (hn:b.things.length<=1048576) (hn5:b.bs.length<=100) (hsm:∀y∈b.bs,y.has.length<=1048576/\y.needs.length<=1048576) :
  Calls Tryz.prog 42 #[v] w λe w'=>(∃tu bu ps,e=.returned (.agg #[tu,bu])/\OwnT w' w.heap.size tu b.things/\BsW w' w.heap.size bu ps/\ps.map (·.1)=b.bs/\Fam w' w.heap.size none ((tu,b.things)::famB ps)/\∀p∈ps,NN p.2.1)/\Below w.heap.size w w':=by
 obtain⟨a1,c1,a2,c2,rfl,h1,h2⟩:=h.parts;obtain⟨ii,hi,iz0,iz1,iz2⟩:=info_parts Aat;obtain⟨W1,hW1,kA,kR,hB1,hs1⟩:=L1 w [.slice a1 (b).things.length c1,.slice a2 (b).bs.length c2] 33 [.slice none 0 0,.slice none 0 0] 33;go_enter Tryz.func42,Tryz.ntmps42
 go_upto_region 1 with fail
 try rw[hW1]
 clear hW1;have l1:=h1.up hB1;have l2:=h2.up hB1;obtain⟨e0,e1⟩:=kA.c2';clear h h1 h2;go_wp2_with fail
 refine (Aa4 b.things _ _ l1 hn).mono ?_;rintro e w2 ⟨⟨tu,rfl,hot,-⟩,hb2⟩;obtain⟨at1,ct1,rfl⟩:=hot.lst.shape;have hz2:=hb2.size;have kA2:=kA.up hb2 (by omega);have kR2:=kR.up hb2 (by omega);have l2':=l2.up hb2;have hBw2:=D6 hB1 hb2;have hW1z:w.heap.size+1<W1.heap.size:=by omega
 have hW1l:w.heap.size<=W1.heap.size:=by omega
 have hF2:Fam w2 W1.heap.size (some w2.heap.size) [(.slice at1 b.things.length ct1,b.things)]:=((AeR w2 W1.heap.size none).mk1 hot).avoid (A3 _);clear e0 e1 l1 l2 kA kR hs1 hB1 hb2;go_upto_region 2 with fail
 obtain⟨W3,hW3,kX,hb3,hs3⟩:=K9 w2 [.slice at1 b.things.length ct1,.slice none 0 0] 33;rw[hW3];clear hW3;clear hs3;have hF3:=hF2.up hb3;clear hF2;obtain⟨f0,f1⟩:=kA2.c2';have hla:=kA2.2.2;obtain⟨-,hpos⟩:=l2'.at;have hax:w.heap.size+1<w2.heap.size:=kR2.2.2;go_wp2_with fail
 go_loopw [4] (λi w'=>∃(k:Nat) (ps:List Bv) (xv:Value),k<=b.bs.length/\i=.int .i64 k/\ps.map (·.1)=b.bs.take k/\CB w' w2.heap.size [.slice at1 b.things.length ct1,xv]/\BsW w' (w2.heap.size+1) xv ps/\Below w2.heap.size w2 w'/\Fam w' W1.heap.size (some w2.heap.size) ((.slice at1 b.things.length ct1,b.things)::famB ps)/\∀p∈ps,NN p.2.1) (λi _=>b.bs.length-(intOf i).toNat)
 case atStart=>exact⟨0,[],.slice none 0 0,by omega,rfl,by simp,kX,⟨⟨by simp[rowsB],.inl ⟨rfl,rfl⟩⟩,λp hp=>by simp at hp⟩,hb3,hF3,λp hp=>by simp at hp⟩
 case round =>
  clear kX hb3 hF3;obtain⟨k,ps,xv,hk,rfl,hps,kX,hW,hB,hF,hnn⟩:=hrel;have HF:Hid (Fam wr W1.heap.size (some w2.heap.size) ((.slice at1 b.things.length ct1,b.things)::famB ps)):=hF;clear hF;have Hnn:Hid (∀p∈ps,NN p.2.1):=hnn;clear hnn;have Hps:Hid (ps.map (·.1)=b.bs.take k):=hps;have hpl:ps.length=k:=by have:=congrArg List.length hps;simp at this;omega
  clear hps;by_cases hp:k<b.bs.length
  ·obtain⟨bb,o,rfl,hS,hb⟩:=hpos (by omega)
   obtain⟨a3,d3,a4,d4,c3,c4,c5,l3,l4,z0⟩:=(hS.at hp).cells;have g1:=(hB.cell (p:=⟨w.heap.size,1,none⟩) hla).trans f1;have c3:=(hB.cell (p:=⟨bb,o+k*3,none⟩) hb).trans c3;have c4:=(hB.cell (p:=⟨bb,o+k*3+1,none⟩) hb).trans c4;have c5:=(hB.cell (p:=⟨bb,o+k*3+2,none⟩) hb).trans c5;obtain⟨s1,s2⟩:=hsm b.bs[k] (by simp);have l3:=l3.up hB;have l4:=l4.up hB;have HX:Hid (b.bs.take (k+1)=b.bs.take k++[b.bs[k]]):=A7 hp;generalize b.bs[k]=x0 at *;obtain⟨⟨x0c,x1c⟩,xf0,xf1⟩:=kX.c2;have hxl:=kX.2.2;have hzb:=hB.size;have hA':w.heap.size<w2.heap.size+1:=by omega
   have hbb':bb<w2.heap.size+1:=by omega
   have mk:∀w',Below (w2.heap.size+1) wr w'->Below (w2.heap.size+1) wr w'/\World.cell? w' ⟨w.heap.size,1,none⟩=some (.slice (some ⟨bb,o,none⟩) b.bs.length c2)/\World.cell? w' ⟨bb,o+k*3,none⟩=some (.string x0.nm)/\World.cell? w' ⟨bb,o+k*3+1,none⟩=some (.slice a3 x0.has.length d3)/\World.cell? w' ⟨bb,o+k*3+2,none⟩=some (.slice a4 x0.needs.length d4)/\World.cell? w' ⟨w2.heap.size,1,none⟩=some xv:=λw' hb'=>⟨hb',(hb'.cell (p:=⟨w.heap.size,1,none⟩) hA').trans g1,(hb'.cell (p:=⟨bb,o+k*3,none⟩) hbb').trans c3,(hb'.cell (p:=⟨bb,o+k*3+1,none⟩) hbb').trans c4,(hb'.cell (p:=⟨bb,o+k*3+2,none⟩) hbb').trans c5,(hb'.cell (p:=⟨w2.heap.size,1,none⟩) (Nat.lt_succ_self _)).trans x1c⟩;have hS0:=mk wr (A4 _ _);have hrow:=hW.1;rw[hpl] at hrow;have hb0:Below wr.heap.size wr wr.drew:=(A4 _ _).drew;have Mk:Hid (∀w',Below (w2.heap.size+1) wr w'->Below (w2.heap.size+1) wr w'/\World.cell? w' ⟨w.heap.size,1,none⟩=some (.slice (some ⟨bb,o,none⟩) b.bs.length c2)/\World.cell? w' ⟨bb,o+k*3,none⟩=some (.string x0.nm)/\World.cell? w' ⟨bb,o+k*3+1,none⟩=some (.slice a3 x0.has.length d3)/\World.cell? w' ⟨bb,o+k*3+2,none⟩=some (.slice a4 x0.needs.length d4)/\World.cell? w' ⟨w2.heap.size,1,none⟩=some xv):=mk;clear mk g1 c3 c4 c5 x0c x1c;have hS1:Below (w2.heap.size+1) wr wr.drew/\World.cell? wr.drew ⟨w.heap.size,1,none⟩=some (.slice (some ⟨bb,o,none⟩) b.bs.length c2)/\World.cell? wr.drew ⟨bb,o+k*3,none⟩=some (.string x0.nm)/\World.cell? wr.drew ⟨bb,o+k*3+1,none⟩=some (.slice a3 x0.has.length d3)/\World.cell? wr.drew ⟨bb,o+k*3+2,none⟩=some (.slice a4 x0.needs.length d4)/\World.cell? wr.drew ⟨w2.heap.size,1,none⟩=some xv:=Mk.out _ (A4 _ _).drew;go_wp2_with fail
   refine F5 26 (λw'=>Below (w2.heap.size+1) wr w'/\World.cell? w' ⟨w.heap.size,1,none⟩=some (.slice (some ⟨bb,o,none⟩) b.bs.length c2)/\World.cell? w' ⟨bb,o+k*3,none⟩=some (.string x0.nm)/\World.cell? w' ⟨bb,o+k*3+1,none⟩=some (.slice a3 x0.has.length d3)/\World.cell? w' ⟨bb,o+k*3+2,none⟩=some (.slice a4 x0.needs.length d4)/\World.cell? w' ⟨w2.heap.size,1,none⟩=some xv) (by kernel_rfl) ?_;refine tkx 0 rfl hS1 ?_;refine tkx 1 rfl hS1 ?_;refine tkx 2 rfl hS1 ?_;refine tkx 3 rfl hS1 ?_;refine tkx 4 rfl hS1 ?_;refine tkx 5 rfl hS1 ?_;refine tkx 6 rfl hS1 ?_;refine tkx 7 rfl hS1 ?_;refine tkx 8 rfl hS1 ?_;refine tkx 9 rfl hS1 ?_;refine tkx 10 rfl hS1 ?_;refine tkx 11 rfl hS1 ?_;refine tkx 12 rfl hS1 ?_;refine tkx 13 rfl hS1 ?_;refine tkx 15 rfl hS1 ?_;refine tkx 16 rfl hS1 ?_;refine tkx 17 rfl hS1 ?_;refine tkx 18 rfl hS1 ?_;refine tkx 19 rfl hS1 ?_;refine tkx 20 rfl hS1 ?_;refine D8 (i:=14) (by kernel_rfl) rfl (λK hK=>?_);go_simp
   go_wp2_with (go_at_call 83;refine (Aa4 x0.has _ _ (l3.up hb0) s1).mono ?_;rintro e w8 ⟨⟨hu,rfl,hoh,hun⟩,hbn8⟩;have Hun:Hid (NN hu):=hun;clear hun;have hb8:=D6 hb0 hbn8;obtain⟨ah,ch,rfl⟩:=hoh.lst.shape;have hS8:Below (w2.heap.size+1) wr w8/\World.cell? w8 ⟨w.heap.size,1,none⟩=some (.slice (some ⟨bb,o,none⟩) b.bs.length c2)/\World.cell? w8 ⟨bb,o+k*3,none⟩=some (.string x0.nm)/\World.cell? w8 ⟨bb,o+k*3+1,none⟩=some (.slice a3 x0.has.length d3)/\World.cell? w8 ⟨bb,o+k*3+2,none⟩=some (.slice a4 x0.needs.length d4)/\World.cell? w8 ⟨w2.heap.size,1,none⟩=some xv:=Mk.out _ (hb8.mono hxl))
   refine hK.out _ _ (λ_=>hS8) ?_;clear hK K;refine D8 (i:=21) (by kernel_rfl) rfl (λK hK=>?_);go_simp
   go_wp2_with (go_at_call 83;refine (Aa4 x0.needs _ _ (l4.up hb8) s2).mono ?_;rintro e w9 ⟨⟨nu,rfl,hon,-⟩,hbn9⟩;have hb9:=D6 hb8 hbn9;obtain⟨an,cn,rfl⟩:=hon.lst.shape;have hS9:Below (w2.heap.size+1) wr w9/\World.cell? w9 ⟨w.heap.size,1,none⟩=some (.slice (some ⟨bb,o,none⟩) b.bs.length c2)/\World.cell? w9 ⟨bb,o+k*3,none⟩=some (.string x0.nm)/\World.cell? w9 ⟨bb,o+k*3+1,none⟩=some (.slice a3 x0.has.length d3)/\World.cell? w9 ⟨bb,o+k*3+2,none⟩=some (.slice a4 x0.needs.length d4)/\World.cell? w9 ⟨w2.heap.size,1,none⟩=some xv:=Mk.out _ (hb9.mono hxl))
   refine hK.out _ _ (λ_=>hS9) ?_;clear hK K;refine tkx 22 rfl hS9 ?_;have hSA:Below (w2.heap.size+1) wr (w9.alloc (.cells #[.string x0.nm,.slice ah x0.has.length ch,.slice an x0.needs.length cn] 128))/\World.cell? (w9.alloc (.cells #[.string x0.nm,.slice ah x0.has.length ch,.slice an x0.needs.length cn] 128)) ⟨w.heap.size,1,none⟩=some (.slice (some ⟨bb,o,none⟩) b.bs.length c2)/\World.cell? (w9.alloc (.cells #[.string x0.nm,.slice ah x0.has.length ch,.slice an x0.needs.length cn] 128)) ⟨bb,o+k*3,none⟩=some (.string x0.nm)/\World.cell? (w9.alloc (.cells #[.string x0.nm,.slice ah x0.has.length ch,.slice an x0.needs.length cn] 128)) ⟨bb,o+k*3+1,none⟩=some (.slice a3 x0.has.length d3)/\World.cell? (w9.alloc (.cells #[.string x0.nm,.slice ah x0.has.length ch,.slice an x0.needs.length cn] 128)) ⟨bb,o+k*3+2,none⟩=some (.slice a4 x0.needs.length d4)/\World.cell? (w9.alloc (.cells #[.string x0.nm,.slice ah x0.has.length ch,.slice an x0.needs.length cn] 128)) ⟨w2.heap.size,1,none⟩=some xv:=Mk.out _ ((hb9.mono hxl).alloc (B1 hxl hb9.size) _);have hownA:=(E1 hrow hb9).alloc (.cells #[.string x0.nm,.slice ah x0.has.length ch,.slice an x0.needs.length cn] 128);refine D8 (i:=23) (by kernel_rfl) rfl (λK hK=>?_);go_simp
   refine hK.out _ _ (λ_=>hSA) ?_;clear hK K;refine D8 (i:=24) (by kernel_rfl) rfl (λK hK=>?_);refine F6 rfl _ _ 31 rfl (w2.heap.size+1) 128 ii _ 3 64 Tryz.underlying31 hi iz0 iz1 iz2 rfl (by decide) xv _ _ rfl hownA ⟨w9.heap.size,0,none⟩ 1 1 [.string x0.nm,.slice ah x0.has.length ch,.slice an x0.needs.length cn] rfl rfl (λj u hj=>Aja _ _ _ _ _ hj) (by simp[Value.oneCell']) (by unfold maxLen;omega) (by omega) (by have:=hb9.size;simp;omega) ?_;intro v' w10 hown10 hgr10;have kX10:=((kX.up hb9 hxl).up ((A4 w9.heap.size w9).alloc (A3 _) (.cells #[.string x0.nm,.slice ah x0.has.length ch,.slice an x0.needs.length cn] 128)) (A1 hxl hb9.size)).kept hgr10 (X8 hownA (by omega));have hBW10:=An6 hW hb9 (G4 (hoh.up hbn9) hxl) (G4 hon (B1 hxl hb8.size)) z0 hgr10 (by rw[hpl];exact hown10);have hb10:Below (w2.heap.size+1) wr w10:=F1 ((hb9.mono hxl).alloc (B1 hxl hb9.size) (.cells #[.string x0.nm,.slice ah x0.has.length ch,.slice an x0.needs.length cn] 128)) (by have:=hb9.size;simp;omega) hownA hgr10 (A3 _);have hS10:Below (w2.heap.size+1) wr w10/\World.cell? w10 ⟨w.heap.size,1,none⟩=some (.slice (some ⟨bb,o,none⟩) b.bs.length c2)/\World.cell? w10 ⟨bb,o+k*3,none⟩=some (.string x0.nm)/\World.cell? w10 ⟨bb,o+k*3+1,none⟩=some (.slice a3 x0.has.length d3)/\World.cell? w10 ⟨bb,o+k*3+2,none⟩=some (.slice a4 x0.needs.length d4)/\World.cell? w10 ⟨w2.heap.size,1,none⟩=some xv:=Mk.out _ hb10;obtain⟨gg,cc,rfl⟩:=F4 hown10 (by omega);obtain⟨⟨j0,j1⟩,m0,m1⟩:=kX10.c2;refine hK.out _ _ (λ_=>hS10) ?_;clear hK K;refine tkx 25 rfl hS10 ?_;refine D8 (i:=26) (by kernel_rfl) rfl (λK hK=>?_);go_simp
   refine hK.out _ _ (λh=>absurd rfl h) ?_;clear hK K;refine F0 (by kernel_rfl) ?_ _
   have hF10:Fam w10 W1.heap.size (some w2.heap.size) ((.slice at1 b.things.length ct1,b.things)::famB (ps++[((x0,.slice ah x0.has.length ch,.slice an x0.needs.length cn):Bv)])):=by
    have f0:=HF.out;have f8:=f0.new (f0.up hb8) hoh (A3 _) (by have:=hB.size;have:=hBw2.size;show W1.heap.size<=wr.heap.size;omega) (AaI hxl);have f9:=f8.new (f8.up hbn9) hon (A3 _) (by have:=hb8.size;omega) (AaI (by have:=hb8.size;omega));have fA:=(f9.up ((A4 w9.heap.size w9).alloc (A3 _) (.cells #[.string x0.nm,.slice ah x0.has.length ch,.slice an x0.needs.length cn] 128))).row hownA hgr10;exact fA.turn.perm (Afh ps (x0,.slice ah x0.has.length ch,.slice an x0.needs.length cn) [(.slice at1 b.things.length ct1,b.things)])
   have HNN:Hid (∀p∈ps++[((x0,.slice ah x0.has.length ch,.slice an x0.needs.length cn):Bv)],NN p.2.1):=λp hp=>by
    rcases D1.1 hp with h|h
    ·exact Hnn.out p h
    ·obtain rfl:p=(x0,.slice ah x0.has.length ch,.slice an x0.needs.length cn):=by simpa using h
     exact Hun.out
   have HM:Hid ((ps++[((x0,.slice ah x0.has.length ch,.slice an x0.needs.length cn):Bv)]).map (·.1)=b.bs.take (k+1)):=by
    show _=_
    rw[HX.out,List.map_append,Hps.out];rfl
   have hB10:Below w2.heap.size w2 (w10.setCell ⟨w2.heap.size,1,none⟩ (.slice (some ⟨gg,0,none⟩) (k+1) cc)):=(hB.trans (hb10.mono (Nat.le_succ _))).setCell (p:=⟨w2.heap.size,1,none⟩) (A3 _) _;have kX11:CB (w10.setCell ⟨w2.heap.size,1,none⟩ (.slice (some ⟨gg,0,none⟩) (k+1) cc)) w2.heap.size [.slice at1 b.things.length ct1,.slice (some ⟨gg,0,none⟩) (k+1) cc]:=kX10.set (j:=1) (by simp);have hF11:=hF10.set 1 (.slice (some ⟨gg,0,none⟩) (k+1) cc);have hBW11:=hBW10.set (j:=1) (u:=.slice (some ⟨gg,0,none⟩) (k+1) cc) (Nat.lt_succ_self w2.heap.size);clear hS1 hS8 hS9 hSA hS10 hownA hown10 hgr10 hb10 hb9 hb8 hbn8 hbn9 hoh hon kX10 hBW10 hF10 j0 j1 m0 m1 Mk hrow hW kX l3 l4 xf0 xf1 hS;go_wp2_with fail
   go_roundw
   case rel=>exact⟨k+1,_,_,by omega,by go_num,HM.out,kX11,hBW11,hB10,hF11,HNN.out⟩
   case measure=>simp[intOf];omega
  ·obtain rfl:k=b.bs.length:=by omega
   have kR:=kR2.up hB kR2.2.2;have g1:=(hB.cell (p:=⟨w.heap.size,1,none⟩) hla).trans f1;obtain⟨⟨x0c,x1c⟩,-⟩:=kX.c2;obtain⟨⟨y0c,y1c⟩,yf0,yf1⟩:=kR.c2;have hot2:=hot.up hB;have Hps2:Hid (ps.map (·.1)=b.bs):=by show _=_;rw[Hps.out,List.take_length]
   have hBB:=D6 hBw2 hB;obtain⟨ax,cx,rfl⟩:=F2 hW.1;clear hpos hpl;go_wp2_with fail
   refine AaW Tryz.results42 Tryz.underlying33 rfl J0 kR rfl ?_;refine⟨⟨_,_,ps,rfl,?_,?_,Hps2.out,((HF.out.free.setLow (by omega) _ _).setLow (by omega) _ _).low (by omega),Hnn.out⟩,F9 hBB (Nat.le_succ _) _ _⟩
   ·exact (show OwnT _ _ _ _ from G4 (E9 (E9 hot2 (E0 (rb:=w.heap.size+1) (off:=0) (E4 _ _) _) hW1z) (E0 (rb:=w.heap.size+1) (off:=1) (E4 _ _) _) hW1z) hW1l)
   ·exact ((hW.set (by omega)).set (by omega)).low (by omega)
theorem Abn (b:Bk) (v:Value) (s:ByteArray) (w:World) (h:BkV w v b) :
  Calls Tryz.prog 79 #[v,.string s] w λe w'=>e=.returned (.int .i64 (idxI (nms b.bs) s))/\Below w.heap.size w w':=by
 obtain⟨a1,c1,a2,c2,rfl,h1,h2⟩:=h.parts;have hC:CB (w.alloc (.cells #[.slice a1 (b).things.length c1,.slice a2 (b).bs.length c2] 33)) w.heap.size [.slice a1 b.things.length c1,.slice a2 b.bs.length c2]:=E7 w _ _;have hB0:=(A4 w.heap.size w).alloc (A3 _) (.cells #[.slice a1 (b).things.length c1,.slice a2 (b).bs.length c2] 33);have g2:=h2.at.1;unfold maxLen at g2;go_enter Tryz.func79,Tryz.ntmps79
 go_upto_region 1 with fail
 generalize w.alloc (.cells #[.slice a1 (b).things.length c1,.slice a2 (b).bs.length c2] 33)=W1 at *;have l2:=h2.up hB0;clear h h1 h2;obtain⟨e0,e1⟩:=hC.c2';obtain⟨-,hpos⟩:=l2.at;go_wp2_with fail
 go_loop [5] (λi=>∃k:Nat,k<=b.bs.length/\i=.int .i64 k/\memS ((nms b.bs).take k) s=false) (λi=>b.bs.length-(intOf i).toNat)
 case atStart=>exact⟨0,by omega,rfl,rfl⟩
 case round =>
  obtain⟨k,hk,rfl,hal⟩:=hrel;have Hal:Hid (memS ((nms b.bs).take k) s=false):=hal;clear hal;by_cases hp:k<b.bs.length
  ·obtain⟨bb,o,rfl,hS,hb⟩:=hpos (by omega)
   obtain⟨a3,d3,a4,d4,c3,c4,c5,-,-,-⟩:=(hS.at hp).cells;have hp':k<(nms b.bs).length:=by rw[I6];exact hp
   have Hn:Hid ((nms b.bs)[k]=(b.bs[k]).nm):=Q9 b.bs k hp;cases hq:((b.bs[k]).nm.toList==s.toList)
   ·have Hq:Hid (memS ((nms b.bs).take (k+1)) s=false):=Aa6 hp' Hal.out (by rw[Hn.out];exact hq)
    generalize b.bs[k]=x0 at *;go_wp2_with fail
    go_round
    case rel=>exact⟨k+1,by omega,by go_num,Hq.out⟩
    case measure=>simp[intOf];omega
   ·have Hq:Hid (idxI (nms b.bs) s=(k:Int)):=V0 hp' Hal.out (by rw[Hn.out];exact hq)
    generalize b.bs[k]=x0 at *;go_wp2_with fail
    go_ret
    exact⟨O3 Hq.out.symm,hB0⟩
  ·have Hq:Hid (idxI (nms b.bs) s=-1):=O5 (AaZ (by rw[I6];exact hp) Hal.out)
   go_wp2_with fail
   go_ret
   exact⟨O3 Hq.out.symm,hB0⟩
end Go.Proofs.YtebfdccbmmpceaaGreatDoor
