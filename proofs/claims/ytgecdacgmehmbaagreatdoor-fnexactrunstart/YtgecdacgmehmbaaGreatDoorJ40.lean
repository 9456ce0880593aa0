/- The laws' marks over slots: written, and held. -/
import Derived.Test.YtgecdacgmehmbaaGreatDoorJ19
import Derived.Test.YtgecdacgmehmbaaGreatDoorJ33
import Derived.Test.YtgecdacgmehmbaaGreatDoorJ39
set_option maxRecDepth 20000
set_option maxHeartbeats 4000000
namespace Go.Proofs.YtgecdacgmehmbaaGreatDoor
open Go.RowKit
theorem P8 {α:Type} {f:α->List Value} {s:Nat} (hf:∀a,(f a).length=s) {w:World} {base e g n cap k j:Nat} {l:List α} {a a':α} {u:Value} (h:w.ownsRow base e s (.slice (some ⟨g,0,none⟩) n cap) n (rowsF f (l.set k a))) (hk:k<l.length) (hj:j<s) (hu:f a'=(f a).set j u) :
  (w.setCell ⟨g,k*s+j,none⟩ u).ownsRow base e s (.slice (some ⟨g,0,none⟩) n cap) n (rowsF f (l.set k a'))/\w.grownBy (w.setCell ⟨g,k*s+j,none⟩ u) (some g):=by
 have h0:=B2 h (k*s+j) u;have e0:=R5 hf (l.set k a) k a a' j u (C9 hk) hj hu;rw[List.set_set] at e0;refine⟨?_,D9 (rb:=g) (E1 _ _) _⟩;rw[← e0];exact h0.1
theorem S6 {α:Type} {f:α->List Value} {s:Nat} (hf:∀a,(f a).length=s) {w:World} {base e g n cap k:Nat} {l:List α} {a:α} (h:w.ownsRow base e s (.slice (some ⟨g,0,none⟩) n cap) n (rowsF f (l.set k a))) (hk:k<l.length):w.rangeAt g (k*s) (f a):=J6 hf h (C9 hk)
def mkSl (m:Int):Sl:=⟨mkB m,mkB (m+1)⟩
def MarkedS (l:List Sl) (m:Int) (k:Nat):Prop:=∀i:Nat,i<k->l[i]?=some (mkSl (m+2*i))
theorem MarkedS.set {l:List Sl} {m:Int} {k:Nat} (h:MarkedS l m k) (hk:k<l.length):MarkedS (l.set k (mkSl (m+2*k))) m (k+1):=λi hi=>by
 rw[List.getElem?_set];by_cases e:k=i
 ·subst e;rw[if_pos rfl,if_pos hk]
 ·rw[if_neg e];exact h i (by omega)
theorem Aj6 (l:List Sl) (base:Nat) (u:Value) (m:Int) (w:World) (h:w.ownsRow base 81 2 u l.length (rowsF Sl.cells l)) (hn:l.length<=1000) (hm:1<=m) (hm9:m<=1000000) :
  Calls Tryz.prog 17 #[u,.int .i64 m] w λe w'=>e=.returned (.int .i64 (m+2*l.length))/\(∃ys,ys.length=l.length/\MarkedS ys m l.length/\w'.ownsRow base 81 2 u ys.length (rowsF Sl.cells ys))/\w.grownBy w' u.ownBlock:=by
 by_cases h0:l=[]
 ·subst h0
  obtain⟨a1,c1,rfl⟩:=E9 h;simp only[List.length_nil];have HO:Hid (w.ownsRow base 81 2 (.slice a1 0 c1) 0 []):=h;clear h;go_enter Tryz.func17,Tryz.ntmps17
  go_wp2
  go_rounds 1
  go_ret
  exact⟨by simp,⟨[],rfl,λi hi=>by omega,HO.out⟩,E1 _ _⟩
 have hpos:0<l.length:=by
  rcases C3 l.length with h1|h1
  ·exact absurd (C4.1 h1) h0
  ·exact h1
 obtain⟨g,cap,rfl⟩:=F2 h hpos;go_enter Tryz.func17,Tryz.ntmps17
 go_wp2
 go_loopw [1,5] (λkk i w'=>∃(k:Nat) (ys:List Sl),k<=l.length/\i=.int .i64 k/\kk=.int .i64 (m+2*k)/\ys.length=l.length/\MarkedS ys m k/\w'.ownsRow base 81 2 (.slice (some ⟨g,0,none⟩) l.length cap) l.length (rowsF Sl.cells ys)/\w.grownBy w' (some g)) (λ_ i _=>l.length-(intOf i).toNat)
 case atStart=>exact⟨0,l,by omega,rfl,by simp,rfl,λi hi=>by omega,h,E1 _ _⟩
 case round =>
  obtain⟨k,ys,hk,rfl,rfl,hyl,hM,hown,hG⟩:=hrel;by_cases hp:k<l.length
  ·have hky:k<ys.length:=by omega
   obtain⟨a,ha⟩:∃a,ys.set k a=ys:=⟨ys[k],List.set_getElem_self hky⟩;have HM:Hid (MarkedS (ys.set k (mkSl (m+2*k))) m (k+1)):=hM.set hky;have Hyl:Hid (ys.length=l.length):=hyl;rw[← ha] at hown;clear hM hyl ha;go_wp2_with fail
   refine (F8 (m+2*k) wr (by omega)).mono ?_;rintro e w1 ⟨rfl,hB1⟩;have hG1:=E3 hG (K1 (r:=some g) hB1);have hown1:=E0 hown hB1;have c0:=S6 M8 hown1 hky 0 _ rfl;have f0:=hown1.frozenAt (k*2);obtain⟨r1,r2⟩:=P8 M8 (a':=⟨mkB (m+2*k),a.t⟩) hown1 hky (j:=0) (by omega) rfl;have hG2:=E3 hG1 r2;rw[Nat.add_zero] at c0 r1 hG2;clear hown hown1 hG hG1 r2 hB1;go_wp2_with fail
   refine (F8 (m+2*k+1) _ (by omega)).mono ?_;rintro e w2 ⟨rfl,hB2⟩;have hG3:=E3 hG2 (K1 (r:=some g) hB2);have hown2:=E0 r1 hB2;have c1:=S6 M8 hown2 hky 1 _ rfl;have f1:=hown2.frozenAt (k*2+1);obtain⟨r3,r4⟩:=P8 M8 (a':=mkSl (m+2*k)) hown2 hky (j:=1) (by omega) rfl;have hG4:=E3 hG3 r4;have HR:Hid ((w2.setCell ⟨g,k*2+1,none⟩ (.string (mkB (m+2*k+1)))).ownsRow base 81 2 (.slice (some ⟨g,0,none⟩) l.length cap) l.length (rowsF Sl.cells (ys.set k (mkSl (m+2*k))))):=r3;clear c0 f0 r1 hG2 hG3 hown2 r3 r4 hB2;go_wp2_with fail
   go_roundw
   case rel=>exact⟨k+1,_,by omega,by go_num,by go_num,by rw[List.length_set];exact Hyl.out,HM.out,HR.out,hG4⟩
   case measure=>simp[intOf];omega
  ·obtain rfl:k=l.length:=by omega
   go_wp2_with fail
   go_ret
   exact⟨rfl,⟨ys,hyl,hM,by rw[hyl];exact hown⟩,hG⟩
theorem Aj7 (l:List Sl) (base:Nat) (u:Value) (m:Int) (w:World) (h:w.ownsRow base 81 2 u l.length (rowsF Sl.cells l)) (hM:MarkedS l m l.length) (hn:l.length<=1000) (hm:1<=m) (hm9:m<=1000000) :
  Calls Tryz.prog 96 #[u,.int .i64 m] w λe w'=>e=.returned (.int .i64 (m+2*l.length))/\Below w.heap.size w w':=by
 by_cases h0:l=[]
 ·subst h0
  obtain⟨a1,c1,rfl⟩:=E9 h;simp only[List.length_nil];clear h hM;go_enter Tryz.func96,Tryz.ntmps96
  go_wp2
  go_rounds 1
  go_ret
  exact⟨by simp,A4 _ _⟩
 have hpos:0<l.length:=by
  rcases C3 l.length with h1|h1
  ·exact absurd (C4.1 h1) h0
  ·exact h1
 obtain⟨g,cap,rfl⟩:=F2 h hpos;have hgl:=(h.lt g rfl).2;have HC:Hid (∀(k j:Nat) (v:Value),k<l.length->(mkSl (m+2*k)).cells[j]?=some v->∀W,Below w.heap.size w W->World.cell? W ⟨g,k*2+j,none⟩=some v):=λk j v hk hv W hW=>(hW.cell (p:=⟨g,k*2+j,none⟩) hgl).trans (J6 M8 h (hM k hk) j v hv);clear hM h0 h;go_enter Tryz.func96,Tryz.ntmps96
 go_wp2
 go_loopw [1,5] (λkk i w'=>∃k:Nat,k<=l.length/\i=.int .i64 k/\kk=.int .i64 (m+2*k)/\Below w.heap.size w w') (λ_ i _=>l.length-(intOf i).toNat)
 case atStart=>exact⟨0,by omega,rfl,by simp,A4 _ _⟩
 case round =>
  obtain⟨k,hk,rfl,rfl,hB⟩:=hrel;by_cases hp:k<l.length
  ·have hS:Below w.heap.size w wr/\World.cell? wr ⟨g,k*2,none⟩=some (.string (mkB (m+2*k))):=⟨hB,HC.out k 0 _ hp rfl wr hB⟩
   clear hB;go_wp2_with fail;go_region_held (λw'=>Below w.heap.size w w'/\World.cell? w' ⟨g,k*2,none⟩=some (.string (mkB (m+2*k)))) (first|exact⟨hS.1.drew,hS.2⟩|exact Z4 hgl (by assumption) (by assumption)) (first|(go_at_call 49;refine (F8 (m+2*k) _ (by omega)).mono ?_;rintro e w1 ⟨rfl,hB1⟩))
   rename_i hH1;have hB3:=hH1.1;clear hH1 hS;have hS:Below w.heap.size w w1/\World.cell? w1 ⟨g,k*2+1,none⟩=some (.string (mkB (m+2*k+1))):=⟨hB3,HC.out k 1 _ hp rfl w1 hB3⟩;clear hB3;go_wp2_with fail;go_region_held (λw'=>Below w.heap.size w w'/\World.cell? w' ⟨g,k*2+1,none⟩=some (.string (mkB (m+2*k+1)))) (first|exact⟨hS.1.drew,hS.2⟩|exact Z4 hgl (by assumption) (by assumption)) (first|(go_at_call 49;refine (F8 (m+2*k+1) _ (by omega)).mono ?_;rintro e w1 ⟨rfl,hB1⟩))
   rename_i hH2;have hB4:=hH2.1;clear hH2 hS;go_wp2_with fail
   go_roundw
   case rel=>exact⟨k+1,by omega,by go_num,by go_num,hB4⟩
   case measure=>simp[intOf];omega
  ·obtain rfl:k=l.length:=by omega
   go_wp2_with fail
   go_ret
   exact⟨rfl,hB⟩
theorem Aj8 (h:House) (tv bv xv dv:Value) (w:World) (hE:Ends w) (H:HV w h tv bv xv dv) (hok:BookOk h.sh) (hN:NamesOk h) :
  Calls Tryz.prog 137 #[.agg #[.int .i64 h.now,.int .i64 h.last,tv,bv,xv,dv]] w λe w'=>e=.returned (.bool (pB (NeedTo h h.bs.length)))/\Below w.heap.size w w':=by
 obtain⟨a1,c1,a2,c2,a3,c3,a4,c4,rfl,rfl,rfl,rfl⟩:=H.shapes;obtain⟨hmax,hpos⟩:=H.x.inv rfl;unfold maxLen at hmax;have HK:=H.book;clear H;have HE:Hid (Ends w):=hE;have HM:Hid (BookOk h.sh/\NamesOk h):=⟨hok,hN⟩;clear hE hok hN;have hfd:=Aj3;have hB0:=(A4 w.heap.size w).alloc (A3 _) (.cells #[.int .i64 h.now,.int .i64 h.last,.slice a1 h.sh.things.length c1,.slice a2 h.sh.bs.length c2,.slice a3 h.bs.length c3,.slice a4 h.ds.length c4] 41);have hC:CB (w.alloc (.cells #[.int .i64 h.now,.int .i64 h.last,.slice a1 h.sh.things.length c1,.slice a2 h.sh.bs.length c2,.slice a3 h.bs.length c3,.slice a4 h.ds.length c4] 41)) w.heap.size [.int .i64 h.now,.int .i64 h.last,.slice a1 h.sh.things.length c1,.slice a2 h.sh.bs.length c2,.slice a3 h.bs.length c3,.slice a4 h.ds.length c4]:=E8 w _ _;go_enter Tryz.func137,Tryz.ntmps137
 go_upto_region 1 with fail
 generalize w.alloc (.cells #[.int .i64 h.now,.int .i64 h.last,.slice a1 h.sh.things.length c1,.slice a2 h.sh.bs.length c2,.slice a3 h.bs.length c3,.slice a4 h.ds.length c4] 41)=W1 at *;have hlt:=hC.2.2;obtain⟨d0,d1,d2,d3,d4,d5⟩:=hC.c6;go_wp2_with fail
 go_loopw [4,8] (λ_ i w'=>∃k:Nat,k<=h.bs.length/\i=.int .i64 k/\NeedTo h k/\Below W1.heap.size W1 w') (λ_ i _=>h.bs.length-(intOf i).toNat)
 case atStart=>exact⟨0,by omega,rfl,λi b hi=>by omega,A4 _ _⟩
 case round =>
  obtain⟨k,hk,rfl,hinv,hB⟩:=hrel;have HI:Hid (NeedTo h k):=hinv;clear hinv d0 d1 d2 d3 d4 d5;by_cases hp:k<h.bs.length
  ·obtain⟨b,o,ha3,hS,hb⟩:=hpos (by omega)
   subst ha3;have hB01:=D5 hB0 hB;obtain⟨p,q,c,g,r,d,⟨e0,e1,e2,e3,e4,e5⟩,hv⟩:=((hS.at hp).up hB01 hb).open;have NO:Hid (¬(shOf h.sh (h.bs[k]).nm).needs=rbThings h.bs[k] (h.bs[k]).ad->pB (NeedTo h h.bs.length)=false):=λhn=>F1 λt=>hn (t k _ hp (A0 hp));have YES:Hid ((shOf h.sh (h.bs[k]).nm).needs=rbThings h.bs[k] (h.bs[k]).ad->NeedTo h (k+1)):=λhy=>Y7 (P:=λ_ (b:Rb)=>(shOf h.sh b.nm).needs=rbThings b b.ad) HI.out hp hy;have Hmem:Hid ((h.bs[k]).nm∈nms h.sh.bs):=HM.out.2.2.2 _ (List.mem_map.2 ⟨h.bs[k],by simp,rfl⟩);generalize h.bs[k]=x0 at *;clear hS;have hB1:=hB.alloc hB.size (.cells #[.string x0.nm,.slice (some ⟨p,q,none⟩) x0.ps.length c,.slice (some ⟨g,r,none⟩) x0.sl.length d,.string x0.ad,.int .i64 x0.si,.int .i64 x0.st] 71);have hX:CB (wr.alloc (.cells #[.string x0.nm,.slice (some ⟨p,q,none⟩) x0.ps.length c,.slice (some ⟨g,r,none⟩) x0.sl.length d,.string x0.ad,.int .i64 x0.si,.int .i64 x0.st] 71)) wr.heap.size [.string x0.nm,.slice (some ⟨p,q,none⟩) x0.ps.length c,.slice (some ⟨g,r,none⟩) x0.sl.length d,.string x0.ad,.int .i64 x0.si,.int .i64 x0.st]:=E8 wr _ _;have hv2:=hv.up ((A4 wr.heap.size wr).alloc (A3 _) (.cells #[.string x0.nm,.slice (some ⟨p,q,none⟩) x0.ps.length c,.slice (some ⟨g,r,none⟩) x0.sl.length d,.string x0.ad,.int .i64 x0.si,.int .i64 x0.st] 71));go_upto_region 4 with fail
   generalize wr.alloc (.cells #[.string x0.nm,.slice (some ⟨p,q,none⟩) x0.ps.length c,.slice (some ⟨g,r,none⟩) x0.sl.length d,.string x0.ad,.int .i64 x0.si,.int .i64 x0.st] 71)=W2 at *;obtain⟨f0,f1,f2,f3,f4,f5⟩:=hX.c6;obtain⟨d0,d1,d2,d3,d4,d5⟩:=(hC.up hB1 hlt).c6;have hXlt:=hX.2.2;have hqlt:w.heap.size<W2.heap.size:=A1 hlt hB1.size;have hB02:=D5 hB0 hB1;have hS0:Below W2.heap.size W2 W2/\W2.cell? ⟨w.heap.size,0,none⟩=some (.int .i64 h.now)/\W2.cell? ⟨w.heap.size,1,none⟩=some (.int .i64 h.last)/\W2.cell? ⟨w.heap.size,2,none⟩=some (.slice a1 h.sh.things.length c1)/\W2.cell? ⟨w.heap.size,3,none⟩=some (.slice a2 h.sh.bs.length c2)/\W2.cell? ⟨w.heap.size,4,none⟩=some (.slice (some ⟨b,o,none⟩) h.bs.length c3)/\W2.cell? ⟨w.heap.size,5,none⟩=some (.slice a4 h.ds.length c4)/\W2.cell? ⟨wr.heap.size,0,none⟩=some (.string x0.nm)/\W2.cell? ⟨wr.heap.size,1,none⟩=some (.slice (some ⟨p,q,none⟩) x0.ps.length c)/\W2.cell? ⟨wr.heap.size,2,none⟩=some (.slice (some ⟨g,r,none⟩) x0.sl.length d)/\W2.cell? ⟨wr.heap.size,3,none⟩=some (.string x0.ad)/\W2.cell? ⟨wr.heap.size,4,none⟩=some (.int .i64 x0.si)/\W2.cell? ⟨wr.heap.size,5,none⟩=some (.int .i64 x0.st):=⟨A4 _ _,d0,d1,d2,d3,d4,d5,f0,f1,f2,f3,f4,f5⟩;have HSH:Hid (∀W,Below w.heap.size w W->Calls Tryz.prog 164 #[.agg #[.int .i64 h.now,.int .i64 h.last,.slice a1 h.sh.things.length c1,.slice a2 h.sh.bs.length c2,.slice (some ⟨b,o,none⟩) h.bs.length c3,.slice a4 h.ds.length c4],.agg #[.string x0.nm,.slice (some ⟨p,q,none⟩) x0.ps.length c,.slice (some ⟨g,r,none⟩) x0.sl.length d,.string x0.ad,.int .i64 x0.si,.int .i64 x0.st]] W λe w'=>(∃b1 k1 b2 k2,e=.returned (.agg #[.string (shOf h.sh x0.nm).nm,.slice b1 (shOf h.sh x0.nm).has.length k1,.slice b2 (shOf h.sh x0.nm).needs.length k2])/\Ls w' (.slice b1 (shOf h.sh x0.nm).has.length k1) (shOf h.sh x0.nm).has/\Ls w' (.slice b2 (shOf h.sh x0.nm).needs.length k2) (shOf h.sh x0.nm).needs)/\Below W.heap.size W w'):=λW hW=>Ado h x0 a1 a2 (some ⟨b,o,none⟩) a4 c1 c2 c3 c4 p q c g r d W (HK.up hW) HM.out.1 Hmem.out;clear e0 e1 e2 e3 e4 e5 hv d0 d1 d2 d3 d4 d5 f0 f1 f2 f3 f4 f5;have Hsz:Hid (∀s∈rbThings x0 x0.ad,s.size<=maxLen):=O1 hv2 x0.ad;have Hv:Hid (RbV W2 x0 (.slice (some ⟨p,q,none⟩) x0.ps.length c) (.slice (some ⟨g,r,none⟩) x0.sl.length d)):=hv2;clear hv2;generalize hy:shOf h.sh x0.nm=y at *;go_wp2_with fail
   go_region_held (λw'=>Below W2.heap.size W2 w'/\w'.cell? ⟨w.heap.size,0,none⟩=some (.int .i64 h.now)/\w'.cell? ⟨w.heap.size,1,none⟩=some (.int .i64 h.last)/\w'.cell? ⟨w.heap.size,2,none⟩=some (.slice a1 h.sh.things.length c1)/\w'.cell? ⟨w.heap.size,3,none⟩=some (.slice a2 h.sh.bs.length c2)/\w'.cell? ⟨w.heap.size,4,none⟩=some (.slice (some ⟨b,o,none⟩) h.bs.length c3)/\w'.cell? ⟨w.heap.size,5,none⟩=some (.slice a4 h.ds.length c4)/\w'.cell? ⟨wr.heap.size,0,none⟩=some (.string x0.nm)/\w'.cell? ⟨wr.heap.size,1,none⟩=some (.slice (some ⟨p,q,none⟩) x0.ps.length c)/\w'.cell? ⟨wr.heap.size,2,none⟩=some (.slice (some ⟨g,r,none⟩) x0.sl.length d)/\w'.cell? ⟨wr.heap.size,3,none⟩=some (.string x0.ad)/\w'.cell? ⟨wr.heap.size,4,none⟩=some (.int .i64 x0.si)/\w'.cell? ⟨wr.heap.size,5,none⟩=some (.int .i64 x0.st)) (first|exact AaR hS0|exact AaS hqlt hXlt (by assumption) (by assumption))
    (first
     | (go_at_call 164;refine (HSH.out _ hB02.drew).mono ?_;rintro e w3 ⟨⟨s1,k1,s2,k2,rfl,-,hL3⟩,hb3⟩;have hB3:=D5 hB02.drew hb3;have hv3:=(Hv.out.up (A4 _ _).drew).up hb3)
     | (go_at_call 84;refine (Adm x0 _ _ x0.ad _ (HE.out.up hB3) hv3).mono ?_;rintro e w4 ⟨⟨u4,rfl,hO4⟩,hb4⟩;have hL4:=hL3.up hb4)
     | (go_at_call 163;refine (AiW _ _ _ _ _ hL4 (hO4.lst.ls Hsz.out)).mono ?_;rintro e w5 ⟨rfl,hb5⟩))
   rename_i hHeld;have hB5:=D5 hB1 hHeld.1;have hB05:=D5 hB0 hB5;clear hHeld hS0 hL3 hL4 hO4 hb3 hb4 hb5 hv3 hB3;cases hq:pB (y.needs=rbThings x0 x0.ad)
   ·have HN:Hid (pB (NeedTo h h.bs.length)=false):=NO.out (J0.1 hq)
    go_wp2_with fail
    go_ret
    exact⟨D6 HN.out.symm,hB05⟩
   ·have HY:Hid (NeedTo h (k+1)):=YES.out (F7.1 hq)
    go_wp2_with fail
    go_roundw
    case rel=>exact⟨k+1,by omega,by go_num,HY.out,hB5⟩
    case measure=>simp[intOf];omega
  ·have HY:Hid (pB (NeedTo h h.bs.length)=true):=G9 (by
    have:=HI.out;rwa [show k=h.bs.length by omega] at this)
   go_wp2_with fail
   go_ret
   exact⟨D6 HY.out.symm,D5 hB0 hB⟩
end Go.Proofs.YtgecdacgmehmbaaGreatDoor
