/- The laws' marks over batches that go on: held. -/
import Derived.Test.YtgecdacgmehmbaaGreatDoorJ47
import Derived.Test.YtgecdacgmehmbaaGreatDoorJ40
set_option maxRecDepth 20000
set_option maxHeartbeats 4000000
namespace Go.Proofs.YtgecdacgmehmbaaGreatDoor
open Go.RowKit
theorem AhQ (bs:List Rb) (base:Nat) (v:Value) (ps:List Rv) (m:Int) (w:World) (h:RbsQ w base v ps) (hq:ps.map (·.1)=mkA mkRb szRb m bs) (hn:bs.length<=100) (hs:∀x∈bs,x.ps.length<=100/\x.sl.length<=100) (hm:1<=m) (hm9:m<=100000) :
  Calls Tryz.prog 51 #[v,.int .i64 m] w λe w'=>e=.returned (.int .i64 (m+szA szRb bs))/\Below w.heap.size w w':=by
 have hpl:ps.length=bs.length:=by
  have:=congrArg List.length hq;rwa [B3,Z0] at this
 rcases C3 bs.length with h0|h0
 ·obtain rfl:bs=[]:=C4.1 h0
  obtain rfl:ps=[]:=C4.1 hpl;obtain⟨a,c,rfl⟩:=E9 h.m;clear h hq;simp only[List.length_nil];go_enter Tryz.func51,Tryz.ntmps51
  go_wp2
  go_rounds 1
  go_ret
  exact⟨by simp[szA],A4 _ _⟩
 obtain⟨g,cap,rfl⟩:=F2 h.m (by omega);rw[hpl] at h ⊢
 have hgl:=(h.m.lt g rfl).2;have Hq:Hid (ps.map (·.1)=mkA mkRb szRb m bs):=hq;have HR:Hid (RbsQ w base (.slice (some ⟨g,0,none⟩) bs.length cap) ps):=h;clear hq h hpl;go_enter Tryz.func51,Tryz.ntmps51
 go_wp2
 go_loopw [1,5] (λkk i w'=>∃(k:Nat) (y:Int),k<=bs.length/\i=.int .i64 k/\kk=.int .i64 y/\y=m+szA szRb (bs.take k)/\1<=y/\y<=100000+1004*(k:Int)/\Below w.heap.size w w') (λ_ i _=>bs.length-(intOf i).toNat)
 case atStart=>exact⟨0,m,by omega,rfl,rfl,by simp[szA],hm,by omega,A4 _ _⟩
 case round =>
  obtain⟨k,y,hk,rfl,rfl,hy,hy1,hy9,hB⟩:=hrel;have Hy:Hid (y=m+szA szRb (bs.take k)):=hy;clear hy;by_cases hp:k<bs.length
  ·obtain⟨s1,s2⟩:=hs bs[k] (by simp)
   obtain⟨ru,su,hpk⟩:∃ru su,ps[k]?=some (mkRb y bs[k],ru,su):=by
    have h1:(ps.map (·.1))[k]?=some (mkRb y bs[k]):=by rw[Hq.out,Aln m bs k hp,Hy.out]
    rw[B0] at h1;obtain⟨p,hp,e⟩:=B4.1 h1;exact⟨p.2.1,p.2.2,by rw[hp,← e]⟩
   have Hsz:Hid (m+(szA szRb (bs.take (k+1)):Int)=y+szRb bs[k]):=by
    show _=_
    rw[A7 hp,AdL,Hy.out];omega
   generalize bs[k]=x0 at *;have hor:=HR.out.r _ _ hpk;have hos:=HR.out.s _ _ hpk;obtain⟨a3,c3,e3⟩:=E9 hor;obtain⟨a4,c4,e4⟩:=E9 hos;simp only[mkRb,AaU,AaV] at e3 e4;subst e3 e4;have hrow:=HR.out.m
   have hpl:ps.length=bs.length:=by
    have:=congrArg List.length Hq.out;rwa [B3,Z0] at this
   rw[hpl] at hrow;have HC:Hid (∀(j:Nat) (u:Value),(rowR (mkRb y x0,.slice a3 x0.ps.length c3,.slice a4 x0.sl.length c4))[j]?=some u->∀W,Below w.heap.size w W->World.cell? W ⟨g,k*6+j,none⟩=some u):=λj u hu W hW=>(hW.cell (p:=⟨g,k*6+j,none⟩) hgl).trans (J6 K7 hrow hpk j u hu);have OR:Hid (∀W,Below w.heap.size w W->W.ownsRow base 73 8 (.slice a3 x0.ps.length c3) (mkPs (y+1) x0.ps.length).length (rowsF Ph.cells (mkPs (y+1) x0.ps.length))):=λW hW=>E0 hor hW;have OS:Hid (∀W,Below w.heap.size w W->W.ownsRow base 81 2 (.slice a4 x0.sl.length c4) (mkSs (y+1+8*x0.ps.length) x0.sl.length).length (rowsF Sl.cells (mkSs (y+1+8*x0.ps.length) x0.sl.length))):=λW hW=>E0 hos hW;have hS:Below w.heap.size w wr/\World.cell? wr ⟨g,k*6,none⟩=some (.string (mkB y)):=⟨hB,HC.out 0 _ rfl wr hB⟩;clear hB hor hos hrow hpl hpk;go_wp2_with fail;go_region_held (λw'=>Below w.heap.size w w'/\World.cell? w' ⟨g,k*6,none⟩=some (.string (mkB (y)))) (first|exact⟨hS.1.drew,hS.2⟩|exact Z4 hgl (by assumption) (by assumption)) (first|(go_at_call 49;refine (F8 (y) _ (by omega)).mono ?_;rintro e w1 ⟨rfl,hB1⟩))
   rename_i hH1;have hB:=hH1.1;clear hH1 hS;have d1:World.cell? w1 ⟨g,k*6+1,none⟩=some (.slice a3 x0.ps.length c3):=HC.out 1 _ rfl w1 hB;go_wp2_with fail
   refine (AjB (mkPs (y+1) x0.ps.length) base _ (y+1) _ (OR.out _ hB) (by rw[AaU];exact Adq _ _) (by rw[AaU];omega) (by omega) (by omega)).mono ?_;rw[AaU];rintro e w2 ⟨rfl,hB2⟩;have hB3:=D5 hB hB2;have d2:World.cell? w2 ⟨g,k*6+2,none⟩=some (.slice a4 x0.sl.length c4):=HC.out 2 _ rfl w2 hB3;clear d1 hB hB2;have hn1:¬(y+1+8*(x0.ps.length:Int)<0):=by omega
   go_wp2_with fail
   refine (Aj7 (mkSs (y+1+8*x0.ps.length) x0.sl.length) base _ (y+1+8*x0.ps.length) _ (OS.out _ hB3) (by rw[AaV];exact Adr _ _) (by rw[AaV];omega) (by omega) (by omega)).mono ?_;rw[AaV];rintro e w3 ⟨rfl,hB4⟩;have hB:=D5 hB3 hB4;clear d2 hB3 hB4 hn1;have HD:Hid (∀z:Int,z=y+1+8*x0.ps.length+2*x0.sl.length->(rowR (mkRb y x0,.slice a3 x0.ps.length c3,.slice a4 x0.sl.length c4))[3]?=some (.string (mkB z))/\(rowR (mkRb y x0,.slice a3 x0.ps.length c3,.slice a4 x0.sl.length c4))[4]?=some (.int .i64 (z+1))/\(rowR (mkRb y x0,.slice a3 x0.ps.length c3,.slice a4 x0.sl.length c4))[5]?=some (.int .i64 (z+1+1))):=λz hz=>by subst hz;exact⟨rfl,rfl,rfl⟩
   obtain⟨z,hzz⟩:∃z:Int,z=y+1+8*x0.ps.length+2*x0.sl.length:=⟨_,rfl⟩;rw[← hzz];have hz9:z<=300000:=by omega
   have hz0:1<=z:=by omega
   have Hzz:Hid (z=y+1+8*x0.ps.length+2*x0.sl.length):=hzz;clear hzz;obtain⟨k3,k4,k5⟩:=HD.out z Hzz.out;have hS:Below w.heap.size w w3/\World.cell? w3 ⟨g,k*6+3,none⟩=some (.string (mkB z)):=⟨hB,HC.out 3 _ k3 w3 hB⟩;have K4:Hid (∀W,Below w.heap.size w W->World.cell? W ⟨g,k*6+4,none⟩=some (.int .i64 (z+1))/\World.cell? W ⟨g,k*6+5,none⟩=some (.int .i64 (z+1+1))):=λW hW=>⟨HC.out 4 _ k4 W hW,HC.out 5 _ k5 W hW⟩;clear hB k3 k4 k5 HD;go_wp2_with fail;go_region_held (λw'=>Below w.heap.size w w'/\World.cell? w' ⟨g,k*6+3,none⟩=some (.string (mkB (z)))) (first|exact⟨hS.1.drew,hS.2⟩|exact Z4 hgl (by assumption) (by assumption)) (first|(go_at_call 49;refine (F8 (z) _ (by omega)).mono ?_;rintro e w1 ⟨rfl,hB1⟩))
   rename_i hH1;have hB:=hH1.1;clear hH1 hS;obtain⟨d4,d5⟩:=K4.out w1 hB;go_wp2_with fail
   go_roundw
   case rel=>exact⟨k+1,_,by omega,by go_num,rfl,by rw[Hsz.out,Hzz.out];simp[szRb];omega,by omega,by rw[Hzz.out];omega,hB⟩
   case measure=>simp[intOf];omega
  ·obtain rfl:k=bs.length:=by omega
   have HE:Hid (y=m+szA szRb bs):=by have:=Hy.out;rwa [List.take_length] at this
   go_wp2_with fail
   go_ret
   exact⟨by rw[← HE.out];rfl,hB⟩
theorem Als (h:House) (tv bv xv dv:Value) (w:World) (hE:Ends w) (H:HV w h tv bv xv dv) (hok:BookOk h.sh) (hN:NamesOk h) (hBt:BatsOk h) :
  Calls Tryz.prog 138 #[.agg #[.int .i64 h.now,.int .i64 h.last,tv,bv,xv,dv]] w λe w'=>e=.returned (.bool (pB (HaveTo h h.bs.length)))/\Below w.heap.size w w':=by
 obtain⟨a1,c1,a2,c2,a3,c3,a4,c4,rfl,rfl,rfl,rfl⟩:=H.shapes;obtain⟨hmax,hpos⟩:=H.x.inv rfl;unfold maxLen at hmax;have HK:=H.book;clear H;have HE:Hid (Ends w):=hE;have HM:Hid (BookOk h.sh/\NamesOk h):=⟨hok,hN⟩;have HBt:Hid (BatsOk h):=hBt;clear hE hok hN hBt;have hfd:=Aj4;have hB0:=(A4 w.heap.size w).alloc (A3 _) (.cells #[.int .i64 h.now,.int .i64 h.last,.slice a1 h.sh.things.length c1,.slice a2 h.sh.bs.length c2,.slice a3 h.bs.length c3,.slice a4 h.ds.length c4] 41);have hC:CB (w.alloc (.cells #[.int .i64 h.now,.int .i64 h.last,.slice a1 h.sh.things.length c1,.slice a2 h.sh.bs.length c2,.slice a3 h.bs.length c3,.slice a4 h.ds.length c4] 41)) w.heap.size [.int .i64 h.now,.int .i64 h.last,.slice a1 h.sh.things.length c1,.slice a2 h.sh.bs.length c2,.slice a3 h.bs.length c3,.slice a4 h.ds.length c4]:=E8 w _ _;go_enter Tryz.func138,Tryz.ntmps138
 go_upto_region 1 with fail
 generalize w.alloc (.cells #[.int .i64 h.now,.int .i64 h.last,.slice a1 h.sh.things.length c1,.slice a2 h.sh.bs.length c2,.slice a3 h.bs.length c3,.slice a4 h.ds.length c4] 41)=W1 at *;have hlt:=hC.2.2;obtain⟨d0,d1,d2,d3,d4,d5⟩:=hC.c6;go_wp2_with fail
 go_loopw [4,5,6,10] (λ_ _ _ i w'=>∃k:Nat,k<=h.bs.length/\i=.int .i64 k/\HaveTo h k/\Below W1.heap.size W1 w') (λ_ _ _ i _=>h.bs.length-(intOf i).toNat)
 case atStart=>exact⟨0,by omega,rfl,λi b hi=>by omega,A4 _ _⟩
 case round =>
  obtain⟨k,hk,rfl,hinv,hB⟩:=hrel;have HI:Hid (HaveTo h k):=hinv;clear hinv d0 d1 d2 d3 d4 d5;by_cases hp:k<h.bs.length
  ·obtain⟨b,o,ha3,hS,hb⟩:=hpos (by omega)
   subst ha3;have hB01:=D5 hB0 hB;obtain⟨p,q,c,g,r,d,⟨e0,e1,e2,e3,e4,e5⟩,hv⟩:=((hS.at hp).up hB01 hb).open;have NO:Hid (¬(0<=(h.bs[k]).si->Part (rbOwn h.bs[k]) (shOf h.sh (h.bs[k]).nm).has)->pB (HaveTo h h.bs.length)=false):=λhn=>F1 λt=>hn (t k _ hp (A0 hp));have YES:Hid ((0<=(h.bs[k]).si->Part (rbOwn h.bs[k]) (shOf h.sh (h.bs[k]).nm).has)->HaveTo h (k+1)):=λhy=>Y7 (P:=λ_ (b:Rb)=>0<=b.si->Part (rbOwn b) (shOf h.sh b.nm).has) HI.out hp hy;have Hsi:Hid (-1<=(h.bs[k]).si):=(HBt.out k _ hp (A0 hp)).1.2.2.2.2.2.1;have Hmem:Hid ((h.bs[k]).nm∈nms h.sh.bs):=HM.out.2.2.2 _ (List.mem_map.2 ⟨h.bs[k],by simp,rfl⟩);generalize h.bs[k]=x0 at *;clear hS;have hB1:=hB.alloc hB.size (.cells #[.string x0.nm,.slice (some ⟨p,q,none⟩) x0.ps.length c,.slice (some ⟨g,r,none⟩) x0.sl.length d,.string x0.ad,.int .i64 x0.si,.int .i64 x0.st] 71);have hX:CB (wr.alloc (.cells #[.string x0.nm,.slice (some ⟨p,q,none⟩) x0.ps.length c,.slice (some ⟨g,r,none⟩) x0.sl.length d,.string x0.ad,.int .i64 x0.si,.int .i64 x0.st] 71)) wr.heap.size [.string x0.nm,.slice (some ⟨p,q,none⟩) x0.ps.length c,.slice (some ⟨g,r,none⟩) x0.sl.length d,.string x0.ad,.int .i64 x0.si,.int .i64 x0.st]:=E8 wr _ _;have hv2:=hv.up ((A4 wr.heap.size wr).alloc (A3 _) (.cells #[.string x0.nm,.slice (some ⟨p,q,none⟩) x0.ps.length c,.slice (some ⟨g,r,none⟩) x0.sl.length d,.string x0.ad,.int .i64 x0.si,.int .i64 x0.st] 71));go_upto_region 4 with fail
   generalize wr.alloc (.cells #[.string x0.nm,.slice (some ⟨p,q,none⟩) x0.ps.length c,.slice (some ⟨g,r,none⟩) x0.sl.length d,.string x0.ad,.int .i64 x0.si,.int .i64 x0.st] 71)=W2 at *;obtain⟨f0,f1,f2,f3,f4,f5⟩:=hX.c6;obtain⟨d0,d1,d2,d3,d4,d5⟩:=(hC.up hB1 hlt).c6;have hXlt:=hX.2.2;have hqlt:w.heap.size<W2.heap.size:=A1 hlt hB1.size;have hB02:=D5 hB0 hB1;have hS0:Below W2.heap.size W2 W2/\W2.cell? ⟨w.heap.size,0,none⟩=some (.int .i64 h.now)/\W2.cell? ⟨w.heap.size,1,none⟩=some (.int .i64 h.last)/\W2.cell? ⟨w.heap.size,2,none⟩=some (.slice a1 h.sh.things.length c1)/\W2.cell? ⟨w.heap.size,3,none⟩=some (.slice a2 h.sh.bs.length c2)/\W2.cell? ⟨w.heap.size,4,none⟩=some (.slice (some ⟨b,o,none⟩) h.bs.length c3)/\W2.cell? ⟨w.heap.size,5,none⟩=some (.slice a4 h.ds.length c4)/\W2.cell? ⟨wr.heap.size,0,none⟩=some (.string x0.nm)/\W2.cell? ⟨wr.heap.size,1,none⟩=some (.slice (some ⟨p,q,none⟩) x0.ps.length c)/\W2.cell? ⟨wr.heap.size,2,none⟩=some (.slice (some ⟨g,r,none⟩) x0.sl.length d)/\W2.cell? ⟨wr.heap.size,3,none⟩=some (.string x0.ad)/\W2.cell? ⟨wr.heap.size,4,none⟩=some (.int .i64 x0.si)/\W2.cell? ⟨wr.heap.size,5,none⟩=some (.int .i64 x0.st):=⟨A4 _ _,d0,d1,d2,d3,d4,d5,f0,f1,f2,f3,f4,f5⟩;have HSH:Hid (∀W,Below w.heap.size w W->Calls Tryz.prog 164 #[.agg #[.int .i64 h.now,.int .i64 h.last,.slice a1 h.sh.things.length c1,.slice a2 h.sh.bs.length c2,.slice (some ⟨b,o,none⟩) h.bs.length c3,.slice a4 h.ds.length c4],.agg #[.string x0.nm,.slice (some ⟨p,q,none⟩) x0.ps.length c,.slice (some ⟨g,r,none⟩) x0.sl.length d,.string x0.ad,.int .i64 x0.si,.int .i64 x0.st]] W λe w'=>(∃b1 k1 b2 k2,e=.returned (.agg #[.string (shOf h.sh x0.nm).nm,.slice b1 (shOf h.sh x0.nm).has.length k1,.slice b2 (shOf h.sh x0.nm).needs.length k2])/\Ls w' (.slice b1 (shOf h.sh x0.nm).has.length k1) (shOf h.sh x0.nm).has/\Ls w' (.slice b2 (shOf h.sh x0.nm).needs.length k2) (shOf h.sh x0.nm).needs)/\Below W.heap.size W w'):=λW hW=>Ado h x0 a1 a2 (some ⟨b,o,none⟩) a4 c1 c2 c3 c4 p q c g r d W (HK.up hW) HM.out.1 Hmem.out;clear e0 e1 e2 e3 e4 e5 hv d0 d1 d2 d3 d4 d5 f0 f1 f2 f3 f4 f5;have Hsz:Hid (∀s∈rbOwn x0,s.size<=maxLen):=L3 hv2;have Hv:Hid (RbV W2 x0 (.slice (some ⟨p,q,none⟩) x0.ps.length c) (.slice (some ⟨g,r,none⟩) x0.sl.length d)):=hv2;clear hv2;generalize hy:shOf h.sh x0.nm=y at *;by_cases hsi:x0.si=-1
   ·have HY:Hid (HaveTo h (k+1)):=YES.out λh0=>by omega
    have hS1:Below W2.heap.size W2 W2/\W2.cell? ⟨w.heap.size,0,none⟩=some (.int .i64 h.now)/\W2.cell? ⟨w.heap.size,1,none⟩=some (.int .i64 h.last)/\W2.cell? ⟨w.heap.size,2,none⟩=some (.slice a1 h.sh.things.length c1)/\W2.cell? ⟨w.heap.size,3,none⟩=some (.slice a2 h.sh.bs.length c2)/\W2.cell? ⟨w.heap.size,4,none⟩=some (.slice (some ⟨b,o,none⟩) h.bs.length c3)/\W2.cell? ⟨w.heap.size,5,none⟩=some (.slice a4 h.ds.length c4)/\W2.cell? ⟨wr.heap.size,0,none⟩=some (.string x0.nm)/\W2.cell? ⟨wr.heap.size,1,none⟩=some (.slice (some ⟨p,q,none⟩) x0.ps.length c)/\W2.cell? ⟨wr.heap.size,2,none⟩=some (.slice (some ⟨g,r,none⟩) x0.sl.length d)/\W2.cell? ⟨wr.heap.size,3,none⟩=some (.string x0.ad)/\W2.cell? ⟨wr.heap.size,4,none⟩=some (.int .i64 (-1))/\W2.cell? ⟨wr.heap.size,5,none⟩=some (.int .i64 x0.st):=by rw[← hsi];exact hS0
    obtain⟨-,-,-,-,-,-,-,f0,f1,f2,f3,f4,f5⟩:=hS1;have Hs1:Hid (x0.si=-1):=hsi;clear hsi hS0;go_upto_region 5 with (go_at_call 125;refine (Aey _ _ _ _ _ _ _ _ _ _).mono ?_;rintro e w3 ⟨rfl,hb3⟩)
    have hB3:=D5 hB1 hb3;clear f0 f1 f2 f3 f4 f5;go_wp2_with fail
    go_quiet (fail)
    go_wp2_with fail
    go_roundw
    case rel=>exact⟨k+1,by omega,by go_num,HY.out,E7 hB3 _⟩
    case measure=>simp[intOf];omega
   ·have H0:Hid (0<=x0.si):=by have:=Hsi.out;show _<=_;omega
    have Hs1:Hid (¬x0.si=-1):=hsi;obtain⟨-,-,-,-,-,-,-,f0,f1,f2,f3,f4,f5⟩:=id hS0;clear hsi;go_upto_region 5 with (go_at_call 125;refine (AgK _ _ _ _ _ _ _ _ _ _ _ Hs1.out).mono ?_;rintro e w3 ⟨rfl,hb3⟩)
    have hS3:=AaS hqlt hXlt hS0 hb3;have hv3:=Hv.out.up hb3;have hB03:=D5 hB02 hb3;clear f0 f1 f2 f3 f4 f5 hS0;have hS4:Below w3.heap.size w3 w3/\w3.cell? ⟨w.heap.size,0,none⟩=some (.int .i64 h.now)/\w3.cell? ⟨w.heap.size,1,none⟩=some (.int .i64 h.last)/\w3.cell? ⟨w.heap.size,2,none⟩=some (.slice a1 h.sh.things.length c1)/\w3.cell? ⟨w.heap.size,3,none⟩=some (.slice a2 h.sh.bs.length c2)/\w3.cell? ⟨w.heap.size,4,none⟩=some (.slice (some ⟨b,o,none⟩) h.bs.length c3)/\w3.cell? ⟨w.heap.size,5,none⟩=some (.slice a4 h.ds.length c4)/\w3.cell? ⟨wr.heap.size,0,none⟩=some (.string x0.nm)/\w3.cell? ⟨wr.heap.size,1,none⟩=some (.slice (some ⟨p,q,none⟩) x0.ps.length c)/\w3.cell? ⟨wr.heap.size,2,none⟩=some (.slice (some ⟨g,r,none⟩) x0.sl.length d)/\w3.cell? ⟨wr.heap.size,3,none⟩=some (.string x0.ad)/\w3.cell? ⟨wr.heap.size,4,none⟩=some (.int .i64 x0.si)/\w3.cell? ⟨wr.heap.size,5,none⟩=some (.int .i64 x0.st):=⟨A4 _ _,hS3.2⟩;have hq3:w.heap.size<w3.heap.size:=A1 hqlt hb3.size;have hr3:wr.heap.size<w3.heap.size:=A1 hXlt hb3.size;have hB13:=D5 hB1 hb3;clear hS3;go_wp2_with fail
    go_region_held (λw'=>Below w3.heap.size w3 w'/\w'.cell? ⟨w.heap.size,0,none⟩=some (.int .i64 h.now)/\w'.cell? ⟨w.heap.size,1,none⟩=some (.int .i64 h.last)/\w'.cell? ⟨w.heap.size,2,none⟩=some (.slice a1 h.sh.things.length c1)/\w'.cell? ⟨w.heap.size,3,none⟩=some (.slice a2 h.sh.bs.length c2)/\w'.cell? ⟨w.heap.size,4,none⟩=some (.slice (some ⟨b,o,none⟩) h.bs.length c3)/\w'.cell? ⟨w.heap.size,5,none⟩=some (.slice a4 h.ds.length c4)/\w'.cell? ⟨wr.heap.size,0,none⟩=some (.string x0.nm)/\w'.cell? ⟨wr.heap.size,1,none⟩=some (.slice (some ⟨p,q,none⟩) x0.ps.length c)/\w'.cell? ⟨wr.heap.size,2,none⟩=some (.slice (some ⟨g,r,none⟩) x0.sl.length d)/\w'.cell? ⟨wr.heap.size,3,none⟩=some (.string x0.ad)/\w'.cell? ⟨wr.heap.size,4,none⟩=some (.int .i64 x0.si)/\w'.cell? ⟨wr.heap.size,5,none⟩=some (.int .i64 x0.st)) (first|exact AaR hS4|exact AaS hq3 hr3 (by assumption) (by assumption))
     (first
      | (go_at_call 127;refine (AdH x0 _ _ _ (HE.out.up hB03.drew) (hv3.up (A4 _ _).drew)).mono ?_;rintro e w4 ⟨⟨u4,rfl,hO4⟩,hb4⟩;have hB04:=D5 hB03.drew hb4)
      | (go_at_call 164;refine (HSH.out _ hB04).mono ?_;rintro e w5 ⟨⟨s1,k1,s2,k2,rfl,hL5,-⟩,hb5⟩;have hO5:=hO4.up hb5)
      | (go_at_call 165;refine (U8 _ _ _ _ _ (hO5.lst.ls Hsz.out) hL5).mono ?_;rintro e w6 ⟨rfl,hb6⟩))
    rename_i hHeld;have hB6:=D5 hB13 hHeld.1;have hB06:=D5 hB0 hB6;clear hHeld hS4 hL5 hO4 hO5 hb4 hb5 hb6 hB04;cases hq:pB (PartOk (rbOwn x0) y.has)
    ·have HN:Hid (pB (HaveTo h h.bs.length)=false):=NO.out λt=>J0.1 hq ⟨t H0.out,Akv x0⟩
     go_wp2_with fail
     go_ret
     exact⟨D6 HN.out.symm,hB06⟩
    ·have HY:Hid (HaveTo h (k+1)):=YES.out λ_=>(F7.1 hq).1
     go_wp2_with fail
     go_roundw
     case rel=>exact⟨k+1,by omega,by go_num,HY.out,hB6⟩
     case measure=>simp[intOf];omega
  ·have HY:Hid (pB (HaveTo h h.bs.length)=true):=G9 (by
    have:=HI.out;rwa [show k=h.bs.length by omega] at this)
   go_wp2_with fail
   go_ret
   exact⟨D6 HY.out.symm,D5 hB0 hB⟩
end Go.Proofs.YtgecdacgmehmbaaGreatDoor
