/- The laws' marks over recipes: written, and held. -/
import Derived.Test.YtgecdacgmehmbaaGreatDoorJ40
set_option maxRecDepth 20000
set_option maxHeartbeats 4000000
namespace Go.Proofs.YtgecdacgmehmbaaGreatDoor
open Go.RowKit
def mkPh (m:Int):Ph:=⟨mkB m,m+1,mkB (m+2),mkB (m+3),m+4,m+5,mkB (m+6),mkB (m+7)⟩
def MarkedP (l:List Ph) (m:Int) (k:Nat):Prop:=∀i:Nat,i<k->l[i]?=some (mkPh (m+8*i))
theorem MarkedP.set {l:List Ph} {m:Int} {k:Nat} (h:MarkedP l m k) (hk:k<l.length):MarkedP (l.set k (mkPh (m+8*k))) m (k+1):=λi hi=>by
 rw[List.getElem?_set];by_cases e:k=i
 ·subst e;rw[if_pos rfl,if_pos hk]
 ·rw[if_neg e];exact h i (by omega)
theorem AjA (l:List Ph) (base:Nat) (u:Value) (m:Int) (w:World) (h:w.ownsRow base 73 8 u l.length (rowsF Ph.cells l)) (hn:l.length<=1000) (hm:1<=m) (hm9:m<=1000000) :
  Calls Tryz.prog 16 #[u,.int .i64 m] w λe w'=>e=.returned (.int .i64 (m+8*l.length))/\(∃ys,ys.length=l.length/\MarkedP ys m l.length/\w'.ownsRow base 73 8 u ys.length (rowsF Ph.cells ys))/\w.grownBy w' u.ownBlock:=by
 by_cases h0:l=[]
 ·subst h0
  obtain⟨a1,c1,rfl⟩:=E9 h;simp only[List.length_nil];have HO:Hid (w.ownsRow base 73 8 (.slice a1 0 c1) 0 []):=h;clear h;go_enter Tryz.func16,Tryz.ntmps16
  go_wp2
  go_rounds 1
  go_ret
  exact⟨by simp,⟨[],rfl,λi hi=>by omega,HO.out⟩,E1 _ _⟩
 have hpos:0<l.length:=by
  rcases C3 l.length with h1|h1
  ·exact absurd (C4.1 h1) h0
  ·exact h1
 obtain⟨g,cap,rfl⟩:=F2 h hpos;go_enter Tryz.func16,Tryz.ntmps16
 go_wp2
 go_loopw [1,5] (λkk i w'=>∃(k:Nat) (ys:List Ph),k<=l.length/\i=.int .i64 k/\kk=.int .i64 (m+8*k)/\ys.length=l.length/\MarkedP ys m k/\w'.ownsRow base 73 8 (.slice (some ⟨g,0,none⟩) l.length cap) l.length (rowsF Ph.cells ys)/\w.grownBy w' (some g)) (λ_ i _=>l.length-(intOf i).toNat)
 case atStart=>exact⟨0,l,by omega,rfl,by simp,rfl,λi hi=>by omega,h,E1 _ _⟩
 case round =>
  obtain⟨k,ys,hk,rfl,rfl,hyl,hM,hown,hG⟩:=hrel;by_cases hp:k<l.length
  ·have hky:k<ys.length:=by omega
   obtain⟨a,ha⟩:∃a,ys.set k a=ys:=⟨ys[k],List.set_getElem_self hky⟩;have HM:Hid (MarkedP (ys.set k (mkPh (m+8*k))) m (k+1)):=hM.set hky;have Hyl:Hid (ys.length=l.length):=hyl;rw[← ha] at hown
   have HX:Hid (∀x:Int,x=m+8*k->mkPh (m+8*k)=⟨mkB x,x+1,mkB (x+1+1),mkB (x+1+1+1),x+1+1+1+1,x+1+1+1+1+1,mkB (x+1+1+1+1+1+1),mkB (x+1+1+1+1+1+1+1)⟩):=λx hx=>by
    subst hx;unfold mkPh;congr 1<;>(first|rfl|(congr 1;omega)|omega)
   clear hM hyl ha h;have R0:=hown;have G0:=hG;clear hown hG;go_wp2_with fail
   refine (F8 (m+8*k) _ (by omega)).mono ?_;rintro e w1 ⟨rfl,hB1⟩;have U1:=E0 R0 hB1;have V1:=E3 G0 (K1 (r:=some g) hB1);clear R0 G0 hB1;have c0:=S6 G5 U1 hky 0 _ rfl;have f0:=U1.frozenAt (k*8+0);have c1:=S6 G5 U1 hky 1 _ rfl;have f1:=U1.frozenAt (k*8+1);have T0:=P8 G5 (a':=⟨mkB (m+8*k),a.k,a.a,a.b,a.n,a.wi,a.t,a.e⟩) U1 hky (j:=0) (by omega) rfl;have P0:=T0.1;have Q0:=E3 V1 T0.2;have T1:=P8 G5 (a':=⟨mkB (m+8*k),m+8*k+1,a.a,a.b,a.n,a.wi,a.t,a.e⟩) P0 hky (j:=1) (by omega) rfl;have P1:=T1.1;have Q1:=E3 Q0 T1.2;rw[Nat.add_zero] at c0 f0;simp only[Nat.add_zero] at P1 Q1;clear T0 T1 P0 Q0 U1 V1;go_wp2_with fail
   refine (F8 (m+8*k+1+1) _ (by omega)).mono ?_;rintro e w2 ⟨rfl,hB2⟩;clear c0 f0 c1 f1;have U2:=E0 P1 hB2;have V2:=E3 Q1 (K1 (r:=some g) hB2);clear P1 Q1 hB2;have c2:=S6 G5 U2 hky 2 _ rfl;have f2:=U2.frozenAt (k*8+2);have T2:=P8 G5 (a':=⟨mkB (m+8*k),m+8*k+1,mkB (m+8*k+1+1),a.b,a.n,a.wi,a.t,a.e⟩) U2 hky (j:=2) (by omega) rfl;have P2:=T2.1;have Q2:=E3 V2 T2.2;clear T2 U2 V2;go_wp2_with fail
   refine (F8 (m+8*k+1+1+1) _ (by omega)).mono ?_;rintro e w3 ⟨rfl,hB3⟩;clear c2 f2;have U3:=E0 P2 hB3;have V3:=E3 Q2 (K1 (r:=some g) hB3);clear P2 Q2 hB3;have c3:=S6 G5 U3 hky 3 _ rfl;have f3:=U3.frozenAt (k*8+3);have c4:=S6 G5 U3 hky 4 _ rfl;have f4:=U3.frozenAt (k*8+4);have c5:=S6 G5 U3 hky 5 _ rfl;have f5:=U3.frozenAt (k*8+5);have T3:=P8 G5 (a':=⟨mkB (m+8*k),m+8*k+1,mkB (m+8*k+1+1),mkB (m+8*k+1+1+1),a.n,a.wi,a.t,a.e⟩) U3 hky (j:=3) (by omega) rfl;have P3:=T3.1;have Q3:=E3 V3 T3.2;have T4:=P8 G5 (a':=⟨mkB (m+8*k),m+8*k+1,mkB (m+8*k+1+1),mkB (m+8*k+1+1+1),m+8*k+1+1+1+1,a.wi,a.t,a.e⟩) P3 hky (j:=4) (by omega) rfl;have P4:=T4.1;have Q4:=E3 Q3 T4.2;have T5:=P8 G5 (a':=⟨mkB (m+8*k),m+8*k+1,mkB (m+8*k+1+1),mkB (m+8*k+1+1+1),m+8*k+1+1+1+1,m+8*k+1+1+1+1+1,a.t,a.e⟩) P4 hky (j:=5) (by omega) rfl;have P5:=T5.1;have Q5:=E3 Q4 T5.2;clear T3 T4 T5 P3 P4 Q3 Q4 U3 V3;go_wp2_with fail
   refine (F8 (m+8*k+1+1+1+1+1+1) _ (by omega)).mono ?_;rintro e w4 ⟨rfl,hB4⟩;clear c3 f3 c4 f4 c5 f5;have U4:=E0 P5 hB4;have V4:=E3 Q5 (K1 (r:=some g) hB4);clear P5 Q5 hB4;have c6:=S6 G5 U4 hky 6 _ rfl;have f6:=U4.frozenAt (k*8+6);have T6:=P8 G5 (a':=⟨mkB (m+8*k),m+8*k+1,mkB (m+8*k+1+1),mkB (m+8*k+1+1+1),m+8*k+1+1+1+1,m+8*k+1+1+1+1+1,mkB (m+8*k+1+1+1+1+1+1),a.e⟩) U4 hky (j:=6) (by omega) rfl;have P6:=T6.1;have Q6:=E3 V4 T6.2;clear T6 U4 V4;go_wp2_with fail
   refine (F8 (m+8*k+1+1+1+1+1+1+1) _ (by omega)).mono ?_;rintro e w5 ⟨rfl,hB5⟩;clear c6 f6;have U5:=E0 P6 hB5;have V5:=E3 Q6 (K1 (r:=some g) hB5);clear P6 Q6 hB5;have c7:=S6 G5 U5 hky 7 _ rfl;have f7:=U5.frozenAt (k*8+7);have T7:=P8 G5 (a':=⟨mkB (m+8*k),m+8*k+1,mkB (m+8*k+1+1),mkB (m+8*k+1+1+1),m+8*k+1+1+1+1,m+8*k+1+1+1+1+1,mkB (m+8*k+1+1+1+1+1+1),mkB (m+8*k+1+1+1+1+1+1+1)⟩) U5 hky (j:=7) (by omega) rfl;have P7:=T7.1;have Q7:=E3 V5 T7.2;clear T7 U5 V5
   have HR:Hid ((w5.setCell ⟨g,k*8+7,none⟩ (.string (mkB (m+8*k+1+1+1+1+1+1+1)))).ownsRow base 73 8 (.slice (some ⟨g,0,none⟩) l.length cap) l.length (rowsF Ph.cells (ys.set k (mkPh (m+8*k))))):=by
    show _
    rw[HX.out _ rfl];exact P7
   clear P7;go_wp2_with fail
   go_roundw
   case rel=>exact⟨k+1,_,by omega,by go_num,by go_num,by rw[List.length_set];exact Hyl.out,HM.out,HR.out,Q7⟩
   case measure=>simp[intOf];omega
  ·obtain rfl:k=l.length:=by omega
   go_wp2_with fail
   go_ret
   exact⟨rfl,⟨ys,hyl,hM,by rw[hyl];exact hown⟩,hG⟩
theorem AjB (l:List Ph) (base:Nat) (u:Value) (m:Int) (w:World) (h:w.ownsRow base 73 8 u l.length (rowsF Ph.cells l)) (hM:MarkedP l m l.length) (hn:l.length<=1000) (hm:1<=m) (hm9:m<=1000000) :
  Calls Tryz.prog 95 #[u,.int .i64 m] w λe w'=>e=.returned (.int .i64 (m+8*l.length))/\Below w.heap.size w w':=by
 by_cases h0:l=[]
 ·subst h0
  obtain⟨a1,c1,rfl⟩:=E9 h;simp only[List.length_nil];clear h hM;go_enter Tryz.func95,Tryz.ntmps95
  go_wp2
  go_rounds 1
  go_ret
  exact⟨by simp,A4 _ _⟩
 have hpos:0<l.length:=by
  rcases C3 l.length with h1|h1
  ·exact absurd (C4.1 h1) h0
  ·exact h1
 obtain⟨g,cap,rfl⟩:=F2 h hpos;have hgl:=(h.lt g rfl).2;have HC:Hid (∀(k j:Nat) (v:Value),k<l.length->(mkPh (m+8*k)).cells[j]?=some v->∀W,Below w.heap.size w W->World.cell? W ⟨g,k*8+j,none⟩=some v):=λk j v hk hv W hW=>(hW.cell (p:=⟨g,k*8+j,none⟩) hgl).trans (J6 G5 h (hM k hk) j v hv);clear hM h0 h;go_enter Tryz.func95,Tryz.ntmps95
 go_wp2
 go_loopw [1,5] (λkk i w'=>∃(k:Nat) (y:Int),k<=l.length/\i=.int .i64 k/\kk=.int .i64 y/\y=m+8*k/\Below w.heap.size w w') (λ_ i _=>l.length-(intOf i).toNat)
 case atStart=>exact⟨0,m,by omega,rfl,rfl,by simp,A4 _ _⟩
 case round =>
  obtain⟨k,y,hk,rfl,rfl,hy,hB⟩:=hrel;by_cases hp:k<l.length
  ·have hy9:y<=1010000:=by omega
   have hy1:1<=y:=by omega
   have HD:Hid (∀(j:Nat) (v:Value),(mkPh y).cells[j]?=some v->∀W,Below w.heap.size w W->World.cell? W ⟨g,k*8+j,none⟩=some v):=λj v hv=>HC.out k j v hp (by rw[← hy];exact hv);have Hy:Hid (y=m+8*k):=hy;have q1:y+1+1=y+2:=by omega
   have q2:y+2+1=y+3:=by omega
   have q3:y+3+1=y+4:=by omega
   have q4:y+4+1=y+5:=by omega
   have q5:y+5+1=y+6:=by omega
   have q6:y+6+1=y+7:=by omega
   have q7:y+7+1=y+8:=by omega
   have hS:Below w.heap.size w wr/\World.cell? wr ⟨g,k*8,none⟩=some (.string (mkB y)):=⟨hB,HD.out 0 _ rfl wr hB⟩;clear hB hy;go_wp2_with fail;go_region_held (λw'=>Below w.heap.size w w'/\World.cell? w' ⟨g,k*8,none⟩=some (.string (mkB (y)))) (first|exact⟨hS.1.drew,hS.2⟩|exact Z4 hgl (by assumption) (by assumption)) (first|(go_at_call 49;refine (F8 (y) _ (by omega)).mono ?_;rintro e w1 ⟨rfl,hB1⟩))
   rename_i hH1;have hB:=hH1.1;clear hH1 hS;have d1:World.cell? w1 ⟨g,k*8+1,none⟩=some (.int .i64 (y+1)):=HD.out 1 _ rfl w1 hB;have hS:Below w.heap.size w w1/\World.cell? w1 ⟨g,k*8+2,none⟩=some (.string (mkB (y+2))):=⟨hB,HD.out 2 _ rfl w1 hB⟩;clear hB;obtain⟨w0,rfl⟩:∃w0,w0=w1:=⟨_,rfl⟩;go_wp2_with fail;go_region_held (λw'=>Below w.heap.size w w'/\World.cell? w' ⟨g,k*8+2,none⟩=some (.string (mkB (y+2)))) (first|exact⟨hS.1.drew,hS.2⟩|exact Z4 hgl (by assumption) (by assumption)) (first|(go_at_call 49;refine (F8 (y+2) _ (by omega)).mono ?_;rintro e w1 ⟨rfl,hB1⟩))
   rename_i hH1;have hB:=hH1.1;clear hH1 hS d1;have hS:Below w.heap.size w w1/\World.cell? w1 ⟨g,k*8+3,none⟩=some (.string (mkB (y+3))):=⟨hB,HD.out 3 _ rfl w1 hB⟩;clear hB;obtain⟨w0,rfl⟩:∃w0,w0=w1:=⟨_,rfl⟩;go_wp2_with fail;go_region_held (λw'=>Below w.heap.size w w'/\World.cell? w' ⟨g,k*8+3,none⟩=some (.string (mkB (y+3)))) (first|exact⟨hS.1.drew,hS.2⟩|exact Z4 hgl (by assumption) (by assumption)) (first|(go_at_call 49;refine (F8 (y+3) _ (by omega)).mono ?_;rintro e w1 ⟨rfl,hB1⟩))
   rename_i hH1;have hB:=hH1.1;clear hH1 hS;have d4:World.cell? w1 ⟨g,k*8+4,none⟩=some (.int .i64 (y+4)):=HD.out 4 _ rfl w1 hB;have d5:World.cell? w1 ⟨g,k*8+5,none⟩=some (.int .i64 (y+5)):=HD.out 5 _ rfl w1 hB;have hS:Below w.heap.size w w1/\World.cell? w1 ⟨g,k*8+6,none⟩=some (.string (mkB (y+6))):=⟨hB,HD.out 6 _ rfl w1 hB⟩;clear hB;obtain⟨w0,rfl⟩:∃w0,w0=w1:=⟨_,rfl⟩;go_wp2_with fail;go_region_held (λw'=>Below w.heap.size w w'/\World.cell? w' ⟨g,k*8+6,none⟩=some (.string (mkB (y+6)))) (first|exact⟨hS.1.drew,hS.2⟩|exact Z4 hgl (by assumption) (by assumption)) (first|(go_at_call 49;refine (F8 (y+6) _ (by omega)).mono ?_;rintro e w1 ⟨rfl,hB1⟩))
   rename_i hH1;have hB:=hH1.1;clear hH1 hS d4 d5;have hS:Below w.heap.size w w1/\World.cell? w1 ⟨g,k*8+7,none⟩=some (.string (mkB (y+7))):=⟨hB,HD.out 7 _ rfl w1 hB⟩;clear hB;obtain⟨w0,rfl⟩:∃w0,w0=w1:=⟨_,rfl⟩;go_wp2_with fail;go_region_held (λw'=>Below w.heap.size w w'/\World.cell? w' ⟨g,k*8+7,none⟩=some (.string (mkB (y+7)))) (first|exact⟨hS.1.drew,hS.2⟩|exact Z4 hgl (by assumption) (by assumption)) (first|(go_at_call 49;refine (F8 (y+7) _ (by omega)).mono ?_;rintro e w1 ⟨rfl,hB1⟩))
   rename_i hH1;have hB:=hH1.1;clear hH1 hS;go_wp2_with fail
   go_roundw
   case rel=>exact⟨k+1,_,by omega,by go_num,rfl,by rw[Hy.out];omega,hB⟩
   case measure=>simp[intOf];omega
  ·obtain rfl:k=l.length:=by omega
   subst hy;go_wp2_with fail
   go_ret
   exact⟨rfl,hB⟩
end Go.Proofs.YtgecdacgmehmbaaGreatDoor
