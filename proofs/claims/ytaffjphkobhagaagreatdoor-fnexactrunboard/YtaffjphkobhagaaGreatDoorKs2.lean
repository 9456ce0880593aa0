/- The specification's walks over books (chapter 11): ok or not, who has what. -/
import Derived.Test.YtaffjphkobhagaaGreatDoorJ9
namespace Go.Proofs.YtaffjphkobhagaaGreatDoor
open Proofs.Tryz
open Go.RowKit
variable{x:Ba}{b:Bk}{bs:List Ba}{k:Nat}
def Ma(b:Bk)(k:Nat):Prop:=S1 (G9 b.bs) k/\Q8 (G9 b.bs) k/\Z7 b.tg b.bs k/\M9 b.bs k 0
def DO(b:Bk)(k:Nat)(x:Ba):Prop:=E4 x.nm=true/\(∀y,0<k->b.bs[k-1]?=some y->U1 y.nm x.nm=true)/\O0 x.nj b.tg/\O0 x.has x.nj
theorem Ix(h:bs[k]?=some x):(G9 bs)[k]?=some x.nm:=by rw[G9,B3,h];rfl
theorem AbD(h:J3 b)(hx:b.bs[k]?=some x):DO b k x:=by
 have hk:=(A2.1 hx).1;have hb:=h.2.2.2.2.1 k x hk hx;refine⟨h.2.2.1 k _ (by rw[K0];exact hk) (Ix hx),λy h0 hy=>?_,hb.1,hb.2⟩;exact h.2.2.2.1 (k-1) _ _ (by rw[K0];omega) (Ix hy) (by rw[show k-1+1=k by omega];exact Ix hx)
theorem Pn(h:Ma b k)(hx:b.bs[k]?=some x)(h1:DO b k x)(ha:M9 b.bs (k+1) 0):Ma b (k+1):=by
 have hk:=(A2.1 hx).1;refine⟨λi a hi he=>?_,λi a c hi he hc=>?_,λi y hi hy=>?_,ha⟩
 .by_cases e:i=k
  .subst e;rw[Ix hx] at he;obtain rfl:=A5 he;exact h1.1
  .exact h.1 i a oM he
 .by_cases e:i+1=k
  .subst e;rw[Ix hx] at hc;obtain rfl:=A5 hc;have hy:b.bs[i]?=some b.bs[i]:=A0 oM;rw[Ix hy] at he;obtain rfl:=A5 he;exact h1.2.1 _ oM (by rw[Nat.add_sub_cancel];exact hy)
  .exact h.2.1 i a c oM he hc
 .by_cases e:i=k
  .subst e;rw[hx] at hy;obtain rfl:=A5 hy;exact⟨h1.2.2.1,h1.2.2.2⟩
  .exact h.2.2.1 i y oM hy
theorem AbE(h:Ma b k)(hk:¬k<b.bs.length)(ht:Cj b.tg)(h5:b.bs.length<=5):J3 b :=
 ⟨ht,h5,Kj h.1 (by rw[K0];exact hk),KY h.2.1 (by rw[K0];exact hk),Vj h.2.2.1 hk,Zd h.2.2.2 hk⟩
set_option maxHeartbeats 4000000 in
theorem Ss(b:Bk)(v:Value)(w:World)(h:Z5 w v b):
  cU prog 121 #[v] w (.bool (Z1 b)):=by
 obtain⟨a1,c1,a2,c2,rfl,h1,h2⟩:=h.parts;have hC:CB (w.alloc (Kz [Vz a1 (b).tg.length c1,Vz a2 (b).bs.length c2] 34)) w.heap.size [Vz a1 b.tg.length c1,Vz a2 b.bs.length c2]:=E9 w _ _;have a7:=(A4 w.heap.size w).alloc (A3 _) (Kz [Vz a1 (b).tg.length c1,Vz a2 (b).bs.length c2] 34);have g1:=h1.inv.1;have g2:=h2.at.1;unfold maxLen at g1 g2;delta cU;go_in;go_upto_region 1 with fail;generalize w.alloc (Kz [Vz a1 (b).tg.length c1,Vz a2 (b).bs.length c2] 34)=W1 at *;have l1:=h1.up a7;have l2:=h2.up a7;clear h h1 h2;obtain⟨tv,b9⟩:∃tv,Vz a1 b.tg.length c1=tv:=⟨_,rfl⟩;rw[b9] at l1 hC;clear b9;obtain⟨e0,e1⟩:=hC.c2';have b1:=hC.2.2;go_wp2_with fail;refine (Og b.tg tv _ l1).mono ?_;rintro e w2 ⟨rfl,m2,d1⟩;have hB:Up W1 w2:=by rw[d1];exact E5 (A4 _ _) _
 clear d1;cases ho:pB (Cj b.tg)
 .have Hq:Hid (Z1 b=false):=F3 λh=>N8.1 ho h.1;go_wp2_with fail;go_ret;exact⟨D4 Hq.out.symm,D3 a7 hB⟩
 have Ho:Hid (Cj b.tg):=G7.1 ho;clear ho;obtain⟨hc,hf⟩:=E2 hB;by_cases h5:5<b.bs.length
 .have Hq:Hid (Z1 b=false):=F3 λh=>by have:=h.2.1;omega
  go_wp2_with fail;go_ret;exact⟨D4 Hq.out.symm,D3 a7 hB⟩
 obtain⟨-,b4⟩:=l2.at;go_wp2_with fail;clear hc hf;(try dsimp only[Iz,Sy,Sx,Nz,Vz,Tz,Ez,Pz]);go_loopw [3,4,5] (λi _ _ w'=>∃k:Nat,k<=b.bs.length/\i=.int .i64 k/\Ma b k/\Up W1 w') (λi _ _ _=>b.bs.length-(intOf i).toNat)
 case atStart=>exact⟨0,oM,rfl,⟨S1.zero _,Q8.zero _,Z7.zero _ _,M9.zero _⟩,hB⟩
 case round =>
  clear hB;obtain⟨k,hk,rfl,c6,hB⟩:=hrel;have Hal:Hid (Ma b k):=c6;clear c6;have f0:=(hB.cell (p:=⟨w.heap.size,0,none⟩) b1).trans e0;have f1:=(hB.cell (p:=⟨w.heap.size,1,none⟩) b1).trans e1;have d7:=hB.size;by_cases hp:k<b.bs.length
  .obtain⟨bb,o,rfl,hS,hb⟩:=b4 oM;obtain⟨a3,d3,a4,d4,c3,c4,c5,l3,l4,z0⟩:=((hS.at hp).up hB hb).cells;have Hx:Hid (b.bs[k]?=some b.bs[k]):=A0 hp;have HP:Hid (∀(m:Nat)(hm:m<b.bs.length),M9 b.bs k m->m<k->J9 (b.bs[k]).has (b.bs[m]).has=false->M9 b.bs k (m+1)):=λm hm h h1 h2=>h.step hp h1 h2
   have HA:Hid (∀(m:Nat)(hm:m<b.bs.length),m<k->J9 (b.bs[k]).has (b.bs[m]).has=true->Z1 b=false):=λm hm h1 h2=>F3 λhb=>by
    rw[hb.2.2.2.2.2.at hp h1] at h2;cases h2
   generalize b.bs[k]=x0 at *;have HN:Hid (¬DO b k x0->Z1 b=false):=λh=>F3 λhb=>h (AbD hb Hx.out);have a8:CB (wr.alloc (Kz [Tz (x0).nm,Vz a3 (x0).has.length d3,Vz a4 (x0).nj.length d4] 80)) wr.heap.size [Tz x0.nm,Vz a3 x0.has.length d3,Vz a4 x0.nj.length d4]:=E9 wr _ _;have b2:=(A4 wr.heap.size wr).alloc (A3 _) (Kz [Tz (x0).nm,Vz a3 (x0).has.length d3,Vz a4 (x0).nj.length d4] 80);go_upto_region 7 with fail;generalize wr.alloc (Kz [Tz (x0).nm,Vz a3 (x0).has.length d3,Vz a4 (x0).nj.length d4] 80)=W2 at *;have a0:=D3 hB b2;have l3:=l3.up b2;have l4:=l4.up b2;have b5:=l1.up a0;obtain⟨hv,c7⟩:∃hv,Vz a3 x0.has.length d3=hv:=⟨_,rfl⟩;obtain⟨nv,c8⟩:∃nv,Vz a4 x0.nj.length d4=nv:=⟨_,rfl⟩;rw[c7] at l3 a8;rw[c8] at l4 a8;have f0:=(a0.cell (p:=⟨w.heap.size,0,none⟩) b1).trans e0;have f1:=(a0.cell (p:=⟨w.heap.size,1,none⟩) b1).trans e1;have d9:=a8.2.2;obtain⟨⟨q0,q1,q2⟩,-⟩:=a8.c3;have e2:wr.heap.size≠w.heap.size:=oM
   have b0:=hS.up a0 hb;clear c7 c8 c3 c4 c5 b2 hB hS d7;generalize wr.heap.size=xb at *;have Q0:Hid (∀n,Calls prog 159 #[Tz x0.nm] (W2.drewN n) λe w''=>e=.returned (.bool (E4 x0.nm))/\∃m,w''=W2.drewN m):=λn=>Calls.quiet_of_same (DN _ _ z0);have Q1:Hid (∀n,Calls prog 160 #[nv,tv] (W2.drewN n) λe w''=>e=.returned (.bool (pB (O0 x0.nj b.tg)))/\∃m,w''=W2.drewN m):=λn=>Calls.quiet_of (JT x0.nj b.tg nv tv _ l4.drewN b5.drewN);have Q2:Hid (∀n,Calls prog 160 #[hv,nv] (W2.drewN n) λe w''=>e=.returned (.bool (pB (O0 x0.has x0.nj)))/\∃m,w''=W2.drewN m):=λn=>Calls.quiet_of (JT x0.has x0.nj hv nv _ l3.drewN l4.drewN);cases hq:E4 x0.nm
   .have Hq:Hid (¬DO b k x0):=λh=>by rw[h.1] at hq;cases hq
    (go_wp2_with fail;go_quiet ((first|(go_at_call 159;exact Q0.out _)|(go_at_call_of 160 tv;exact Q1.out _)|(go_at_call_of 160 hv;exact Q2.out _)));go_wp2;go_ret;exact⟨D4 (HN.out (by first|exact Hq.out)).symm,D3 a7 (E5 a0 _)⟩)
   have H1:Hid (E4 x0.nm=true):=hq;cases k with
   | zero =>
    have H2:Hid (∀y,0<0->b.bs[0-1]?=some y->U1 y.nm x0.nm=true):=λy h=>by omega
    cases hq1:pB (O0 x0.nj b.tg)
    .have Hq:Hid (¬DO b (0) x0):=λh=>N8.1 hq1 h.2.2.1
     (go_wp2_with fail;go_quiet ((first|(go_at_call 159;exact Q0.out _)|(go_at_call_of 160 tv;exact Q1.out _)|(go_at_call_of 160 hv;exact Q2.out _)));go_wp2;go_ret;exact⟨D4 (HN.out (by first|exact Hq.out)).symm,D3 a7 (E5 a0 _)⟩)
    have H3:Hid (O0 x0.nj b.tg):=G7.1 hq1;cases hq2:pB (O0 x0.has x0.nj)
    .have Hq:Hid (¬DO b (0) x0):=λh=>N8.1 hq2 h.2.2.2
     (go_wp2_with fail;go_quiet ((first|(go_at_call 159;exact Q0.out _)|(go_at_call_of 160 tv;exact Q1.out _)|(go_at_call_of 160 hv;exact Q2.out _)));go_wp2;go_ret;exact⟨D4 (HN.out (by first|exact Hq.out)).symm,D3 a7 (E5 a0 _)⟩)
    have H4:Hid (DO b (0) x0):=⟨H1.out,H2.out,H3.out,G7.1 hq2⟩;go_wp2_with fail;go_quiet ((first|(go_at_call 159;exact Q0.out _)|(go_at_call_of 160 tv;exact Q1.out _)|(go_at_call_of 160 hv;exact Q2.out _)))
    have b6:Up W1 (W2.drewN nq):=E5 a0 _;have x1:(W2.drewN nq).cell? ⟨xb,1,none⟩=some hv:=q1;have y1:(W2.drewN nq).cell? ⟨w.heap.size,1,none⟩=some (Sx bb o b.bs.length c2):=f1;have lX:Ls (W2.drewN nq) hv x0.has:=l3;have sX:ER (W2.drewN nq) bb o b.bs:=b0;clear Q0 Q1 Q2 a0 q0 q1 q2 f0 f1 l3 l4 b5 b0 a8 HN H1 H2 H3 hq1 hq2 hq;generalize W2.drewN nq=X at *;go_wp2_with fail;(try dsimp only[Iz,Sy,Sx,Nz,Vz,Tz,Ez,Pz]);go_loopw [5] (λj w'=>∃m n:Nat,m<=0/\j=.int .i64 m/\M9 b.bs (0) m/\w'=X.drewN n) (λj _=>0-(intOf j).toNat)
    case atStart=>exact⟨0,0,oM,rfl,Hal.out.2.2.2,rfl⟩
    case round =>
     obtain⟨m,n,hm,rfl,a9,hw⟩:=hrel;have Hw:Hid (wr=X.drewN n):=hw;have Hap:Hid (M9 b.bs (0) m):=a9;clear hw a9;have b3:Up W1 wr:=by rw[Hw.out];exact E5 b6 _
     by_cases hmk:m<0
     .omega
     .have Hs:Hid (Ma b (0+1)):=Pn Hal.out Hx.out H4.out (Hap.out.next hmk);go_wp2_with fail;go_roundw
      case rel=>exact⟨0+1,oM,mO,Hs.out,b3⟩
      case measure=>simp[intOf];omega
   | succ k =>
    obtain⟨-,-,-,-,p0,-⟩:=(b0.at (k:=k) oM).cells;have Hy:Hid (b.bs[k+1-1]?=some (b.bs[k]' oM)):=by show _=_;rw[Nat.add_sub_cancel];exact A0 _
    generalize b.bs[k]' oM=y0 at *;cases hl:U1 y0.nm x0.nm
    .have Hq:Hid (¬DO b (k+1) x0):=λh=>by rw[h.2.1 y0 oM Hy.out] at hl;cases hl
     unfold U1 at hl
     (go_wp2_with fail;go_quiet ((first|(go_at_call 159;exact Q0.out _)|(go_at_call_of 160 tv;exact Q1.out _)|(go_at_call_of 160 hv;exact Q2.out _)));go_wp2;go_ret;exact⟨D4 (HN.out (by first|exact Hq.out)).symm,D3 a7 (E5 a0 _)⟩)
    have H2:Hid (∀y,0<k+1->b.bs[k+1-1]?=some y->U1 y.nm x0.nm=true):=λy _ hy=>by
     rw[Hy.out] at hy;obtain rfl:=A5 hy;exact hl
    unfold U1 at hl;cases hq1:pB (O0 x0.nj b.tg)
    .have Hq:Hid (¬DO b (k+1) x0):=λh=>N8.1 hq1 h.2.2.1
     (go_wp2_with fail;go_quiet ((first|(go_at_call 159;exact Q0.out _)|(go_at_call_of 160 tv;exact Q1.out _)|(go_at_call_of 160 hv;exact Q2.out _)));go_wp2;go_ret;exact⟨D4 (HN.out (by first|exact Hq.out)).symm,D3 a7 (E5 a0 _)⟩)
    have H3:Hid (O0 x0.nj b.tg):=G7.1 hq1;cases hq2:pB (O0 x0.has x0.nj)
    .have Hq:Hid (¬DO b (k+1) x0):=λh=>N8.1 hq2 h.2.2.2
     (go_wp2_with fail;go_quiet ((first|(go_at_call 159;exact Q0.out _)|(go_at_call_of 160 tv;exact Q1.out _)|(go_at_call_of 160 hv;exact Q2.out _)));go_wp2;go_ret;exact⟨D4 (HN.out (by first|exact Hq.out)).symm,D3 a7 (E5 a0 _)⟩)
    have H4:Hid (DO b (k+1) x0):=⟨H1.out,H2.out,H3.out,G7.1 hq2⟩;go_wp2_with fail;go_quiet ((first|(go_at_call 159;exact Q0.out _)|(go_at_call_of 160 tv;exact Q1.out _)|(go_at_call_of 160 hv;exact Q2.out _)))
    have b6:Up W1 (W2.drewN nq):=E5 a0 _;have x1:(W2.drewN nq).cell? ⟨xb,1,none⟩=some hv:=q1;have y1:(W2.drewN nq).cell? ⟨w.heap.size,1,none⟩=some (Sx bb o b.bs.length c2):=f1;have lX:Ls (W2.drewN nq) hv x0.has:=l3;have sX:ER (W2.drewN nq) bb o b.bs:=b0;clear Q0 Q1 Q2 a0 q0 q1 q2 f0 f1 l3 l4 b5 b0 a8 HN H1 H2 H3 hq1 hq2 hq;clear p0;generalize W2.drewN nq=X at *;go_wp2_with fail;(try dsimp only[Iz,Sy,Sx,Nz,Vz,Tz,Ez,Pz]);go_loopw [5] (λj w'=>∃m n:Nat,m<=k+1/\j=.int .i64 m/\M9 b.bs (k+1) m/\w'=X.drewN n) (λj _=>k+1-(intOf j).toNat)
    case atStart=>exact⟨0,0,oM,rfl,Hal.out.2.2.2,rfl⟩
    case round =>
     obtain⟨m,n,hm,rfl,a9,hw⟩:=hrel;have Hw:Hid (wr=X.drewN n):=hw;have Hap:Hid (M9 b.bs (k+1) m):=a9;clear hw a9;have b3:Up W1 wr:=by rw[Hw.out];exact E5 b6 _
     by_cases hmk:m<k+1
     .have b7:m<b.bs.length:=oM
      obtain⟨a5,d5,a6,d6,-,r1,-,l5,-,-⟩:=(sX.at b7).cells;have d8:AS wr bb (o+m*3+1) (Vz a5 (b.bs[m]).has.length d5):=by rw[Hw.out];exact r1
      have e3:AS wr xb 1 hv:=by rw[Hw.out];exact x1
      have e4:AS wr w.heap.size 1 (Sx bb o b.bs.length c2):=by rw[Hw.out];exact y1
      have HP1:Hid (J9 x0.has (b.bs[m]).has=false->M9 b.bs (k+1) (m+1)):=HP.out m b7 Hap.out hmk;have HA1:Hid (J9 x0.has (b.bs[m]).has=true->Z1 b=false):=HA.out m b7 hmk;have d0:Ls wr hv x0.has:=by rw[Hw.out];exact lX
      have b8:Ls wr (Vz a5 (b.bs[m]).has.length d5) (b.bs[m]).has:=by rw[Hw.out];exact l5
      clear r1 l5;generalize b.bs[m]=y0 at *;obtain⟨uv,c9⟩:∃uv,Vz a5 y0.has.length d5=uv:=⟨_,rfl⟩;rw[c9] at d8 b8;clear c9;cases hs:J9 x0.has y0.has
      .have Hs:Hid (M9 b.bs (k+1) (m+1)):=HP1.out hs;have Q3:Hid (∀n,Calls prog 161 #[hv,uv] (wr.drewN n) λe w''=>e=.returned (.bool false)/\∃m,w''=wr.drewN m):=λn=>by rw[← hs];exact Calls.quiet_of_same (Hg x0.has y0.has hv uv _ d0.drewN b8.drewN)
       go_wp2_with fail;go_quiet ((go_at_call 161;exact Q3.out _))
       go_wp2_with fail;go_roundw
       case rel =>
        obtain⟨m',d2⟩:=U8 (n:=nq) Hw.out;exact⟨m+1,m',oM,mO,Hs.out,d2⟩
       case measure=>simp[intOf];omega
      .have Hs:Hid (Z1 b=false):=HA1.out hs;have Q3:Hid (∀n,Calls prog 161 #[hv,uv] (wr.drewN n) λe w''=>e=.returned (.bool true)/\∃m,w''=wr.drewN m):=λn=>by rw[← hs];exact Calls.quiet_of_same (Hg x0.has y0.has hv uv _ d0.drewN b8.drewN)
       go_wp2_with fail;go_quiet ((go_at_call 161;exact Q3.out _))
       go_wp2_with fail;go_ret;exact⟨D4 Hs.out.symm,D3 a7 (E5 b3 _)⟩
     .have Hs:Hid (Ma b (k+1+1)):=Pn Hal.out Hx.out H4.out (Hap.out.next hmk);go_wp2_with fail;go_roundw
      case rel=>exact⟨k+1+1,oM,mO,Hs.out,b3⟩
      case measure=>simp[intOf];omega
  .have Hq:Hid (Z1 b=true):=M5 (AbE Hal.out hp Ho.out oM);go_wp2_with fail;go_ret;exact⟨D4 Hq.out.symm,D3 a7 hB⟩
end Go.Proofs.YtaffjphkobhagaaGreatDoor
