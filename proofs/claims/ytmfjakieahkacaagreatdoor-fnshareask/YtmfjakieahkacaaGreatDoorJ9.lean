/- The specification's walks over names and lists of texts (chapter 11). -/
import Derived.Test.YtmfjakieahkacaaGreatDoorJ2
set_option maxHeartbeats 4000000
namespace Go.Proofs.YtmfjakieahkacaaGreatDoor
open Go.RowKit
theorem Ph(n lo hi:Int)(w:World):
  Calls Tryz.prog 65 #[.int .i64 n,.int .i64 lo,.int .i64 hi] w λe w'=>e=.returned (.bool (Oo n lo hi))/\w'=w:=by
 by_cases h1:lo<=n<;>by_cases h2:n<=hi
 all_goals
  go_enter Tryz.func65,Tryz.ntmps65;go_wp2;go_ret;exact⟨F6 (by simp[Oo,h1,h2]),rfl⟩
theorem Dh(s:ByteArray)(w:World)(hs:s.size<=maxLen):
  Calls Tryz.prog 40 #[.string s] w λe w'=>e=.returned (.bool (U9 s))/\w'=w:=by
 unfold maxLen at hs;by_cases h1:1<=s.size/\s.size<=8
 case neg =>
  have h2:Oo s.size 1 8=false:=(AaA _ _ _).2 (by omega);go_enter Tryz.func40,Tryz.ntmps40;go_wp2_with (go_at_call 65;refine (Ph _ _ _ _).mono ?_;rintro e w' ⟨rfl,hw⟩;obtain rfl:=hw.symm;clear hw)
  go_ret;exact⟨F6 (by simp only[U9];simp;omega),rfl⟩
 have hn:Hid (U9 s=CI s.data.toList):=by show U9 s=_;simp[U9,h1]
 have h2:Oo s.size 1 8=true:=(Ro _ _ _).2 (by omega);go_enter Tryz.func40,Tryz.ntmps40;go_wp2_with (go_at_call 65;refine (Ph _ _ _ _).mono ?_;rintro e w' ⟨rfl,hw⟩;obtain rfl:=hw.symm;clear hw)
 go_loop [3] (λi=>∃k:Nat,k<=s.size/\i=.int .i64 k/\CI (s.data.toList.take k)=true) (λi=>s.size-(intOf i).toNat)
 case atStart=>exact⟨0,by omega,rfl,rfl⟩
 case round =>
  obtain⟨k,hk,rfl,hal⟩:=hrel;have Hal:Hid (CI (s.data.toList.take k)=true):=hal;clear hal;by_cases hp:k<s.size
  ·have HS:Hid (EU (s[k]'hp).toNat=true->CI (s.data.toList.take (k+1))=true):=by show _->_;intro hb;rw[MK s k hp,Hal.out,hb];rfl
   have HN:Hid (EU (s[k]'hp).toNat=false->CI s.data.toList=false):=LM s k hp;go_wp2
   all_goals first
    | (go_ret;exact⟨F6 (by rw[hn.out];exact (HN.out (by rw[← Bool.not_eq_true,Jo];go_light;simp at *;omega)).symm),rfl⟩)
    | (go_round
       case rel=>exact⟨k+1,by omega,by go_num,HS.out (by rw[Jo];go_light;simp at *;omega)⟩
       case measure=>simp[intOf];omega)
  ·go_wp2;go_ret;exact⟨F6 (by rw[hn.out,Om s k hp Hal.out]),rfl⟩
theorem Bi(ss:List ByteArray)(v:Value)(s:ByteArray)(w:World)(h:Ls w v ss):
  Calls Tryz.prog 43 #[v,.string s] w λe w'=>e=.returned (.bool (D2 ss s))/\w'=w:=by
 obtain⟨a,c,rfl,hn,-,hpos⟩:=h;unfold maxLen at hn;go_enter Tryz.func43,Tryz.ntmps43;go_wp2;go_loop [5] (λi=>∃k:Nat,k<=ss.length/\i=.int .i64 k/\D2 (ss.take k) s=false) (λi=>ss.length-(intOf i).toNat)
 case atStart=>exact⟨0,by omega,rfl,rfl⟩
 case round =>
  obtain⟨k,hk,rfl,hal⟩:=hrel;have Hal:Hid (D2 (ss.take k) s=false):=hal;clear hal;by_cases hp:k<ss.length
  ·obtain⟨b,o,rfl,hS,hb⟩:=hpos (by omega);have c0:=hS.cell hp;cases hq:((ss[k]).toList==s.toList)
   ·have Hq:Hid (((ss[k]).toList==s.toList)=false):=hq;go_wp2;go_round
    case rel=>exact⟨k+1,by omega,by go_num,EH hp Hal.out Hq.out⟩
    case measure=>simp[intOf];omega
   ·have Hq:Hid (((ss[k]).toList==s.toList)=true):=hq;go_wp2;go_ret;exact⟨F6 (EW hp Hq.out).symm,rfl⟩
  ·go_wp2;go_ret;exact⟨F6 (Fw hp Hal.out).symm,rfl⟩
theorem Ew(xs ys:List ByteArray)(u v:Value)(w:World)(h:Ls w u xs)(h2:Ls w v ys):
  Calls Tryz.prog 41 #[u,v] w λe w'=>e=.returned (.bool (O4 xs ys))/\w'=w:=by
 obtain⟨a,c,rfl,hn,-,hpos⟩:=h;obtain⟨a2,c2,rfl,-⟩:=id h2;unfold maxLen at hn;go_enter Tryz.func41,Tryz.ntmps41;go_wp2;go_loop [5] (λi=>∃k:Nat,k<=xs.length/\i=.int .i64 k/\O4 (xs.take k) ys=false) (λi=>xs.length-(intOf i).toNat)
 case atStart=>exact⟨0,by omega,rfl,rfl⟩
 case round =>
  obtain⟨k,hk,rfl,hal⟩:=hrel;have Hal:Hid (O4 (xs.take k) ys=false):=hal;clear hal;by_cases hp:k<xs.length
  ·obtain⟨b,o,rfl,hS,hb⟩:=hpos (by omega);have c0:=hS.cell hp;cases hq:D2 ys xs[k]
   ·have Hq:Hid (D2 ys xs[k]=false):=hq;go_wp2_with (go_at_call 43;refine (Bi ys _ _ _ h2).mono ?_;rintro e w' ⟨rfl,hw⟩;obtain rfl:=hw.symm;clear hw)
    go_round
    case rel=>exact⟨k+1,by omega,by go_num,Qz hp Hal.out Hq.out⟩
    case measure=>simp[intOf];omega
   ·have Hq:Hid (D2 ys xs[k]=true):=hq;go_wp2_with (go_at_call 43;refine (Bi ys _ _ _ h2).mono ?_;rintro e w' ⟨rfl,hw⟩;obtain rfl:=hw.symm;clear hw)
    go_ret;exact⟨F6 (Ou hp Hq.out).symm,rfl⟩
  ·go_wp2;go_ret;exact⟨F6 (SJ hp Hal.out).symm,rfl⟩
theorem Aw{w w':World}{m n:Nat}(h:w'=w.drewN m):∃k,w'.drewN n=w.drewN k:=⟨_,by rw[h,World.drewN_drewN]⟩
theorem Cx(ss all:List ByteArray)(u v:Value)(w:World)(h:Ls w u ss)(h2:Ls w v all):
  Calls Tryz.prog 20 #[u,v] w λe w'=>e=.returned (.bool (pB (J9 ss all)))/\∃m,w'=w.drewN m:=by
 obtain⟨a,c,rfl,hn,-,hpos⟩:=h;obtain⟨a2,c2,rfl,-⟩:=id h2;unfold maxLen at hn;go_enter Tryz.func20,Tryz.ntmps20;go_wp2;go_loopw [5] (λi w'=>∃k m:Nat,k<=ss.length/\i=.int .i64 k/\Bo ss all k/\Z4 ss k/\w'=w.drewN m) (λi _=>ss.length-(intOf i).toNat)
 case atStart=>exact⟨0,0,by omega,rfl,Bo.zero _ _,Z4.zero _,rfl⟩
 case round =>
  obtain⟨k,m,hk,rfl,hal,hasc,hw⟩:=hrel;have Hw:Hid (wr=w.drewN m):=hw;clear hw;have Hal:Hid (Bo ss all k):=hal;have Hasc:Hid (Z4 ss k):=hasc;clear hal hasc;by_cases hp:k<ss.length
  ·obtain⟨b,o,rfl,hS,hb⟩:=hpos (by omega);have c0:wr.cell? ⟨b,o+k,none⟩=some (.string ss[k]):=by rw[Hw.out];exact hS.cell hp
   cases hq:D2 all ss[k]
   ·have Hq:Hid (¬J9 ss all):=λh=>by rw[LQ h.1 hp] at hq;cases hq
    go_wp2_with fail;go_quiet ((go_at_call 43;exact Calls.quiet_of_same (Bi all _ _ _ (by have e:=Hw.out;subst e;exact h2))))
    go_wp2;go_ret;exact⟨F6 (V4 Hq.out).symm,Aw Hw.out⟩
   have Hq:Hid (Bo ss all (k+1)):=Hal.out.step hp hq;cases k with
   | zero =>
    simp only[Nat.add_zero] at c0;go_wp2_with fail;go_quiet ((go_at_call 43;exact Calls.quiet_of_same (Bi all _ _ _ (by have e:=Hw.out;subst e;exact h2))))
    go_wp2;go_roundw
    case rel=>obtain⟨m',hm'⟩:=Aw (n:=nq) Hw.out;exact⟨1,m',by omega,by go_num,Hq.out,Z4.one _,hm'⟩
    case measure=>simp[intOf];omega
   | succ k =>
    have c1:wr.cell? ⟨b,o+k,none⟩=some (.string ss[k]):=by rw[Hw.out];exact hS.cell (k:=k) (by omega)
    cases hl:Z9 ss[k] ss[k+1]
    ·have Hl:Hid (¬J9 ss all):=λh=>by rw[Ox h.2 hp] at hl;cases hl
     unfold Z9 at hl;go_wp2_with fail;go_quiet ((go_at_call 43;exact Calls.quiet_of_same (Bi all _ _ _ (by have e:=Hw.out;subst e;exact h2))))
     go_wp2;go_ret;exact⟨F6 (V4 Hl.out).symm,Aw Hw.out⟩
    ·have Hl:Hid (Z4 ss (k+2)):=Hasc.out.step hp hl;unfold Z9 at hl;go_wp2_with fail;go_quiet ((go_at_call 43;exact Calls.quiet_of_same (Bi all _ _ _ (by have e:=Hw.out;subst e;exact h2))))
     go_wp2;go_roundw
     case rel=>obtain⟨m',hm'⟩:=Aw (n:=nq) Hw.out;exact⟨k+1+1,m',by omega,by go_num,Hq.out,Hl.out,hm'⟩
     case measure=>simp[intOf];omega
  ·go_wp2;go_ret;exact⟨F6 (Z3 ⟨Ov Hal.out hp,Jq Hasc.out hp⟩).symm,_,Hw.out⟩
theorem LZ(ss:List ByteArray)(u:Value)(w:World)(h:Ls w u ss):
  Calls Tryz.prog 39 #[u] w λe w'=>e=.returned (.bool (pB (CW ss)))/\∃m,w'=w.drewN m:=by
 obtain⟨a,c,rfl,hn,hz,hpos⟩:=h;unfold maxLen at hn;by_cases h8:8<ss.length
 ·go_enter Tryz.func39,Tryz.ntmps39;go_wp2;go_ret;exact⟨F6 (V4 λh=>by have:=h.1;omega).symm,0,rfl⟩
 have H8:Hid (ss.length<=8):=by show _<=_;omega
 go_enter Tryz.func39,Tryz.ntmps39;go_wp2;go_loopw [3] (λi w'=>∃k m:Nat,k<=ss.length/\i=.int .i64 k/\Aa ss k/\Z4 ss k/\w'=w.drewN m) (λi _=>ss.length-(intOf i).toNat)
 case atStart=>exact⟨0,0,by omega,rfl,Aa.zero _,Z4.zero _,rfl⟩
 case round =>
  obtain⟨k,m,hk,rfl,hal,hasc,hw⟩:=hrel;have Hw:Hid (wr=w.drewN m):=hw;clear hw;have Hal:Hid (Aa ss k):=hal;have Hasc:Hid (Z4 ss k):=hasc;clear hal hasc;by_cases hp:k<ss.length
  ·obtain⟨b,o,rfl,hS,hb⟩:=hpos (by omega);have c0:wr.cell? ⟨b,o+k,none⟩=some (.string ss[k]):=by rw[Hw.out];exact hS.cell hp
   have z0:=hz ss[k] (by simp);cases hq:U9 ss[k]
   ·have Hq:Hid (¬CW ss):=λh=>by rw[Oy h.2.1 hp] at hq;cases hq
    go_wp2_with fail;go_quiet ((go_at_call 40;exact Calls.quiet_of_same (Dh _ _ z0)))
    go_wp2;go_ret;exact⟨F6 (V4 Hq.out).symm,Aw Hw.out⟩
   have Hq:Hid (Aa ss (k+1)):=Hal.out.step hp hq;cases k with
   | zero =>
    simp only[Nat.add_zero] at c0;go_wp2_with fail;go_quiet ((go_at_call 40;exact Calls.quiet_of_same (Dh _ _ z0)))
    go_wp2;go_roundw
    case rel=>obtain⟨m',hm'⟩:=Aw (n:=nq) Hw.out;exact⟨1,m',by omega,by go_num,Hq.out,Z4.one _,hm'⟩
    case measure=>simp[intOf];omega
   | succ k =>
    have c1:wr.cell? ⟨b,o+k,none⟩=some (.string ss[k]):=by rw[Hw.out];exact hS.cell (k:=k) (by omega)
    cases hl:Z9 ss[k] ss[k+1]
    ·have Hl:Hid (¬CW ss):=λh=>by rw[Ox h.2.2 hp] at hl;cases hl
     unfold Z9 at hl;go_wp2_with fail;go_quiet ((go_at_call 40;exact Calls.quiet_of_same (Dh _ _ z0)))
     go_wp2;go_ret;exact⟨F6 (V4 Hl.out).symm,Aw Hw.out⟩
    ·have Hl:Hid (Z4 ss (k+2)):=Hasc.out.step hp hl;unfold Z9 at hl;go_wp2_with fail;go_quiet ((go_at_call 40;exact Calls.quiet_of_same (Dh _ _ z0)))
     go_wp2;go_roundw
     case rel=>obtain⟨m',hm'⟩:=Aw (n:=nq) Hw.out;exact⟨k+1+1,m',by omega,by go_num,Hq.out,Hl.out,hm'⟩
     case measure=>simp[intOf];omega
  ·go_wp2;go_ret;exact⟨F6 (Z3 ⟨H8.out,IB Hal.out hp,Jq Hasc.out hp⟩).symm,_,Hw.out⟩
def Km(b:Bk)(k:Nat):Prop:=Aa (I9 b.bs) k/\Z4 (I9 b.bs) k/\AR b.tg b.bs k/\V5 b.bs k 0
def DV(b:Bk)(k:Nat)(x:Ba):Prop:=U9 x.nm=true/\(∀y,0<k->b.bs[k-1]?=some y->Z9 y.nm x.nm=true)/\J9 x.nd b.tg/\J9 x.has x.nd
theorem GD{bs:List Ba}{k:Nat}{x:Ba}(h:bs[k]?=some x):(I9 bs)[k]?=some x.nm:=by rw[I9,A9,h];rfl
theorem Xb{b:Bk}(h:J0 b){k:Nat}{x:Ba}(hx:b.bs[k]?=some x):DV b k x:=by
 have hk:=(A2.1 hx).1;have hb:=h.2.2.2.2.1 k x hk hx;refine⟨h.2.2.1 k _ (by rw[O1];exact hk) (GD hx),λy h0 hy=>?_,hb.1,hb.2⟩;exact h.2.2.2.1 (k-1) _ _ (by rw[O1];omega) (GD hy) (by rw[show k-1+1=k by omega];exact GD hx)
theorem MV{b:Bk}{k:Nat}{x:Ba}(h:Km b k)(hx:b.bs[k]?=some x)(h1:DV b k x)(ha:V5 b.bs (k+1) 0):Km b (k+1):=by
 have hk:=(A2.1 hx).1;refine⟨λi a hi he=>?_,λi a c hi he hc=>?_,λi y hi hy=>?_,ha⟩
 ·by_cases e:i=k
  ·subst e;rw[GD hx] at he;obtain rfl:=A5 he;exact h1.1
  ·exact h.1 i a (by omega) he
 ·by_cases e:i+1=k
  ·subst e;rw[GD hx] at hc;obtain rfl:=A5 hc;have hy:b.bs[i]?=some b.bs[i]:=A0 (by omega);rw[GD hy] at he;obtain rfl:=A5 he;exact h1.2.1 _ (by omega) (by rw[Nat.add_sub_cancel];exact hy)
  ·exact h.2.1 i a c (by omega) he hc
 ·by_cases e:i=k
  ·subst e;rw[hx] at hy;obtain rfl:=A5 hy;exact⟨h1.2.2.1,h1.2.2.2⟩
  ·exact h.2.2.1 i y (by omega) hy
theorem Xc{b:Bk}{k:Nat}(h:Km b k)(hk:¬k<b.bs.length)(ht:CW b.tg)(h5:b.bs.length<=5):J0 b :=
 ⟨ht,h5,IB h.1 (by rw[O1];exact hk),Jq h.2.1 (by rw[O1];exact hk),Rq h.2.2.1 hk,Uj h.2.2.2 hk⟩
theorem CY(b:Bk)(v:Value)(w:World)(h:K0 w v b):
  Calls Tryz.prog 17 #[v] w λe w'=>e=.returned (.bool (I1 b))/\Below w.heap.size w w':=by
 obtain⟨a1,c1,a2,c2,rfl,h1,h2⟩:=h.parts;have hC:CB (w.alloc (.cells #[.slice a1 (b).tg.length c1,.slice a2 (b).bs.length c2] 26)) w.heap.size [.slice a1 b.tg.length c1,.slice a2 b.bs.length c2]:=T6 w _ _;have hB0:=(A4 w.heap.size w).alloc (A3 _) (.cells #[.slice a1 (b).tg.length c1,.slice a2 (b).bs.length c2] 26);have g1:=h1.inv.1;have g2:=h2.at.1;unfold maxLen at g1 g2;go_enter Tryz.func17,Tryz.ntmps17;go_upto_region 1 with fail;generalize w.alloc (.cells #[.slice a1 (b).tg.length c1,.slice a2 (b).bs.length c2] 26)=W1 at *;have l1:=h1.up hB0;have l2:=h2.up hB0;clear h h1 h2;obtain⟨tv,htv⟩:∃tv,Value.slice a1 b.tg.length c1=tv:=⟨_,rfl⟩;rw[htv] at l1 hC;clear htv;obtain⟨e0,e1⟩:=hC.c2';have hlt:=hC.2.2;go_wp2_with fail;refine (LZ b.tg tv _ l1).mono ?_;rintro e w2 ⟨rfl,m2,hw2⟩;have hB:Below W1.heap.size W1 w2:=by rw[hw2];exact M3 (A4 _ _) _
 clear hw2;cases ho:pB (CW b.tg)
 ·have Hq:Hid (I1 b=false):=V4 λh=>Bd.1 ho h.1;go_wp2_with fail;go_ret;exact⟨F6 Hq.out.symm,D1 hB0 hB⟩
 have Ho:Hid (CW b.tg):=O7.1 ho;clear ho;obtain⟨hc,hf⟩:=CN hB;by_cases h5:5<b.bs.length
 ·have Hq:Hid (I1 b=false):=V4 λh=>by have:=h.2.1;omega
  go_wp2_with fail;go_ret;exact⟨F6 Hq.out.symm,D1 hB0 hB⟩
 obtain⟨-,hpos⟩:=l2.at;go_wp2_with fail;clear hc hf;go_loopw [3,4,5] (λi _ _ w'=>∃k:Nat,k<=b.bs.length/\i=.int .i64 k/\Km b k/\Below W1.heap.size W1 w') (λi _ _ _=>b.bs.length-(intOf i).toNat)
 case atStart=>exact⟨0,by omega,rfl,⟨Aa.zero _,Z4.zero _,AR.zero _ _,V5.zero _⟩,hB⟩
 case round =>
  clear hB;obtain⟨k,hk,rfl,hal,hB⟩:=hrel;have Hal:Hid (Km b k):=hal;clear hal;have f0:=(hB.cell (p:=⟨w.heap.size,0,none⟩) hlt).trans e0;have f1:=(hB.cell (p:=⟨w.heap.size,1,none⟩) hlt).trans e1;have hsz:=hB.size;by_cases hp:k<b.bs.length
  ·obtain⟨bb,o,rfl,hS,hb⟩:=hpos (by omega);obtain⟨a3,d3,a4,d4,c3,c4,c5,l3,l4,z0⟩:=((hS.at hp).up hB hb).cells;have Hx:Hid (b.bs[k]?=some b.bs[k]):=A0 hp;have HP:Hid (∀(m:Nat)(hm:m<b.bs.length),V5 b.bs k m->m<k->O4 (b.bs[k]).has (b.bs[m]).has=false->V5 b.bs k (m+1)):=λm hm h h1 h2=>h.step hp h1 h2
   have HA:Hid (∀(m:Nat)(hm:m<b.bs.length),m<k->O4 (b.bs[k]).has (b.bs[m]).has=true->I1 b=false):=λm hm h1 h2=>V4 λhb=>by
    rw[hb.2.2.2.2.2.at hp h1] at h2;cases h2
   generalize b.bs[k]=x0 at *;have HN:Hid (¬DV b k x0->I1 b=false):=λh=>V4 λhb=>h (Xb hb Hx.out);have hC1:CB (wr.alloc (.cells #[.string (x0).nm,.slice a3 (x0).has.length d3,.slice a4 (x0).nd.length d4] 49)) wr.heap.size [.string x0.nm,.slice a3 x0.has.length d3,.slice a4 x0.nd.length d4]:=T6 wr _ _;have hb5:=(A4 wr.heap.size wr).alloc (A3 _) (.cells #[.string (x0).nm,.slice a3 (x0).has.length d3,.slice a4 (x0).nd.length d4] 49);go_upto_region 7 with fail;generalize wr.alloc (.cells #[.string (x0).nm,.slice a3 (x0).has.length d3,.slice a4 (x0).nd.length d4] 49)=W2 at *;have hB5:=D1 hB hb5;have l3:=l3.up hb5;have l4:=l4.up hb5;have l1':=l1.up hB5;obtain⟨hv,hhv⟩:∃hv,Value.slice a3 x0.has.length d3=hv:=⟨_,rfl⟩;obtain⟨nv,hnv⟩:∃nv,Value.slice a4 x0.nd.length d4=nv:=⟨_,rfl⟩;rw[hhv] at l3 hC1;rw[hnv] at l4 hC1;have f0:=(hB5.cell (p:=⟨w.heap.size,0,none⟩) hlt).trans e0;have f1:=(hB5.cell (p:=⟨w.heap.size,1,none⟩) hlt).trans e1;have hxl:=hC1.2.2;obtain⟨⟨q0,q1,q2⟩,-⟩:=hC1.c3;have hne:wr.heap.size≠w.heap.size:=by omega
   have hS5:=hS.up hB5 hb;clear hhv hnv c3 c4 c5 hb5 hB hS hsz;generalize wr.heap.size=xb at *;have Q0:Hid (∀n,Calls Tryz.prog 40 #[.string x0.nm] (W2.drewN n) λe w''=>e=.returned (.bool (U9 x0.nm))/\∃m,w''=W2.drewN m):=λn=>Calls.quiet_of_same (Dh _ _ z0);have Q1:Hid (∀n,Calls Tryz.prog 20 #[nv,tv] (W2.drewN n) λe w''=>e=.returned (.bool (pB (J9 x0.nd b.tg)))/\∃m,w''=W2.drewN m):=λn=>Calls.quiet_of (Cx x0.nd b.tg nv tv _ l4.drewN l1'.drewN);have Q2:Hid (∀n,Calls Tryz.prog 20 #[hv,nv] (W2.drewN n) λe w''=>e=.returned (.bool (pB (J9 x0.has x0.nd)))/\∃m,w''=W2.drewN m):=λn=>Calls.quiet_of (Cx x0.has x0.nd hv nv _ l3.drewN l4.drewN);cases hq:U9 x0.nm
   ·have Hq:Hid (¬DV b k x0):=λh=>by rw[h.1] at hq;cases hq
    (go_wp2_with fail;go_quiet ((first|(go_at_call 40;exact Q0.out _)|(go_at_call_of 20 tv;exact Q1.out _)|(go_at_call_of 20 hv;exact Q2.out _)));go_wp2;go_ret;exact⟨F6 (HN.out (by first|exact Hq.out)).symm,D1 hB0 (M3 hB5 _)⟩)
   have H1:Hid (U9 x0.nm=true):=hq;cases k with
   | zero =>
    have H2:Hid (∀y,0<0->b.bs[0-1]?=some y->Z9 y.nm x0.nm=true):=λy h=>by omega
    cases hq1:pB (J9 x0.nd b.tg)
    ·have Hq:Hid (¬DV b (0) x0):=λh=>Bd.1 hq1 h.2.2.1
     (go_wp2_with fail;go_quiet ((first|(go_at_call 40;exact Q0.out _)|(go_at_call_of 20 tv;exact Q1.out _)|(go_at_call_of 20 hv;exact Q2.out _)));go_wp2;go_ret;exact⟨F6 (HN.out (by first|exact Hq.out)).symm,D1 hB0 (M3 hB5 _)⟩)
    have H3:Hid (J9 x0.nd b.tg):=O7.1 hq1;cases hq2:pB (J9 x0.has x0.nd)
    ·have Hq:Hid (¬DV b (0) x0):=λh=>Bd.1 hq2 h.2.2.2
     (go_wp2_with fail;go_quiet ((first|(go_at_call 40;exact Q0.out _)|(go_at_call_of 20 tv;exact Q1.out _)|(go_at_call_of 20 hv;exact Q2.out _)));go_wp2;go_ret;exact⟨F6 (HN.out (by first|exact Hq.out)).symm,D1 hB0 (M3 hB5 _)⟩)
    have H4:Hid (DV b (0) x0):=⟨H1.out,H2.out,H3.out,O7.1 hq2⟩;go_wp2_with fail;go_quiet ((first|(go_at_call 40;exact Q0.out _)|(go_at_call_of 20 tv;exact Q1.out _)|(go_at_call_of 20 hv;exact Q2.out _)))
    have hBX:Below W1.heap.size W1 (W2.drewN nq):=M3 hB5 _;have x1:(W2.drewN nq).cell? ⟨xb,1,none⟩=some hv:=q1;have y1:(W2.drewN nq).cell? ⟨w.heap.size,1,none⟩=some (.slice (some ⟨bb,o,none⟩) b.bs.length c2):=f1;have lX:Ls (W2.drewN nq) hv x0.has:=l3;have sX:GQ (W2.drewN nq) bb o b.bs:=hS5;clear Q0 Q1 Q2 hB5 q0 q1 q2 f0 f1 l3 l4 l1' hS5 hC1 HN H1 H2 H3 hq1 hq2 hq;generalize W2.drewN nq=X at *;go_wp2_with fail;go_loopw [5] (λj w'=>∃m n:Nat,m<=0/\j=.int .i64 m/\V5 b.bs (0) m/\w'=X.drewN n) (λj _=>0-(intOf j).toNat)
    case atStart=>exact⟨0,0,by omega,rfl,Hal.out.2.2.2,rfl⟩
    case round =>
     obtain⟨m,n,hm,rfl,hap,hw⟩:=hrel;have Hw:Hid (wr=X.drewN n):=hw;have Hap:Hid (V5 b.bs (0) m):=hap;clear hw hap;have hBw:Below W1.heap.size W1 wr:=by rw[Hw.out];exact M3 hBX _
     by_cases hmk:m<0
     ·omega
     ·have Hs:Hid (Km b (0+1)):=MV Hal.out Hx.out H4.out (Hap.out.next hmk);go_wp2_with fail;go_roundw
      case rel=>exact⟨0+1,by omega,by go_num,Hs.out,hBw⟩
      case measure=>simp[intOf];omega
   | succ k =>
    obtain⟨-,-,-,-,p0,-⟩:=(hS5.at (k:=k) (by omega)).cells;have Hy:Hid (b.bs[k+1-1]?=some (b.bs[k]'(by omega))):=by show _=_;rw[Nat.add_sub_cancel];exact A0 _
    generalize b.bs[k]'(by omega)=y0 at *;cases hl:Z9 y0.nm x0.nm
    ·have Hq:Hid (¬DV b (k+1) x0):=λh=>by rw[h.2.1 y0 (by omega) Hy.out] at hl;cases hl
     unfold Z9 at hl
     (go_wp2_with fail;go_quiet ((first|(go_at_call 40;exact Q0.out _)|(go_at_call_of 20 tv;exact Q1.out _)|(go_at_call_of 20 hv;exact Q2.out _)));go_wp2;go_ret;exact⟨F6 (HN.out (by first|exact Hq.out)).symm,D1 hB0 (M3 hB5 _)⟩)
    have H2:Hid (∀y,0<k+1->b.bs[k+1-1]?=some y->Z9 y.nm x0.nm=true):=λy _ hy=>by
     rw[Hy.out] at hy;obtain rfl:=A5 hy;exact hl
    unfold Z9 at hl;cases hq1:pB (J9 x0.nd b.tg)
    ·have Hq:Hid (¬DV b (k+1) x0):=λh=>Bd.1 hq1 h.2.2.1
     (go_wp2_with fail;go_quiet ((first|(go_at_call 40;exact Q0.out _)|(go_at_call_of 20 tv;exact Q1.out _)|(go_at_call_of 20 hv;exact Q2.out _)));go_wp2;go_ret;exact⟨F6 (HN.out (by first|exact Hq.out)).symm,D1 hB0 (M3 hB5 _)⟩)
    have H3:Hid (J9 x0.nd b.tg):=O7.1 hq1;cases hq2:pB (J9 x0.has x0.nd)
    ·have Hq:Hid (¬DV b (k+1) x0):=λh=>Bd.1 hq2 h.2.2.2
     (go_wp2_with fail;go_quiet ((first|(go_at_call 40;exact Q0.out _)|(go_at_call_of 20 tv;exact Q1.out _)|(go_at_call_of 20 hv;exact Q2.out _)));go_wp2;go_ret;exact⟨F6 (HN.out (by first|exact Hq.out)).symm,D1 hB0 (M3 hB5 _)⟩)
    have H4:Hid (DV b (k+1) x0):=⟨H1.out,H2.out,H3.out,O7.1 hq2⟩;go_wp2_with fail;go_quiet ((first|(go_at_call 40;exact Q0.out _)|(go_at_call_of 20 tv;exact Q1.out _)|(go_at_call_of 20 hv;exact Q2.out _)))
    have hBX:Below W1.heap.size W1 (W2.drewN nq):=M3 hB5 _;have x1:(W2.drewN nq).cell? ⟨xb,1,none⟩=some hv:=q1;have y1:(W2.drewN nq).cell? ⟨w.heap.size,1,none⟩=some (.slice (some ⟨bb,o,none⟩) b.bs.length c2):=f1;have lX:Ls (W2.drewN nq) hv x0.has:=l3;have sX:GQ (W2.drewN nq) bb o b.bs:=hS5;clear Q0 Q1 Q2 hB5 q0 q1 q2 f0 f1 l3 l4 l1' hS5 hC1 HN H1 H2 H3 hq1 hq2 hq;clear p0;generalize W2.drewN nq=X at *;go_wp2_with fail;go_loopw [5] (λj w'=>∃m n:Nat,m<=k+1/\j=.int .i64 m/\V5 b.bs (k+1) m/\w'=X.drewN n) (λj _=>k+1-(intOf j).toNat)
    case atStart=>exact⟨0,0,by omega,rfl,Hal.out.2.2.2,rfl⟩
    case round =>
     obtain⟨m,n,hm,rfl,hap,hw⟩:=hrel;have Hw:Hid (wr=X.drewN n):=hw;have Hap:Hid (V5 b.bs (k+1) m):=hap;clear hw hap;have hBw:Below W1.heap.size W1 wr:=by rw[Hw.out];exact M3 hBX _
     by_cases hmk:m<k+1
     ·have hml:m<b.bs.length:=by omega
      obtain⟨a5,d5,a6,d6,-,r1,-,l5,-,-⟩:=(sX.at hml).cells;have r1':wr.cell? ⟨bb,o+m*3+1,none⟩=some (.slice a5 (b.bs[m]).has.length d5):=by rw[Hw.out];exact r1
      have x1':wr.cell? ⟨xb,1,none⟩=some hv:=by rw[Hw.out];exact x1
      have y1':wr.cell? ⟨w.heap.size,1,none⟩=some (.slice (some ⟨bb,o,none⟩) b.bs.length c2):=by rw[Hw.out];exact y1
      have HP1:Hid (O4 x0.has (b.bs[m]).has=false->V5 b.bs (k+1) (m+1)):=HP.out m hml Hap.out hmk;have HA1:Hid (O4 x0.has (b.bs[m]).has=true->I1 b=false):=HA.out m hml hmk;have lX':Ls wr hv x0.has:=by rw[Hw.out];exact lX
      have l5':Ls wr (.slice a5 (b.bs[m]).has.length d5) (b.bs[m]).has:=by rw[Hw.out];exact l5
      clear r1 l5;generalize b.bs[m]=y0 at *;obtain⟨uv,huv⟩:∃uv,Value.slice a5 y0.has.length d5=uv:=⟨_,rfl⟩;rw[huv] at r1' l5';clear huv;cases hs:O4 x0.has y0.has
      ·have Hs:Hid (V5 b.bs (k+1) (m+1)):=HP1.out hs;have Q3:Hid (∀n,Calls Tryz.prog 41 #[hv,uv] (wr.drewN n) λe w''=>e=.returned (.bool false)/\∃m,w''=wr.drewN m):=λn=>by rw[← hs];exact Calls.quiet_of_same (Ew x0.has y0.has hv uv _ lX'.drewN l5'.drewN)
       go_wp2_with fail;go_quiet ((go_at_call 41;exact Q3.out _))
       go_wp2_with fail;go_roundw
       case rel =>
        obtain⟨m',hm'⟩:=Aw (n:=nq) Hw.out;exact⟨m+1,m',by omega,by go_num,Hs.out,hm'⟩
       case measure=>simp[intOf];omega
      ·have Hs:Hid (I1 b=false):=HA1.out hs;have Q3:Hid (∀n,Calls Tryz.prog 41 #[hv,uv] (wr.drewN n) λe w''=>e=.returned (.bool true)/\∃m,w''=wr.drewN m):=λn=>by rw[← hs];exact Calls.quiet_of_same (Ew x0.has y0.has hv uv _ lX'.drewN l5'.drewN)
       go_wp2_with fail;go_quiet ((go_at_call 41;exact Q3.out _))
       go_wp2_with fail;go_ret;exact⟨F6 Hs.out.symm,D1 hB0 (M3 hBw _)⟩
     ·have Hs:Hid (Km b (k+1+1)):=MV Hal.out Hx.out H4.out (Hap.out.next hmk);go_wp2_with fail;go_roundw
      case rel=>exact⟨k+1+1,by omega,by go_num,Hs.out,hBw⟩
      case measure=>simp[intOf];omega
  ·have Hq:Hid (I1 b=true):=Z3 (Xc Hal.out hp Ho.out (by omega));go_wp2_with fail;go_ret;exact⟨F6 Hq.out.symm,D1 hB0 hB⟩
end Go.Proofs.YtmfjakieahkacaaGreatDoor
