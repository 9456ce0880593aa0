/- The reader of a code, for the share: its walks. -/
import Derived.Test.YtcgkgmmclfeohaaGreatDoorJ14
import Derived.Test.YtcgkgmmclfeohaaGreatDoorKt9
import Derived.Test.YtcgkgmmclfeohaaGreatDoorJ28
import Derived.Test.YtcgkgmmclfeohaaGreatDoorKt7
import Derived.Test.YtcgkgmmclfeohaaGreatDoorKt8
set_option maxRecDepth 20000
set_option maxHeartbeats 4000000
namespace Go.Proofs.YtcgkgmmclfeohaaGreatDoor
open Go.Proofs.Tryz
open Go.RowKit
variable{b:Bk}{nm:BA}{cd:Int}{nd tg:List BA}{base base' k p r:Nat}{v:Value}{w w':World}
theorem Cn(rb len N:Nat)(v:Value)(n:Int)(w:World)(hR:Rd w rb v len N)(hN:N<=1000000):
  Calls prog 21 #[Pz rb 0,Iz n] w
   λe w'=>(∃x:Int,e=.returned (Iz x)/\0<=x/\(1<=n->x<n))/\Rd w' rb v len (N+1)/\w.grownBy w' (some rb):=by
 obtain⟨p,hp,c0,c1,f1,a0,hl⟩:=hR;have d0:(w.setCell ⟨rb,1,none⟩ (Iz ((p:Int)+1))).cell? ⟨rb,0,none⟩=some v:=by rw[C1 _ _ _ _ (by simp)];exact c0
 have d1:(w.setCell ⟨rb,1,none⟩ (Iz ((p:Int)+1))).cell? ⟨rb,1,none⟩=some (Iz ((p:Int)+1)):=World.cell?_setCell_same _ _ _ c1;have d2:(w.setCell ⟨rb,1,none⟩ (Iz ((p:Int)+1))).frozen? ⟨rb,1,none⟩=false:=by rw[World.frozen?_setCell];exact f1
 have hg:w.grownBy (w.setCell ⟨rb,1,none⟩ (Iz ((p:Int)+1))) (some rb):=E6 (F4 _ _) _;have HR:Hid (Rd (w.setCell ⟨rb,1,none⟩ (Iz ((p:Int)+1))) rb v len (N+1)):=⟨p+1,by omega,d0,by simpa using d1,d2,a0.kept hg,hl⟩;obtain⟨a,a8,rfl,a0⟩:=a0;by_cases hn:n<1
 ·go_in;go_wp2;go_ret;exact⟨⟨0,rfl,by omega,by omega⟩,HR.out,hg⟩
 by_cases h0:len=0
 ·subst h0;go_in;go_wp2;go_ret;exact⟨⟨0,rfl,by omega,by omega⟩,HR.out,hg⟩
 rcases a0 with h|⟨b,o,z,rfl,hb,hz⟩
 ·exact absurd h h0
 have e0:((len:Int)==0)=false:=by simp;omega
 by_cases hpl:p<len
 ·obtain⟨a1,a9,b0⟩:=hz p hpl;have a2:=hg.cell a1 (by simp;omega);go_in;go_wp2;go_ret;exact⟨⟨_,rfl,Int.emod_nonneg _ (by omega),Int.emod_lt_of_pos _ (by omega)⟩,HR.out,hg⟩
 ·obtain⟨y1,y2,y3⟩:=hz (p % len) (Nat.mod_lt _ (by omega));obtain⟨q1,q2,q3⟩:=hz ((p*7+3) % len) (Nat.mod_lt _ (by omega));have a3:=hg.cell y1 (by simp;omega);have a4:=hg.cell q1 (by simp;omega);have a5:p % len<len:=Nat.mod_lt _ (by omega);have a6:(p*7+3) % len<len:=Nat.mod_lt _ (by omega);have a7:0<len:=by omega
  have i1:(0:Int)<=(p:Int) % (len:Int):=Int.emod_nonneg _ (by omega);have i2:(p:Int) % (len:Int)<(len:Int):=Int.emod_lt_of_pos _ (by omega);have i3:(0:Int)<=((p:Int)*7+3) % (len:Int):=Int.emod_nonneg _ (by omega);have i4:((p:Int)*7+3) % (len:Int)<(len:Int):=Int.emod_lt_of_pos _ (by omega);have t1:((p:Int) % (len:Int)).toNat=p % len:=by rw[← Int.natCast_emod];rfl
  have t2:(((p:Int)*7+3) % (len:Int)).toNat=(p*7+3) % len:=by rw[show ((p:Int)*7+3)=((p*7+3:Nat):Int) by omega,← Int.natCast_emod];rfl
  have j1:(0:Int)<=(p:Int) / (len:Int):=Int.ediv_nonneg (by omega) (by omega);have j2:(p:Int) / (len:Int)<=(p:Int):=by rw[← Int.natCast_ediv];have:=Nat.div_le_self p len;omega
  clear hz y1 q1;go_in;go_wp2;go_quiet (fail);obtain⟨X,hX,b1⟩:∃X:Nat,z (p % len)*131+z ((p*7+3) % len)*1117+(p:Int)*29+(p:Int) / (len:Int)*53=(X:Int)/\X<=1000000000:=⟨(z (p % len)*131+z ((p*7+3) % len)*1117+(p:Int)*29+(p:Int) / (len:Int)*53).toNat,by omega,by omega⟩;rw[hX];clear hX a3 a4 y2 y3 q2 q3 i1 i2 i3 i4 t1 t2 j1 j2 a5 a6;obtain⟨x1,x2⟩:=AcM X (X / 64) (by omega) (by omega);rw[show ((X / 64:Nat):Int)=(X:Int) / 64 by omega] at x1 x2;go_wp2;go_ret;exact⟨⟨_,rfl,Int.emod_nonneg _ (by omega),λ_=>Int.emod_lt_of_pos _ (by omega)⟩,Rd.drewN HR.out nq,Tu hg nq⟩
theorem FC(rb len N:Nat)(v:Value)(ss:List BA)(n g o c:Nat)(w:World)(hl:ss.length=n)(hR:Rd w rb v len N)(hN:N<=1000000)(hS:N3 w g o ss)(hne:g≠rb)(hpos:0<n)(hbig:n<=1000):
  Calls prog 45 #[Pz rb 0,Sy g o n c] w
   λe w'=>(∃s∈ss,e=.returned (Tz s))/\Rd w' rb v len (N+1)/\w.grownBy w' (some rb):=by
 go_in;go_wp2_with fail;refine (Cn rb len N v _ w hR hN).mono ?_;rintro e w1 ⟨⟨x,rfl,a5,a1⟩,a3,a2⟩;have a4:=a1 (by omega);obtain⟨k,rfl⟩:∃k:Nat,x=(k:Int):=⟨x.toNat,by omega⟩;have hk:k<n:=by omega
 have a0:=(hS.kept a2 hne) k (ss[k]'(by omega)) (by simp);have Hm:Hid (ss[k]'(by omega)∈ss):=by show _∈_;simp
 generalize ss[k]'(by omega)=s at *;clear a1 hS;go_wp2_with fail;go_ret;exact⟨⟨s,Hm.out,rfl⟩,a3,a2⟩
theorem WI(a:Option Addr)(n cap:Nat)(w:World)(h:Ax w w.heap.size (Vz a n cap) n)(hcap:n<=cap)(_hbig:cap<=maxLen):
  Calls prog 19 #[Vz a n cap] w
   λe w'=>(∃(rb len:Nat)(v:Value),e=.returned (Pz rb 0)/\Rd w' rb v len 0/\w.heap.size<=rb)/\Up w w':=by
 by_cases hn:2000<n
 ·go_in;go_wp2_with fail;go_ret;exact⟨⟨w.heap.size,2000,_,rfl,RU w _ 2000 _ (h.cut (by omega)) (by omega),A3 _⟩,(A4 _ _).alloc (A3 _) _⟩
 ·go_in;go_wp2_with fail;go_ret;exact⟨⟨w.heap.size,n,_,rfl,RU w _ n _ h (by omega),A3 _⟩,(A4 _ _).alloc (A3 _) _⟩
def DI(b:Bk):Prop:=b.tg.length<=40/\b.bs.length<=40/\∀x∈b.bs,x.has.length<=40/\x.nd.length<=40
def Ah7(b:Bk):Prop:=b.tg.length<=50/\b.bs.length<=50/\∀x∈b.bs,x.has.length<=50/\x.nd.length<=50
def Dk(w:World)(base:Nat)(v:Value)(b:Bk):Prop:=N4 w base v b/\Ah b/\DI b
theorem Dk.gr(h:Dk w base v b)(hg:w.grownBy w' (some r))(hr:r<base):Dk w' base v b:=⟨h.1.gr hg hr,h.2⟩
theorem Dk.low(h:Dk w base v b)(hb:base'<=base):Dk w base' v b:=⟨h.1.low hb,h.2⟩
theorem Dk.up(h:Dk w base v b)(hb:Up w w'):Dk w' base v b:=⟨h.1.up hb,h.2⟩
theorem Dk.bk(h:Dk w base v b):K6 w v b:=h.1.bk h.2.1
def Jb(w:World)(base:Nat)(v:Value)(b:Bk):Prop:=N4 w base v b/\Ah b/\Ah7 b
theorem Dk.loose(h:Dk w base v b):Jb w base v b:=by
 obtain⟨h1,h2,h3,h4,h5⟩:=h;exact⟨h1,h2,by omega,by omega,λx hx=>by have:=h5 x hx;omega⟩
theorem Jb.gr(h:Jb w base v b)(hg:w.grownBy w' (some r))(hr:r<base):Jb w' base v b:=⟨h.1.gr hg hr,h.2⟩
theorem Jb.low(h:Jb w base v b)(hb:base'<=base):Jb w base' v b:=⟨h.1.low hb,h.2⟩
theorem Jb.up(h:Jb w base v b)(hb:Up w w'):Jb w' base v b:=⟨h.1.up hb,h.2⟩
theorem Jb.bk(h:Jb w base v b):K6 w v b:=h.1.bk h.2.1
theorem It:DI Z7:=⟨by simp[Z7],by simp[Z7],λx hx=>by simp[Z7] at hx⟩
theorem UP{α:Type}{l:List α}{x y:α}(h:y∈l.take k++x::l.drop k):y∈l∨y=x:=by
 rcases C9.1 h with h|h
 ·exact .inl (List.mem_of_mem_take h)
 ·rcases List.mem_cons.1 h with h|h
  ·exact .inr h
  ·exact .inl (List.mem_of_mem_drop h)
theorem AaZ(hz:Ah b)(ht:DI b)(hn:∀s∈nd,s.size<=maxLen):Ah (N9 b nm nd)/\DI (N9 b nm nd):=by
 cases hok:J6 b
 ·rw[(RA hok).2];exact⟨DA,It⟩
 ·cases h2:(U0 nm&&pB (J3 nd b.tg))
  ·rw[(Ij hok h2).2];exact⟨hz,ht⟩
  ·cases h3:D7 (I3 b.bs) nm
   ·by_cases h4:5<=b.bs.length
    ·rw[(Jo hok h2 h3 h4).2];exact⟨hz,ht⟩
    ·rw[(Kt hok h2 h3 h4).2];have hp:J3 nd b.tg:=U9.1 (by rw[Bool.and_eq_true] at h2;exact h2.2);have hl:=Ac hp;obtain⟨s1,s2,s3⟩:=Ai (Ad hok);refine⟨⟨hz.1,λy hy=>?_⟩,by show b.tg.length<=40;omega,by simp;omega,λy hy=>?_⟩
     ·rcases UP hy with h|rfl
      ·exact hz.2 y h
      ·exact⟨λs hs=>by simp at hs,hn⟩
     ·rcases UP hy with h|rfl
      ·exact ht.2.2 y h
      ·exact⟨by simp,by show nd.length<=40;omega⟩
   ·rw[(IG hok h2 h3).2];exact⟨hz,ht⟩
theorem Aba(hz:Ah b)(ht:DI b):Ah (S5 b nm)/\DI (S5 b nm):=by
 cases hok:J6 b
 ·rw[(GT hok).2];exact⟨DA,It⟩
 ·cases h3:D7 (I3 b.bs) nm
  ·rw[(DV hok h3).2];exact⟨hz,ht⟩
  ·rw[(DB hok h3).2]
   have hm:∀y∈b.bs.take (F3 b nm)++b.bs.drop (F3 b nm+1),y∈b.bs:=λy hy=>by
    rcases C9.1 hy with h|h
    ·exact List.mem_of_mem_take h
    ·exact List.mem_of_mem_drop h
   have h2:=ht.2.1;exact⟨⟨hz.1,λy hy=>hz.2 y (hm y hy)⟩,ht.1,by simp;omega,λy hy=>ht.2.2 y (hm y hy)⟩
theorem YV{f:Ba->Ba}(hz:Ah b)(ht:DI b)(hf:∀x∈b.bs,((∀s∈(f x).has,s.size<=maxLen)/\∀s∈(f x).nd,s.size<=maxLen)/\(f x).has.length<=40/\(f x).nd.length<=40):Ah (X8 b p f)/\DI (X8 b p f):=by
 cases hx:b.bs[p]? with
 | none=>simp only[X8,hx];exact⟨hz,ht⟩
 | some x =>
  rw[BQ hx];have hm:=A6 hx;refine⟨⟨hz.1,λy hy=>?_⟩,ht.1,by rw[List.length_set];exact ht.2.1,λy hy=>?_⟩
  ·rcases List.mem_or_eq_of_mem_set hy with h|rfl
   ·exact hz.2 y h
   ·exact (hf x hm).1
  ·rcases List.mem_or_eq_of_mem_set hy with h|rfl
   ·exact ht.2.2 y h
   ·exact (hf x hm).2
theorem LT(h:J6 b=true):(N8 b nm).length<=8:=by
 obtain⟨s1,s2,s3⟩:=Ai (Ad h);cases hx:b.bs[F3 b nm]? with
 | none=>simp[N8,hx]
 | some x=>rw[BL hx];exact (s3 x (A6 hx)).2
theorem Adq(hz:Ah b)(ht:DI b)(hn:∀s∈nd,s.size<=maxLen):Ah (Z5 b nm nd)/\DI (Z5 b nm nd):=by
 cases hok:J6 b
 ·rw[(IW hok).2];exact⟨DA,It⟩
 ·cases h3:D7 (I3 b.bs) nm
  ·rw[(EK hok h3).2];exact⟨hz,ht⟩
  ·cases h2:pB (J3 nd (N8 b nm))
   ·rw[(Fq hok h3 h2).2];exact⟨hz,ht⟩
   ·rw[(Fs hok h3 h2).2];exact YV hz ht λx hx=>⟨⟨λs hs=>(hz.2 x hx).1 s (List.mem_filter.1 hs).1,hn⟩,B4 (List.length_filter_le _ _) (ht.2.2 x hx).1,by have:=Ac (U9.1 h2);have:=LT (nm:=nm) hok;show nd.length<=40;omega⟩
theorem Afg{b':Bk}(h:CU b nm tg cd b')(hz:Ah b)(ht:DI b)(hn:∀s∈tg,s.size<=maxLen):Ah b'/\DI b':=by
 have a0:J6 b=true->pB (J3 tg (N8 b nm))=true->Ah (X8 b (F3 b nm) (P7 tg))/\DI (X8 b (F3 b nm) (P7 tg)):=λhok hp=>by
  obtain⟨s1,s2,s3⟩:=Ai (Ad hok);have a1:=Ac (U9.1 hp);have a2:=LT (nm:=nm) hok
  exact YV hz ht λx hx=>⟨⟨λs hs=>by
   rcases EV _ _ s hs with h|h
   ·exact (hz.2 x hx).1 s h
   ·exact hn s h,(hz.2 x hx).2⟩,B4 (Js x.has tg) (by have:=s3 x hx;omega),(ht.2.2 x hx).2⟩
 rcases h with⟨_,_,rfl⟩|⟨_,_,_,rfl⟩|⟨_,_,_,_,rfl⟩|⟨_,_,_,_,_,rfl⟩|⟨_,_,_,_,_,_,_,rfl⟩|⟨hok,_,hp,_,_,_,rfl⟩
 ·exact⟨DA,It⟩
 ·exact⟨hz,ht⟩
 ·exact⟨hz,ht⟩
 ·exact⟨hz,ht⟩
 ·exact⟨hz,ht⟩
 ·exact a0 hok hp
def AC:List BA:=[⟨#[97,108,101]⟩,⟨#[98]⟩,⟨#[99,45,99]⟩,⟨#[100,97,114,107]⟩,⟨#[120,57]⟩]
theorem FR(w:World):
  Calls prog 46 #[] w
   λe w'=>e=.returned (Sz w.heap.size 5 5)/\w'=w.alloc (.cells (AC.map Value.string).toArray 9):=by
 go_in;go_wp2_with fail;go_ret;exact⟨rfl,rfl⟩
theorem Fg(rb len N:Nat)(v lv:Value)(n:Int)(list:List BA)(w:World)(hR:Rd w rb v len N)(hN:N<=900000)(hl:Ls w lv list)(hll:list.length<=50)(hne:∀a m c,lv=Vz (some a) m c->a.block≠rb):
  Calls prog 47 #[Pz rb 0,lv,Iz n] w
   λe w'=>(∃(u:Value)(ss:List BA),e=.returned u/\G3 w' w.heap.size u ss/\ss.length<=list.length/\∀s∈ss,s∈list)/\Rd w' rb v len (N+50)/\w.grownBy w' (some rb):=by
 obtain⟨a,c,rfl,-,-,a6⟩:=hl;have b1:=hR.lt;obtain⟨ii,hi,b2,b3,b4⟩:=info_parts Bg;have ho:=EG w;go_in;go_wp2_with fail;(try dsimp only[Iz,Sz,Sy,Nz,Vz,Tz,Ez,Pz]);go_loopw [7,8] (λu i w'=>∃(k:Nat)(ss:List BA),k<=list.length/\i=.int .i64 k/\G3 w' w.heap.size u ss/\ss.length<=k/\(∀s∈ss,s∈list)/\Rd w' rb v len (N+k)/\w.grownBy w' (some rb)) (λ_ i _=>list.length-(intOf i).toNat)
 case atStart=>exact⟨0,[],by omega,rfl,ho,by simp,λs hs=>by simp at hs,hR.alloc _,ID (F4 _ _) _⟩
 case round =>
  clear ho;obtain⟨k,ss,hk,rfl,a2,b8,b0,a7,a3⟩:=hrel;have Hsm:Hid (∀s∈ss,s∈list):=b0;clear b0;have c1:=a3.size;by_cases hp:k<list.length
  ·obtain⟨lb,lo,rfl,hS,b9⟩:=a6 (by omega);have a8:lb≠rb:=hne ⟨lb,lo,none⟩ _ _ rfl;go_wp2_with fail;refine (Cn rb len _ v n _ a7 (by omega)).mono ?_;rintro e w1 ⟨⟨x,rfl,-,-⟩,a9,a5⟩;have a1:=J0 a2 a5 b1;have a4:=S3 a3 a5;have c2:=a5.size;clear a7 a3 a2 a5;by_cases hx:x=0
   ·subst hx;have c0:=a4.cell (hS.cell hp) (by simpa using a8);have Hm:Hid (list[k]∈list):=by show _∈_;simp
    generalize list[k]=s0 at *;have a0:=World.ownsRow.alloc a1 (Kz [Tz s0] 9);go_wp2_with (at_builtin;refine wpList_append_own _ rfl _ _ 23 rfl w.heap.size 9 ii _ 1 16 underlying23 hi b2 b3 b4 rfl (by decide) _ _ _ rfl a0 ⟨w1.heap.size,0,none⟩ 1 1 [Tz s0] rfl rfl (BZ _ _ _) (Gk s0) (by unfold maxLen;omega) (by omega) (by simp;omega) ?_)
    intro v' w2 hown2 hgr2 _;have b5:=(a9.alloc (Kz [Tz s0] 9)).own a0 hgr2 b1;have b6:=Ih (ID a4 (Kz [Tz s0] 9)) a0 hgr2 (A3 _);have b7:G3 w2 w.heap.size v' (ss++[s0]):=by unfold G3;simpa using hown2
    clear a0 hgr2 hown2 a1 a4 a9 c0;go_wp2_with fail;go_roundw
    case rel=>exact⟨k+1,ss++[s0],by omega,by go_num,b7,by simp;omega,λs hs=>by
      rcases C9.1 hs with h|h
      ·exact Hsm.out s h
      ·obtain rfl:s=s0:=by simpa using h
       exact Hm.out,b5,b6⟩
    case measure=>simp[intOf];omega
   ·have c3:(x==0)=false:=by simpa using hx
    go_wp2_with fail;go_roundw
    case rel=>exact⟨k+1,ss,by omega,by go_num,a1,by omega,Hsm.out,a9,a4⟩
    case measure=>simp[intOf];omega
  ·go_wp2_with fail;go_ret;exact⟨⟨_,ss,rfl,a2,by omega,Hsm.out⟩,a7.mono (by omega),a3⟩
theorem WJ(b:Bk)(v:Value)(kd:Int)(nm:BA)(al:Option Addr)(cl:Nat)(list:List BA)(B:Nat)(w:World)(h:Dk w B v b)(hl:Ls w (Vz al list.length cl) list)(hnm:nm.size<=maxLen)(hll:list.length<=1000):
  Calls prog 23 #[v,.agg #[Iz kd,Tz nm,Vz al list.length cl]] w
   λe w'=>(∃(u:Value)(b':Bk),e=.returned u/\Dk w' w.heap.size u b')/\Up w w':=by
 have b2:=h.bk;obtain⟨-,hz,ht⟩:=h;obtain⟨-,b1,-⟩:=hl.inv;obtain⟨a1,c1,a2,c2,rfl,-,-⟩:=b2.parts;go_in;go_upto_region 1 with fail;obtain⟨W1,b4,kA,kD,kR,a9,b5⟩:=cbE3 w [Vz a1 b.tg.length c1,Vz a2 b.bs.length c2] 26 [Iz kd,Tz nm,Vz al list.length cl] 31 [Nz,Nz] 26;rw[b4];clear b4;have hk:=b2.up a9;have hl:=hl.up a9;clear b2;obtain⟨e0,e1⟩:=kA.c2';obtain⟨⟨d0,d1,d2⟩,-⟩:=kD.c3;by_cases h1:kd=1
 ·subst h1;go_wp2_with fail;refine (Kb b _ _ nm list _ hk hl hnm (by omega)).mono ?_;rintro e w2 ⟨⟨v',rfl,hV⟩,a0⟩;have Hdk:Hid (Ah (N9 b nm list)/\DI (N9 b nm list)):=AaZ hz ht b1;generalize N9 b nm list=b' at *;obtain⟨a5,c5,a6,c6,qs,rfl,-⟩:=hV.parts;have kA:=kA.up a0 (by omega);have kR:=kR.up a0 (by omega);have b3:=a0.size;have hB:=D4 a9 a0;clear e0 e1 d0 d1 d2 a0 kD;obtain⟨⟨y0,y1⟩,f0,f1⟩:=kA.c2;go_upto_region 9 with fail
  have a4:=kA.copy2 (Vz a5 (b').tg.length c5) (Vz a6 (b').bs.length c6);have a3:=(kR.other (q:=w.heap.size) (j:=0) (u:=Vz a5 (b').tg.length c5) (by omega)).other (q:=w.heap.size) (j:=1) (u:=Vz a6 (b').bs.length c6) (by omega);have a7:=(hV.set (r:=w.heap.size) (j:=0) (u:=Vz a5 (b').tg.length c5) (by omega)).set (r:=w.heap.size) (j:=1) (u:=Vz a6 (b').bs.length c6) (by omega);have a8:=I4 hB (A3 _) (Vz a5 (b').tg.length c5) (Vz a6 (b').bs.length c6);clear kA kR hV hB y0 y1 f0 f1;generalize (w2.setCell ⟨w.heap.size,0,none⟩ (Vz a5 b'.tg.length c5)).setCell ⟨w.heap.size,1,none⟩ (Vz a6 b'.bs.length c6)=W3 at *;obtain⟨⟨y0,y1⟩,-⟩:=a4.c2;obtain⟨⟨z0,z1⟩,g0,g1⟩:=a3.c2;go_wp2_with fail;refine CF results23 underlying26 rfl M4 a3 rfl ?_
  exact⟨⟨_,b',rfl,N4.low (N4.set (N4.set a7 (by omega)) (by omega)) (by omega),Hdk.out⟩,I4 a8 (by omega) _ _⟩
 have b6:(kd==1)=false:=by simpa using h1
 by_cases h2:kd=2
 ·subst h2;go_wp2_with fail;refine (LR b _ _ nm list _ hk hl (by omega)).mono ?_;rintro e w2 ⟨⟨v',cd,b',rfl,b0,hV⟩,a0⟩;have Hdk:Hid (Ah b'/\DI b'):=Afg b0 hz ht b1;clear b0;obtain⟨a5,c5,a6,c6,qs,rfl,-⟩:=hV.parts;have kA:=kA.up a0 (by omega);have kR:=kR.up a0 (by omega);have b3:=a0.size;have hB:=D4 a9 a0;clear e0 e1 d0 d1 d2 a0 kD;obtain⟨⟨y0,y1⟩,f0,f1⟩:=kA.c2;go_upto_region 9 with fail
  have a4:=kA.copy2 (Vz a5 (b').tg.length c5) (Vz a6 (b').bs.length c6);have a3:=(kR.other (q:=w.heap.size) (j:=0) (u:=Vz a5 (b').tg.length c5) (by omega)).other (q:=w.heap.size) (j:=1) (u:=Vz a6 (b').bs.length c6) (by omega);have a7:=(hV.set (r:=w.heap.size) (j:=0) (u:=Vz a5 (b').tg.length c5) (by omega)).set (r:=w.heap.size) (j:=1) (u:=Vz a6 (b').bs.length c6) (by omega);have a8:=I4 hB (A3 _) (Vz a5 (b').tg.length c5) (Vz a6 (b').bs.length c6);clear kA kR hV hB y0 y1 f0 f1;generalize (w2.setCell ⟨w.heap.size,0,none⟩ (Vz a5 b'.tg.length c5)).setCell ⟨w.heap.size,1,none⟩ (Vz a6 b'.bs.length c6)=W3 at *;obtain⟨⟨y0,y1⟩,-⟩:=a4.c2;obtain⟨⟨z0,z1⟩,g0,g1⟩:=a3.c2;go_wp2_with fail;refine CF results23 underlying26 rfl M4 a3 rfl ?_
  exact⟨⟨_,b',rfl,N4.low (N4.set (N4.set a7 (by omega)) (by omega)) (by omega),Hdk.out⟩,I4 a8 (by omega) _ _⟩
 have b7:(kd==2)=false:=by simpa using h2
 by_cases h3:kd=3
 ·subst h3;go_wp2_with fail;refine (KG b _ _ nm list _ hk hl (by omega)).mono ?_;rintro e w2 ⟨⟨v',rfl,hV⟩,a0⟩;have Hdk:Hid (Ah (Z5 b nm list)/\DI (Z5 b nm list)):=Adq hz ht b1;generalize Z5 b nm list=b' at *;obtain⟨a5,c5,a6,c6,qs,rfl,-⟩:=hV.parts;have kA:=kA.up a0 (by omega);have kR:=kR.up a0 (by omega);have b3:=a0.size;have hB:=D4 a9 a0;clear e0 e1 d0 d1 d2 a0 kD;obtain⟨⟨y0,y1⟩,f0,f1⟩:=kA.c2;go_upto_region 9 with fail
  have a4:=kA.copy2 (Vz a5 (b').tg.length c5) (Vz a6 (b').bs.length c6);have a3:=(kR.other (q:=w.heap.size) (j:=0) (u:=Vz a5 (b').tg.length c5) (by omega)).other (q:=w.heap.size) (j:=1) (u:=Vz a6 (b').bs.length c6) (by omega);have a7:=(hV.set (r:=w.heap.size) (j:=0) (u:=Vz a5 (b').tg.length c5) (by omega)).set (r:=w.heap.size) (j:=1) (u:=Vz a6 (b').bs.length c6) (by omega);have a8:=I4 hB (A3 _) (Vz a5 (b').tg.length c5) (Vz a6 (b').bs.length c6);clear kA kR hV hB y0 y1 f0 f1;generalize (w2.setCell ⟨w.heap.size,0,none⟩ (Vz a5 b'.tg.length c5)).setCell ⟨w.heap.size,1,none⟩ (Vz a6 b'.bs.length c6)=W3 at *;obtain⟨⟨y0,y1⟩,-⟩:=a4.c2;obtain⟨⟨z0,z1⟩,g0,g1⟩:=a3.c2;go_wp2_with fail;refine CF results23 underlying26 rfl M4 a3 rfl ?_
  exact⟨⟨_,b',rfl,N4.low (N4.set (N4.set a7 (by omega)) (by omega)) (by omega),Hdk.out⟩,I4 a8 (by omega) _ _⟩
 have b8:(kd==3)=false:=by simpa using h3
 go_wp2_with fail;refine (Kc b _ nm _ hk).mono ?_;rintro e w2 ⟨⟨v',rfl,hV⟩,a0⟩;have Hdk:Hid (Ah (S5 b nm)/\DI (S5 b nm)):=Aba hz ht;generalize S5 b nm=b' at *;obtain⟨a5,c5,a6,c6,qs,rfl,-⟩:=hV.parts;have kA:=kA.up a0 (by omega);have kR:=kR.up a0 (by omega);have b3:=a0.size;have hB:=D4 a9 a0;clear e0 e1 d0 d1 d2 a0 kD;obtain⟨⟨y0,y1⟩,f0,f1⟩:=kA.c2;go_upto_region 9 with fail
 have a4:=kA.copy2 (Vz a5 (b').tg.length c5) (Vz a6 (b').bs.length c6);have a3:=(kR.other (q:=w.heap.size) (j:=0) (u:=Vz a5 (b').tg.length c5) (by omega)).other (q:=w.heap.size) (j:=1) (u:=Vz a6 (b').bs.length c6) (by omega);have a7:=(hV.set (r:=w.heap.size) (j:=0) (u:=Vz a5 (b').tg.length c5) (by omega)).set (r:=w.heap.size) (j:=1) (u:=Vz a6 (b').bs.length c6) (by omega);have a8:=I4 hB (A3 _) (Vz a5 (b').tg.length c5) (Vz a6 (b').bs.length c6);clear kA kR hV hB y0 y1 f0 f1;generalize (w2.setCell ⟨w.heap.size,0,none⟩ (Vz a5 b'.tg.length c5)).setCell ⟨w.heap.size,1,none⟩ (Vz a6 b'.bs.length c6)=W3 at *;obtain⟨⟨y0,y1⟩,-⟩:=a4.c2;obtain⟨⟨z0,z1⟩,g0,g1⟩:=a3.c2;go_wp2_with fail;refine CF results23 underlying26 rfl M4 a3 rfl ?_
 exact⟨⟨_,b',rfl,N4.low (N4.set (N4.set a7 (by omega)) (by omega)) (by omega),Hdk.out⟩,I4 a8 (by omega) _ _⟩
end Go.Proofs.YtcgkgmmclfeohaaGreatDoor
