/- The program's walk of a name (chapter 11). -/
import Derived.Test.YtcgkgmmclfeohaaGreatDoorJ3
import Derived.Maps.OwnSet
import Derived.Maps.OwnOps
import Derived.OrdersHeld
import Derived.Deep.RegionHeld
set_option maxRecDepth 100000
set_option maxHeartbeats 2000000
namespace Go.Proofs.YtcgkgmmclfeohaaGreatDoor
open Go.Proofs.Tryz
open Go.RowKit
theorem Jn(s:BA)(w:World)(hs:s.size<=maxLen):
  Calls prog 54 #[Tz s] w λe w'=>e=.returned (.bool (U0 s))/\Up w w':=by
 unfold maxLen at hs;by_cases h1:1<=s.size
 case neg =>
  go_in;go_wp2;go_ret;exact⟨J5 (by simp[U0,h1]),A4 _ _⟩
 by_cases h2:s.size<=8
 case neg =>
  go_in;go_wp2;go_ret;exact⟨J5 (by simp[U0,h2]),A4 _ _⟩
 have hn:Hid (U0 s=Do s.data.toList):=by show U0 s=_;simp[U0,h1,h2]
 go_in;go_wp2_with fail;(try dsimp only[Iz,Sz,Sy,Nz,Vz,Tz,Ez,Pz]);go_loopw [4] (λ_ w'=>∃a0:Nat,w'=w.iter s a0/\a0<=s.size/\Do (s.data.toList.take a0)=true) (λ_ w'=>s.size-w'.iterPos w.heap.size)
 case atStart=>exact⟨0,rfl,by omega,rfl⟩
 case round =>
  obtain⟨a0,rfl,a4,a1⟩:=hrel;have Hal:Hid (Do (s.data.toList.take a0)=true):=a1;clear a1;by_cases hp:a0<s.size
  ·have a2:∀ty,(Instr.next (Pz w.heap.size 0) true ty).run prog (w.iter s a0)=_:=λty=>run_next_any w s a0 ty hp;by_cases ha:(s[a0]'hp).toNat<128
   ·rw[decode_ascii s a0 hp ha] at a2;by_cases hb:Gq (s[a0]'hp).toNat=true
    ·have Hb:Hid (Gq (s[a0]'hp).toNat=true):=hb;go_wp2_with (go_at_call 67;refine (Mg _ _).mono ?_;rintro e w' ⟨rfl,rfl⟩)
     go_roundw
     case rel=>exact⟨a0+1,rfl,by omega,by rw[Pm s a0 hp,Hal.out,Hb.out];rfl⟩
     case measure=>simp;omega
    ·have a3:Gq (s[a0]'hp).toNat=false:=by simpa using hb
     have Hb:Hid (Gq (s[a0]'hp).toNat=false):=a3;clear hb;go_wp2_with (go_at_call 67;refine (Mg _ _).mono ?_;rintro e w' ⟨rfl,rfl⟩)
     go_ret;exact⟨J5 (by rw[hn.out,Oe s a0 hp Hb.out]),Of _ _ _⟩
   ·have hi:=decode_high s a0 hp (by omega);have a3:Gq (Utf8.decode s a0).1=false:=Rb _ hi.1;have Hb:Hid (Gq (s[a0]'hp).toNat=false):=Rb _ (by omega);clear hi;go_wp2_with (go_at_call 67;refine (Mg _ _).mono ?_;rintro e w' ⟨rfl,rfl⟩)
    go_ret;exact⟨J5 (by rw[hn.out,Oe s a0 hp Hb.out]),Of _ _ _⟩
  ·have a2:∀ty,(Instr.next (Pz w.heap.size 0) true ty).run prog (w.iter s a0)=_:=λty=>run_next_end w s a0 ty hp;go_wp2;go_ret;exact⟨J5 (by rw[hn.out,Rc s a0 hp Hal.out]),Of _ _ _⟩
theorem VN(ss:List BA)(v:Value)(s:BA)(w:World)(h:Ls w v ss):
  Calls prog 88 #[v,Tz s] w λe w'=>e=.returned (Iz (BK ss s))/\w'=w:=by
 obtain⟨a,c,rfl,hn,-,a0⟩:=h;unfold maxLen at hn;go_in;go_wp2;go_loop [8] (λi=>∃k:Nat,k<=ss.length/\i=.int .i64 k/\D7 (ss.take k) s=false) (λi=>ss.length-(intOf i).toNat)
 case atStart=>exact⟨0,by omega,rfl,rfl⟩
 case round =>
  obtain⟨k,hk,rfl,a1⟩:=hrel;have Hal:Hid (D7 (ss.take k) s=false):=a1;clear a1;by_cases hp:k<ss.length
  ·obtain⟨b,o,rfl,hS,hb⟩:=a0 (by omega);have c0:=hS.cell hp;cases hq:(s.toList==(ss[k]).toList)
   ·have Hq:Hid (((ss[k]).toList==s.toList)=false):=by show _=_;rw[Jk];exact hq
    go_wp2;go_round
    case rel=>exact⟨k+1,by omega,by go_num,FU hp Hal.out Hq.out⟩
    case measure=>simp[intOf];omega
   ·have Hq:Hid (((ss[k]).toList==s.toList)=true):=by show _=_;rw[Jk];exact hq
    go_wp2;go_ret;exact⟨GC (Gu hp Hal.out Hq.out).symm,rfl⟩
  ·go_wp2;go_ret;exact⟨GC (Cd (GN hp Hal.out)).symm,rfl⟩
theorem JX(ss:List BA)(v:Value)(s:BA)(w:World)(h:Ls w v ss):
  Calls prog 68 #[v,Tz s] w λe w'=>e=.returned (.bool (D7 ss s))/\w'=w:=by
 obtain⟨a,c,rfl,-⟩:=id h;go_in;go_wp2_with (go_at_call 88;refine Swz (VN ss _ _ _ h) ?_)
 all_goals
  go_ret;refine⟨J5 ?_,rfl⟩;rw[← Mf];try simp_all
theorem Us(ss:List BA)(u:Value)(w:World)(h:Ls w u ss):
  Calls prog 55 #[u] w λe w'=>e=.returned (.bool (pB (AM ss)))/\Up w w':=by
 obtain⟨a,c,rfl,hn,-,a1⟩:=h;unfold maxLen at hn;go_in;go_wp2;(try dsimp only[Iz,Sz,Sy,Nz,Vz,Tz,Ez,Pz]);go_loopw [3] (λi w'=>∃k:Nat,(k+1<=ss.length∨k=0)/\i=.int .i64 (k+1)/\Ao ss (k+1)/\Up w w') (λi _=>ss.length-(intOf i).toNat)
 case atStart=>exact⟨0,.inr rfl,rfl,Ao.one _,A4 _ _⟩
 case round =>
  obtain⟨k,hk,rfl,a0,hB⟩:=hrel;have Hasc:Hid (Ao ss (k+1)):=a0;clear a0;by_cases hp:k+1<ss.length
  ·obtain⟨b,o,rfl,hS,hb⟩:=a1 (by omega);have c0:=(hS.up hB hb).cell hp;have c1:=(hS.up hB hb).cell (k:=k) (by omega);clear hk;cases hl:Z9 ss[k] ss[k+1]
   ·have Hl:Hid (¬AM ss):=λh=>by rw[Rj h hp] at hl;cases hl
    unfold Z9 at hl;go_wp2_with fail;go_quiet (fail);go_wp2;go_ret;exact⟨J5 (AL Hl.out).symm,N0 hB _⟩
   ·have Hl:Hid (Ao ss (k+2)):=Hasc.out.step hp hl;unfold Z9 at hl;go_wp2_with fail;go_quiet (fail);go_wp2;go_roundw
    case rel=>exact⟨k+1,.inl (by omega),by go_num,Hl.out,N0 hB _⟩
    case measure=>simp[intOf];omega
  ·go_wp2;go_ret;exact⟨J5 (Au (Lc Hasc.out hp)).symm,hB⟩
theorem IF(ss:List BA)(u:Value)(w:World)(h:Ls w u ss):
  Calls prog 36 #[u] w λe w'=>e=.returned (.bool (pB (Dq ss/\AM ss)))/\Up w w':=by
 have h0:=h;obtain⟨a,c,rfl,hn,hz,a1⟩:=h;unfold maxLen at hn;go_in;go_wp2;(try dsimp only[Iz,Sz,Sy,Nz,Vz,Tz,Ez,Pz]);go_loopw [4,7] (λ_ i w'=>∃k:Nat,k<=ss.length/\i=.int .i64 k/\Aw ss k/\Up w w') (λ_ i _=>ss.length-(intOf i).toNat)
 case atStart=>exact⟨0,by omega,rfl,Aw.zero _,A4 _ _⟩
 case round =>
  obtain⟨k,hk,rfl,a2,hB⟩:=hrel;have Hal:Hid (Aw ss k):=a2;clear a2;by_cases hp:k<ss.length
  ·obtain⟨b,o,rfl,hS,hb⟩:=a1 (by omega);have c0:=(hS.up hB hb).cell hp;have z0:=hz ss[k] (by simp);cases hq:U0 ss[k]
   ·have Hq:Hid (¬(Dq ss/\AM ss)):=λh=>by rw[Me h.1 hp] at hq;cases hq
    go_wp2_with (go_at_call 54;refine (Jn _ _ z0).mono ?_;rintro e w1 ⟨rfl,a0⟩;(first|replace hB:=D4 hB a0|have hB:=a0);clear a0;(try clear hc hf);obtain⟨hc,hf⟩:=Dp hB)
    go_ret;exact⟨J5 (AL Hq.out).symm,hB⟩
   ·have Hq:Hid (Aw ss (k+1)):=Hal.out.step hp hq;go_wp2_with (go_at_call 54;refine (Jn _ _ z0).mono ?_;rintro e w1 ⟨rfl,a0⟩;(first|replace hB:=D4 hB a0|have hB:=a0);clear a0;(try clear hc hf);obtain⟨hc,hf⟩:=Dp hB)
    go_roundw
    case rel=>exact⟨k+1,by omega,by go_num,Hq.out,hB⟩
    case measure=>simp[intOf];omega
  ·have Hq:Hid (Dq ss):=Kk Hal.out hp
   have Hp:Hid (pB (Dq ss/\AM ss)=pB (AM ss)):=by
    show _=_
    have:=Hq.out;unfold pB;simp[this]
   go_wp2_with (go_at_call 55;refine (Us ss _ _ (h0.up hB)).mono ?_;rintro e w1 ⟨rfl,a0⟩;(first|replace hB:=D4 hB a0|have hB:=a0);clear a0;(try clear hc hf);obtain⟨hc,hf⟩:=Dp hB)
   go_ret;exact⟨J5 Hp.out.symm,hB⟩
theorem ET(ss all:List BA)(u v:Value)(w:World)(h:Ls w u ss)(h2:Ls w v all):
  Calls prog 56 #[u,v] w λe w'=>e=.returned (.bool (pB (J3 ss all)))/\Up w w':=by
 have h0:=h;obtain⟨a,c,rfl,hn,hz,a0⟩:=h;obtain⟨a2,c2,rfl,-⟩:=id h2;unfold maxLen at hn;go_in;go_wp2;(try dsimp only[Iz,Sz,Sy,Nz,Vz,Tz,Ez,Pz]);go_loopw [6,9] (λ_ i w'=>∃k:Nat,k<=ss.length/\i=.int .i64 k/\BP ss all k/\Up w w') (λ_ i _=>ss.length-(intOf i).toNat)
 case atStart=>exact⟨0,by omega,rfl,BP.zero _ _,A4 _ _⟩
 case round =>
  obtain⟨k,hk,rfl,a3,hB⟩:=hrel;have Hal:Hid (BP ss all k):=a3;clear a3;by_cases hp:k<ss.length
  ·obtain⟨b,o,rfl,hS,hb⟩:=a0 (by omega);have c0:=(hS.up hB hb).cell hp;cases hq:D7 all ss[k]
   ·have Hq:Hid (¬J3 ss all):=λh=>by rw[Oh h.1 hp] at hq;cases hq
    go_wp2_with (go_at_call 68;refine Swz (JX all _ _ _ (h2.up hB)) ?_)
    go_ret;exact⟨J5 (AL Hq.out).symm,hB⟩
   ·have Hq:Hid (BP ss all (k+1)):=Hal.out.step hp hq;go_wp2_with (go_at_call 68;refine Swz (JX all _ _ _ (h2.up hB)) ?_)
    go_roundw
    case rel=>exact⟨k+1,by omega,by go_num,Hq.out,hB⟩
    case measure=>simp[intOf];omega
  ·have Hq:Hid (Og ss all):=Ri Hal.out hp
   have Hp:Hid (pB (J3 ss all)=pB (AM ss)):=by
    show _=_
    have:=Hq.out;unfold pB J3;simp[this]
   go_wp2_with (go_at_call 55;refine (Us ss _ _ (h0.up hB)).mono ?_;rintro e w1 ⟨rfl,a1⟩;(first|replace hB:=D4 hB a1|have hB:=a1);clear a1;(try clear hc hf);obtain⟨hc,hf⟩:=Dp hB)
   go_ret;exact⟨J5 Hp.out.symm,hB⟩
theorem TA(x:Ba)(tg:List BA)(hv nv tv:Value)(w:World)(h1:Ls w hv x.has)(h2:Ls w nv x.nd)(h3:Ls w tv tg):
  Calls prog 38 #[.agg #[Tz x.nm,hv,nv],tv] w λe w'=>e=.returned (.bool (pB (GP tg x)))/\Up w w':=by
 obtain⟨a1,c1,rfl,-⟩:=id h1;obtain⟨a2,c2,rfl,-⟩:=id h2;obtain⟨a3,c3,rfl,-⟩:=id h3;have hC:CB (w.alloc (Kz [Tz x.nm,Vz a1 x.has.length c1,Vz a2 x.nd.length c2] 57)) w.heap.size [Tz x.nm,Vz a1 x.has.length c1,Vz a2 x.nd.length c2]:=O7 w _ _;have a4:=(A4 w.heap.size w).alloc (A3 _) (Kz [Tz x.nm,Vz a1 x.has.length c1,Vz a2 x.nd.length c2] 57);go_in;go_upto_region 1 with fail;generalize w.alloc (Kz [Tz x.nm,Vz a1 x.has.length c1,Vz a2 x.nd.length c2] 57)=W1 at *;obtain⟨⟨d0,d1,d2⟩,-⟩:=hC.c3;have a5:=hC.2.2;have l1:=h1.up a4;have l2:=h2.up a4;have l3:=h3.up a4;have hB:Up W1 W1:=A4 _ _;obtain⟨hc,hf⟩:=Dp hB;cases hq:pB (J3 x.nd tg)
 ·have Hq:Hid (pB (GP tg x)=false):=AL λh=>Cc.1 hq h.1;go_wp2_with (go_at_call 56;refine (ET x.nd tg _ _ _ (l2.up hB) (l3.up hB)).mono ?_;rintro e w1 ⟨rfl,a0⟩;(first|replace hB:=D4 hB a0|have hB:=a0);clear a0;(try clear hc hf);obtain⟨hc,hf⟩:=Dp hB)
  go_ret;exact⟨J5 Hq.out.symm,D4 a4 hB⟩
 ·have Hq:Hid (pB (GP tg x)=pB (J3 x.has x.nd)):=by
   show _=_
   have:=U9.1 hq;unfold pB GP;simp[this]
  go_wp2_with (first|(revert hq;intro hq;(go_at_call 56;refine (ET x.nd tg _ _ _ (l2.up hB) (l3.up hB)).mono ?_;rintro e w1 ⟨rfl,a0⟩;(first|replace hB:=D4 hB a0|have hB:=a0);clear a0;(try clear hc hf);obtain⟨hc,hf⟩:=Dp hB);clear l3)|(go_at_call 56;refine (ET x.has x.nd _ _ _ (l1.up hB) (l2.up hB)).mono ?_;rintro e w1 ⟨rfl,a0⟩;(first|replace hB:=D4 hB a0|have hB:=a0);clear a0;(try clear hc hf);obtain⟨hc,hf⟩:=Dp hB))
  go_ret;exact⟨J5 Hq.out.symm,D4 a4 hB⟩
end Go.Proofs.YtcgkgmmclfeohaaGreatDoor
namespace Go.Proofs.YtcgkgmmclfeohaaGreatDoor
open Go.Proofs.Tryz
open Go.RowKit Go.Maps
theorem Aam(bs:List Ba)(k:Nat)(hk:k<bs.length):I3 (bs.take (k+1))=I3 (bs.take k)++[(bs[k]).nm]:=by
 rw[Rk,Rk,A7 (by rw[N7];exact hk),CE bs k hk]
theorem Jl.batch{w:World}{b o:Nat}{x:Ba}(h:Jl w b o x):x.nm.size<=maxLen:=by
 obtain⟨_,_,_,_,_,h3⟩:=h;exact h3
theorem IQ(bs:List Ba)(v:Value)(w:World)(h:Bs w v bs)(hn:bs.length<=1048576):
  Calls prog 37 #[v] w λe w'=>(∃u,e=.returned u/\G3 w' w.heap.size u (I3 bs)/\Ls w' u (I3 bs))/\Up w w':=by
 obtain⟨a,c,rfl,-,a5⟩:=h;obtain⟨ii,hi,a8,a9,b0⟩:=info_parts Bg;go_in;go_wp2_with fail;(try dsimp only[Iz,Sz,Sy,Nz,Vz,Tz,Ez,Pz]);go_loopw [3,5,8] (λu _ i w'=>∃k:Nat,k<=bs.length/\i=.int .i64 k/\w'.ownsRow w.heap.size 9 1 u k ((I3 (bs.take k)).map Value.string)/\Up w w') (λ_ _ i _=>bs.length-(intOf i).toNat)
 case atStart=>exact⟨0,by omega,rfl,⟨by simp[I3],.inl ⟨rfl,rfl⟩⟩,A4 _ _⟩
 case round =>
  obtain⟨k,hk,rfl,a3,hB⟩:=hrel;by_cases hp:k<bs.length
  ·obtain⟨b,o,rfl,hS,hb⟩:=a5 (by omega);obtain⟨a1,d1,a2,d2,c0,c1,c2,l1,l2,z0⟩:=((hS.at hp).up hB hb).cells
   have Hs:Hid ((I3 (bs.take (k+1))).map Value.string=(I3 (bs.take k)).map Value.string++[Tz (bs[k]).nm]):=by
    show _=_
    rw[Aam bs k hp,List.map_append];rfl
   generalize bs[k]=x0 at *;clear l1 l2 hS;have a6:=hB.alloc hB.size (Kz [Tz (x0).nm,Vz a1 (x0).has.length d1,Vz a2 (x0).nd.length d2] 57);have a4:=P0 a3 ((A4 wr.heap.size wr).alloc (A3 _) (Kz [Tz (x0).nm,Vz a1 (x0).has.length d1,Vz a2 (x0).nd.length d2] 57));have hC:CB (wr.alloc (Kz [Tz (x0).nm,Vz a1 (x0).has.length d1,Vz a2 (x0).nd.length d2] 57)) wr.heap.size [Tz x0.nm,Vz a1 x0.has.length d1,Vz a2 x0.nd.length d2]:=O7 wr _ _;have hz:=hB.size;go_upto_region 5 with fail;generalize wr.alloc (Kz [Tz (x0).nm,Vz a1 (x0).has.length d1,Vz a2 (x0).nd.length d2] 57)=W1 at *;obtain⟨⟨e0,-⟩,-⟩:=hC.c3;clear c0 c1 c2 a3 hB;have a0:=P0 a4 ((A4 W1.heap.size W1).alloc (A3 _) (Kz [Tz x0.nm] 9));have a7:=a6.alloc a6.size (Kz [Tz x0.nm] 9);go_wp2_with (at_builtin;refine wpList_append_own _ rfl _ _ 49 rfl w.heap.size 9 ii _ 1 16 underlying49 hi a8 a9 b0 rfl (by decide) _ _ _ rfl a0 ⟨W1.heap.size,0,none⟩ 1 1 [Tz x0.nm] rfl rfl (BZ _ _ _) (Gk _) (by unfold maxLen;omega) (by omega) a7.size ?_)
   intro v1 w1 hown3 hgrow3 _;rw[← Hs.out] at hown3;have b1:=O6 a7 a0 hgrow3 (A3 _);clear a4 a0 hgrow3 a6 a7 hC e0;go_wp2_with fail;go_roundw
   case rel=>exact⟨k+1,by omega,by go_num,hown3,b1⟩
   case measure=>simp[intOf];omega
  ·have hz:∀s∈I3 bs,s.size<=maxLen:=λs hs=>by
    obtain⟨x,hx,rfl⟩:=List.mem_map.1 hs;obtain⟨i,hi,rfl⟩:=B7 hx;obtain⟨b,o,rfl,hS,hb⟩:=a5 (by omega);exact (hS.at hi).batch
   have Ho:Hid (∀u,wr.ownsRow w.heap.size 9 1 u k ((I3 (bs.take k)).map Value.string)->G3 wr w.heap.size u (I3 bs)):=λu h=>by
    obtain rfl:k=bs.length:=by omega
    rw[List.take_length] at h;unfold G3;rw[N7];exact h
   have Hz:Hid (∀s∈I3 bs,s.size<=maxLen):=hz;clear hz;go_wp2_with fail;go_ret;exact⟨⟨_,rfl,Ho.out _ a3,(Ho.out _ a3).lst.ls Hz.out⟩,hB⟩
theorem Ks:Keyed prog 9:=string_keyed underlying9
theorem Ld(w:World):(zeroValue 3).run prog w=.ok (Iz 0) w:=by kernel_rfl
abbrev VO (w:World) (M n:Nat) (D:DataW Unit):Prop:=w.ownsMap prog 9 (plainElem prog 3) M n D
theorem LO(bs:List Ba)(v:Value)(w:World)(h:Bs w v bs)(hn:bs.length<=5)(h8:∀x∈bs,AM x.has/\x.has.length<=8):
  Calls prog 39 #[v] w λe w' =>
   ((CQ bs/\∃M n D,e=.returned (.tuple #[.map (some M),.bool true])/\VO w' M n D/\Z6 D bs bs.length 0/\w.heap.size<=M)∨(¬CQ bs/\e=.returned (.tuple #[.map none,.bool false])))/\Up w w':=by
 obtain⟨a,c,rfl,-,a6⟩:=h;have b3:=@run_makeMap prog;go_in;go_wp2_with fail;(try dsimp only[Iz,Sz,Sy,Nz,Vz,Tz,Ez,Pz]);go_loopw [5,6,8,9,10,14] (λ_ _ _ _ _ i w'=>∃(k:Nat)(D:DataW Unit),k<=bs.length/\i=.int .i64 k/\VO w' w.heap.size (k*8) D/\Z6 D bs k 0/\Up w w') (λ_ _ _ _ _ i _=>bs.length-(intOf i).toNat)
 case atStart=>exact⟨0,_,by omega,rfl,World.ownsMap_made _ _ _ _,Z6.start bs,(A4 _ _).alloc (A3 _) _⟩
 case round =>
  obtain⟨k,D,hk,rfl,a0,hD,hB⟩:=hrel;have HD:Hid (Z6 D bs k 0):=hD;clear hD;by_cases hp:k<bs.length
  ·obtain⟨b,o,rfl,hS,hb⟩:=a6 (by omega);obtain⟨a1,d1,a2,d2,c0,c1,c2,l1,-,-⟩:=(hS.at hp).cells;obtain⟨a7,b2⟩:=h8 bs[k] (by simp)
   have HS:Hid (∀(D:DataW Unit)(m:Nat)(s:BA),(bs[k]).has[m]?=some s->Z6 D bs k m->Maps.has D (kl s)=false->Z6 (D.put (kl s) (.lit (.int .i64 (k:Int)))) bs k (m+1)):=λD m s hs h hn=>by
    obtain⟨hm,rfl⟩:=A2.1 hs;exact h.step hp hm hn
   have HT:Hid (∀(D:DataW Unit)(m:Nat)(s:BA),(bs[k]).has[m]?=some s->Z6 D bs k m->Maps.has D (kl s)=true->¬CQ bs):=λD m s hs h hn=>by
    obtain⟨hm,rfl⟩:=A2.1 hs;exact h.twice hp hm a7 hn
   have HN:Hid (∀(D:DataW Unit)(m:Nat),¬m<(bs[k]).has.length->Z6 D bs k m->Z6 D bs (k+1) 0):=λD m hm h=>h.next hp hm;obtain⟨-,hz,a8⟩:=l1.inv;clear a7 l1;generalize bs[k]=x0 at *;obtain⟨hc,hf⟩:=Dp hB;have a5:=hB.alloc hB.size (Kz [Tz (x0).nm,Vz a1 (x0).has.length d1,Vz a2 (x0).nd.length d2] 57);have a3:=a0.alloc (Kz [Tz (x0).nm,Vz a1 (x0).has.length d1,Vz a2 (x0).nd.length d2] 57);have hC:CB (wr.alloc (Kz [Tz (x0).nm,Vz a1 (x0).has.length d1,Vz a2 (x0).nd.length d2] 57)) wr.heap.size [Tz x0.nm,Vz a1 x0.has.length d1,Vz a2 x0.nd.length d2]:=O7 wr _ _;have b4:=hB.size;go_upto_region 5 with fail;generalize wr.alloc (Kz [Tz (x0).nm,Vz a1 (x0).has.length d1,Vz a2 (x0).nd.length d2] 57)=W1 at *;obtain⟨⟨e0,e1,e2⟩,-⟩:=hC.c3;clear c0 c1 c2 hc hf a0 hB hS;go_wp2_with fail;clear e0 e1 e2 hC;(try dsimp only[Iz,Sz,Sy,Nz,Vz,Tz,Ez,Pz]);go_loopw [8,9,10,22] (λ_ _ _ j w'=>∃(m:Nat)(D':DataW Unit),m<=x0.has.length/\j=.int .i64 m/\VO w' w.heap.size (k*8+m) D'/\Z6 D' bs k m/\Up w w') (λ_ _ _ j _=>x0.has.length-(intOf j).toNat)
   case atStart=>exact⟨0,D,by omega,rfl,a3,HD.out,a5⟩
   case round =>
    clear a5 a3 HD;obtain⟨m,D',hm,rfl,a0,hD,hB⟩:=hrel;have HD:Hid (Z6 D' bs k m):=hD;clear hD;by_cases hq:m<x0.has.length
    ·obtain⟨b1,o1,rfl,a9,b0⟩:=a8 (by omega);have c0:=(hB.cell (p:=⟨b1,o1+m,none⟩) b0).trans (a9.cell hq);have z0:=hz x0.has[m] (by simp);have hx:=A0 hq;generalize x0.has[m]=s at *;have Hy:Hid (Maps.has D' (kl s)=false->Z6 (D'.put (kl s) (.lit (.int .i64 (k:Int)))) bs k (m+1)):=HS.out D' m s hx HD.out;have Ht:Hid (Maps.has D' (kl s)=true->¬CQ bs):=HT.out D' m s hx HD.out;have a4:keyOf prog 9 (Tz s)=some (kl s):=WideMaps.keyOf_string_mk underlying9 z0;clear HS HT HN hx HD;cases ht:Maps.has D' (kl s)
     ·go_wp2_with (first
       | (at_lookup;refine wpList_lookup_own_ok_int _ rfl _ _ 70 rfl 9 3 .i64 Ks underlying70 underlying3 (Ld _) w.heap.size (k*8+m) D' rfl a0 _ _ rfl a4 ?_;intro cc _ _)
       | (at_mapUpdate;refine wpList_mapUpdate_own _ rfl _ _ _ 70 rfl 9 3 Ks underlying70 _ w.heap.size (k*8+m) D' rfl a0 (by unfold maxLen;omega) _ _ _ rfl rfl a4 _ [] (plainElem_int underlying3 (WalkArith.wf_i64 (by omega))) ?_;intro w1 hown1 hgrow1))
      have HD1:Hid (Z6 (D'.put (kl s) (.lit (.int .i64 (k:Int)))) bs k (m+1)):=Hy.out ht;have a5:=Md hB hgrow1 (A3 _);clear Hy Ht hgrow1 a0 hB c0;go_wp2_with fail;go_roundw
      case rel=>exact⟨m+1,_,by omega,by go_num,hown1,HD1.out,a5⟩
      case measure=>simp[intOf];omega
     ·go_wp2_with (first
       | (at_lookup;refine wpList_lookup_own_ok_int _ rfl _ _ 70 rfl 9 3 .i64 Ks underlying70 underlying3 (Ld _) w.heap.size (k*8+m) D' rfl a0 _ _ rfl a4 ?_;intro cc _ _))
      go_returns
      exact⟨.inr ⟨Ht.out ht,rfl⟩,hB⟩
    ·go_wp2_with fail;go_roundw
     case rel=>exact⟨k+1,D',by omega,by go_num,a0.mono (by omega),HN.out D' m hq HD.out,hB⟩
     case measure=>simp[intOf];omega
  ·have Hk:Hid (k=bs.length):=by show _=_;omega
   go_wp2_with fail;go_returns
   exact⟨.inl ⟨HD.out.apart hp,_,_,D,rfl,a0,by rw[← Hk.out];exact HD.out,A3 _⟩,hB⟩
end Go.Proofs.YtcgkgmmclfeohaaGreatDoor
namespace Go.Proofs.YtcgkgmmclfeohaaGreatDoor
open Go.Proofs.Tryz
open Go.RowKit
theorem Om{P:Program}{fn:Func}{q:Tmp}{T:TypeId}(h:fn.results=#[.cell q T]){d:TypeDesc}(hu:P.underlying T=some d)(hd:d.isRow=true)(hi:(P.info? T).map (·.size)=some 3){R:Ending->World->Prop}{tmps:Array Value}{w:World}{rk:Nat}{y0 y1 y2 x0 x1 x2:Value}
  (k:CB w rk [y0,y1,y2]) (ht:tmps.getD q undef=Pz rk 0) (hR:R (.returned (.agg #[x0,x1,x2])) (((w.setCell ⟨rk,0,none⟩ x0).setCell ⟨rk,1,none⟩ x1).setCell ⟨rk,2,none⟩ x2)) :
  bodyPost P fn R .ret {tmps:=tmps,defers:=[]} (((w.setCell ⟨rk,0,none⟩ x0).setCell ⟨rk,1,none⟩ x1).setCell ⟨rk,2,none⟩ x2) :=
 bodyPost_ret (XH (cs:=[x0,x1,x2]) h hu hd hi ht (k.copy3 x0 x1 x2)) rfl hR
theorem CF{P:Program}{fn:Func}{q:Tmp}{T:TypeId}(h:fn.results=#[.cell q T]){d:TypeDesc}(hu:P.underlying T=some d)(hd:d.isRow=true)(hi:(P.info? T).map (·.size)=some 2){R:Ending->World->Prop}{tmps:Array Value}{w:World}{rk:Nat}{y0 y1 x0 x1:Value}
  (k:CB w rk [y0,y1]) (ht:tmps.getD q undef=Pz rk 0) (hR:R (.returned (.agg #[x0,x1])) ((w.setCell ⟨rk,0,none⟩ x0).setCell ⟨rk,1,none⟩ x1)) :
  bodyPost P fn R .ret {tmps:=tmps,defers:=[]} ((w.setCell ⟨rk,0,none⟩ x0).setCell ⟨rk,1,none⟩ x1) :=
 bodyPost_ret (XH (cs:=[x0,x1]) h hu hd hi ht (k.copy2 x0 x1)) rfl hR
theorem CR:(prog.info? 57).map (λi=>(i.zero,i.size,i.bytes))=some (some (.agg #[Ez,Nz,Nz]),3,64):=by kernel_rfl
abbrev Bv:=Ba×Value×Value
def P6(p:Bv):List Value:=[.string p.1.nm,p.2.1,p.2.2]
def E4:List Bv->List Value
 | []=>[]
 | p::r=>P6 p++E4 r
theorem R7:∀ps:List Bv,(E4 ps).length=ps.length*3
 | []=>rfl
 | p::r=>by rw[E4,A9,R7 r,List.length_cons];simp[P6];omega
theorem Gw(p:Bv):∀ps:List Bv,E4 (ps++[p])=E4 ps++P6 p
 | []=>by simp[E4]
 | q::r=>by rw[List.cons_append,E4,E4,Gw p r,List.append_assoc]
def BM(w:World)(base:Nat)(v:Value)(ps:List Bv):Prop:=w.ownsRow base 57 3 v ps.length (E4 ps)/\∀p∈ps,G3 w base p.2.1 p.1.has/\G3 w base p.2.2 p.1.nd/\p.1.nm.size<=maxLen
theorem BM.up{w w':World}{base:Nat}{v:Value}{ps:List Bv}(h:BM w base v ps)(hb:Up w w'):BM w' base v ps :=
 ⟨P0 h.1 hb,λp hp=>⟨(h.2 p hp).1.up hb,(h.2 p hp).2.1.up hb,(h.2 p hp).2.2⟩⟩
theorem X5{w:World}{base base' e e' s s' n n':Nat}{v v':Value}{xs xs':List Value}(h:w.ownsRow base e s v n xs)(h':w.ownsRow base' e' s' v' n' xs')(hne:e≠e'):∀g,v.ownBlock=some g->some g≠v'.ownBlock:=λg hg hg'=>by
 rcases h.2 with⟨rfl,_⟩|⟨g1,cap,cur,rfl,_,hh,_⟩
 ·simp[Value.ownBlock] at hg
 ·rcases h'.2 with⟨rfl,_⟩|⟨g2,cap',cur',rfl,_,hh',_⟩
  ·simp[Value.ownBlock] at hg'
  ·simp[Value.ownBlock] at hg hg';subst hg hg';rw[hh] at hh';simp at hh';exact hne hh'.2
theorem P4{w w':World}{base e s n:Nat}{v:Value}{xs:List Value}{r:Option Nat}(h:w.ownsRow base e s v n xs)(hg:w.grownBy w' r)(hne:∀g,v.ownBlock=some g->some g≠r):w'.ownsRow base e s v n xs:=by
 refine⟨h.1,?_⟩;rcases h.2 with h0|⟨g,cap,cur,hv,hb,hh,q⟩
 ·exact .inl h0
 ·refine .inr ⟨g,cap,cur,hv,hb,?_,q⟩;rw[hg.block g (D2.1 hh).1 (hne g (by rw[hv];rfl))];exact hh
theorem AcA{wr Wl w':World}{base:Nat}{xv v' hu nu:Value}{ps:List Bv}{x:Ba}{o':Obj}(hW:BM wr base xv ps)(hb:Up wr Wl)(hoh:G3 Wl base hu x.has)(hon:G3 Wl base nu x.nd)(hz:x.nm.size<=maxLen)
  (hgr:(Wl.alloc o').grownBy w' xv.ownBlock) (hown:w'.ownsRow base 57 3 v' (ps.length+1) (E4 ps++[Tz x.nm,hu,nu])):BM w' base v' (ps++[(x,hu,nu)]):=by
 have ha:Up Wl (Wl.alloc o'):=(A4 _ _).alloc (A3 _) _;have a0:=P0 (P0 hW.1 hb) ha;refine⟨by rw[A9,Gw];exact hown,λp hp=>?_⟩;rcases C9.1 hp with h|h
 ·obtain⟨q1,q2,q3⟩:=hW.2 p h;have r1:=(q1.up hb).up ha;have r2:=(q2.up hb).up ha;exact⟨P4 r1 hgr (X5 r1 a0 (by decide)),P4 r2 hgr (X5 r2 a0 (by decide)),q3⟩
 ·obtain rfl:p=(x,hu,nu):=by simpa using h
  have r1:=hoh.up ha;have r2:=hon.up ha;exact⟨P4 r1 hgr (X5 r1 a0 (by decide)),P4 r2 hgr (X5 r2 a0 (by decide)),hz⟩
theorem Qv(w:World)(x y z:Value)(ty:TypeId){j:Nat}{v:Value}(h:[x,y,z][j]?=some v):(w.alloc (Kz [x,y,z] ty)).cell? ((⟨w.heap.size,0,none⟩:Addr).add j)=some v:=by
 have:=(O7 w [x,y,z] ty).1 j v h;rw[Addr.add_mid];exact this
end Go.Proofs.YtcgkgmmclfeohaaGreatDoor
namespace Go.Proofs.YtcgkgmmclfeohaaGreatDoor
open Go.Proofs.Tryz
def Ah(b:Bk):Prop:=(∀s∈b.tg,s.size<=maxLen)/\∀x∈b.bs,(∀s∈x.has,s.size<=maxLen)/\(∀s∈x.nd,s.size<=maxLen)
def Z7:Bk:=⟨[],[]⟩
theorem DA:Ah Z7:=⟨λs hs=>by simp[Z7] at hs,λx hx=>by simp[Z7] at hx⟩
def F3(b:Bk)(nm:BA):Nat:=(BK (I3 b.bs) nm).toNat
theorem BI{b:Bk}{nm:BA}(h:D7 (I3 b.bs) nm=true):BK (I3 b.bs) nm=(F3 b nm:Int)/\F3 b nm<b.bs.length:=by
 have h0:=Mf (I3 b.bs) nm;rw[h,decide_eq_true_eq] at h0;refine⟨by unfold F3;omega,?_⟩;rw[F3,BK,if_pos h]
 have:(I3 b.bs).findIdx (λx=>x.toList==nm.toList)<(I3 b.bs).length:=List.findIdx_lt_length.2 (by
  rw[D7,List.any_eq_true] at h;exact h)
 rw[N7] at this;simpa using this
noncomputable def Bc(b:Bk)(nm:BA):Int:=if J6 b=false then 1 else if D7 (I3 b.bs) nm=false then 3 else 0
noncomputable def S5(b:Bk)(nm:BA):Bk:=if J6 b=false then Z7 else if D7 (I3 b.bs) nm=false then b else ⟨b.tg,b.bs.take (F3 b nm)++b.bs.drop (F3 b nm+1)⟩
theorem GT{b:Bk}{nm:BA}(h:J6 b=false):Bc b nm=1/\S5 b nm=Z7:=by simp[Bc,S5,h]
theorem DV{b:Bk}{nm:BA}(h:J6 b=true)(hm:D7 (I3 b.bs) nm=false):Bc b nm=3/\S5 b nm=b:=by simp[Bc,S5,h,hm]
theorem DB{b:Bk}{nm:BA}(h:J6 b=true)(hm:D7 (I3 b.bs) nm=true):Bc b nm=0/\S5 b nm=⟨b.tg,b.bs.take (F3 b nm)++b.bs.drop (F3 b nm+1)⟩:=by simp[Bc,S5,h,hm]
def U3(b:Bk)(nm:BA):Nat:=(b.bs.takeWhile λx=>Z9 x.nm nm).length
noncomputable def R8(b:Bk)(nm:BA)(nd:List BA):Int :=
 if J6 b=false then 1 else if (U0 nm&&pB (J3 nd b.tg))=false then 2 else if D7 (I3 b.bs) nm=true then 3 else if 5<=b.bs.length then 4 else 0
noncomputable def N9(b:Bk)(nm:BA)(nd:List BA):Bk :=
 if J6 b=false then Z7 else if R8 b nm nd=0 then ⟨b.tg,b.bs.take (U3 b nm)++⟨nm,[],nd⟩::b.bs.drop (U3 b nm)⟩ else b
def VP(b:Bk)(nm:BA)(k:Nat):Prop:=∀(j:Nat)(x:Ba),j<k->b.bs[j]?=some x->Z9 x.nm nm=true
theorem Rz{α:Type}(p:α->Bool):∀(l:List α)(k:Nat),k<=l.length->(∀j x,j<k->l[j]?=some x->p x=true)->(∀x,l[k]?=some x->p x=false)->(l.takeWhile p).length=k
 | [],k,hk,_,_=>by simp at hk;subst hk;rfl
 | x::r,0,_,_,h2=>by
  rw[List.takeWhile_cons,h2 x (by simp)];rfl
 | x::r,k+1,hk,h1,h2=>by
  rw[List.takeWhile_cons,h1 0 x (by omega) (by simp)];simp only[if_true,List.length_cons];rw[Rz p r k (by simpa using hk) (λj y hj hy=>h1 (j+1) y (by omega) (by simpa using hy)) (λy hy=>h2 y (by simpa using hy))]
theorem Ya{b:Bk}{nm:BA}{k:Nat}(hk:k<=b.bs.length)(hl:VP b nm k)(hn:∀x,b.bs[k]?=some x->Z9 x.nm nm=false):U3 b nm=k:=Rz _ _ _ hk hl hn
theorem RA{b:Bk}{nm:BA}{nd:List BA}(h:J6 b=false):R8 b nm nd=1/\N9 b nm nd=Z7:=by simp[R8,N9,h]
theorem Ij{b:Bk}{nm:BA}{nd:List BA}(h:J6 b=true)(h2:(U0 nm&&pB (J3 nd b.tg))=false):R8 b nm nd=2/\N9 b nm nd=b:=by simp[R8,N9,h,h2]
theorem IG{b:Bk}{nm:BA}{nd:List BA}(h:J6 b=true)(h2:(U0 nm&&pB (J3 nd b.tg))=true)(h3:D7 (I3 b.bs) nm=true):R8 b nm nd=3/\N9 b nm nd=b:=by simp[R8,N9,h,h2,h3]
theorem Jo{b:Bk}{nm:BA}{nd:List BA}(h:J6 b=true)(h2:(U0 nm&&pB (J3 nd b.tg))=true)(h3:D7 (I3 b.bs) nm=false)(h4:5<=b.bs.length):R8 b nm nd=4/\N9 b nm nd=b:=by simp[R8,N9,h,h2,h3,h4]
theorem Kt{b:Bk}{nm:BA}{nd:List BA}(h:J6 b=true)(h2:(U0 nm&&pB (J3 nd b.tg))=true)(h3:D7 (I3 b.bs) nm=false)(h4:¬5<=b.bs.length):
  R8 b nm nd=0/\N9 b nm nd=⟨b.tg,b.bs.take (U3 b nm)++⟨nm,[],nd⟩::b.bs.drop (U3 b nm)⟩:=by
 have hc:R8 b nm nd=0:=by simp[R8,h,h2,h3,h4]
 exact⟨hc,by rw[N9,h,if_neg (by simp),if_pos hc]⟩
theorem Ai{b:Bk}(h:I8 b):b.tg.length<=8/\b.bs.length<=5/\∀x∈b.bs,x.has.length<=8/\x.nd.length<=8:=by
 refine⟨h.1.1,h.2.1,λx hx=>?_⟩;obtain⟨i,hi,rfl⟩:=B7 hx;have ho:=h.2.2.2.2.1.at (k:=i) hi hi;have h1:=Ac ho.1;have h2:=Ac ho.2;have h0:=h.1.1;omega
theorem Ad{b:Bk}(h:J6 b=true):I8 b:=U9.1 h
end Go.Proofs.YtcgkgmmclfeohaaGreatDoor
namespace Go.Proofs.YtcgkgmmclfeohaaGreatDoor
open Go.Proofs.Tryz
open Go
section
variable {P:Program} {ops:Array Oper} {Q:Exit->Act->World->Prop} {md:Region.Mode} {S:World->Prop} {L:Nat}
def DC(P:Program)(md:Region.Mode)(ops:Array Oper)(Q:Exit->Act->World->Prop)(S:World->Prop)(L:Nat):Nat->Array Bool->Act->World->Prop
 | 0,listed,a,w=>Region.ready md ops listed=[]/\Q .normal a w
 | fuel+1,listed,a,w=>(Region.ready md ops listed=[]->Q .normal a w)/\
  ∀i∈Region.ready md ops listed,wpOp P ops Q i (λa' w'=>(i≠L->S w')/\DC P md ops Q S L fuel (listed.setIfInBounds i true) a' w') a w
theorem RB:∀(fuel:Nat)(listed:Array Bool)(a:Act)(w:World),DC P md ops Q S L fuel listed a w->wpAny P md ops Q fuel listed a w
 | 0,_,_,_,h=>h
 | fuel+1,_,_,_,h=>⟨h.1,λi hi=>wpOp_mono (λa' w' h'=>RB fuel _ a' w' h'.2) (h.2 i hi)⟩
def Ku(md:Region.Mode)(ops:Array Oper)(L i:Nat):Bool:=((ops[L]?).map λo=>o.after.any λe=>Region.binds md e&&e.on==i).getD (decide (ops.size<=L))
theorem Aan{listed:Array Bool}{i j:Nat}(hw:Ku md ops L i=true)(hi:i∈Region.ready md ops listed)(hj:j∈Region.ready md ops listed):j≠L:=by
 rintro rfl;obtain⟨_,oj,a1,a0⟩:=mem_ready.1 hj;simp only[Ku,a1,Option.map_some,Option.getD_some,Array.any_eq_true',Bool.and_eq_true,beq_iff_eq] at hw;obtain⟨e,he,hb,a2⟩:=hw;have h1:=a0 e he hb;have h0:=(mem_ready.1 hi).1;rw[a2] at h1;rcases Nat.lt_or_ge i listed.size with h'|h'
 ·simp[h'] at h0 h1;rw[h0] at h1;cases h1
 ·simp[Array.getElem?_eq_none h'] at h1
theorem VQ{i:Nat}{oi:Oper}{v:Value}(hi:ops[i]?=some oi)(hsel:∀(j:Nat)(o:Oper) cs b,ops[j]?=some o->o.op≠.select cs b)
  (hQ:∀c a w,Q (.panic c) (a.put oi.dst v) w->Q (.panic c) a w) (hw:Ku md ops L i=true) :
  ∀(fuel:Nat)(listed:Array Bool)(a:Act)(w:World),
   (∀j oj,ops[j]?=some oj->j≠i->listed.getD j true=false->(∀e∈oj.after,Region.binds md e=true->e.on≠i)->oi.apart ops oj=true)->
   i∈Region.ready md ops listed->YieldsIf P ops S oi v a->S w->DC P md ops Q S L fuel (listed.setIfInBounds i true) (a.put oi.dst v) w->DC P md ops Q S L (fuel+1) listed a w:=by
 intro fuel;induction fuel with
 | zero =>
  intro listed a w _ hr hy hS H;refine⟨λh=>(by rw[h] at hr;cases hr),λj hj=>?_⟩;by_cases hji:j=i
  ·subst hji;exact hy.wpOp hi hS ⟨λ_=>hS,H⟩
  ·have hm:=ready_mono hj hji;rw[H.1] at hm;cases hm
 | succ fuel ih =>
  intro listed a w hfree hr hy hS H;refine⟨λh=>(by rw[h] at hr;cases hr),λj hj=>?_⟩;by_cases hji:j=i
  ·subst hji;exact hy.wpOp hi hS ⟨λ_=>hS,H⟩
  ·have a4:j≠L:=Aan hw hr hj;obtain⟨a0,oj,a1,a2⟩:=mem_ready.1 hj
   have a3:∀e∈oj.after,Region.binds md e=true->e.on≠i:=λe he hb heq=>by
    have h1:=a2 e he hb;have h0:=(mem_ready.1 hr).1;rw[heq] at h1;rcases Nat.lt_or_ge i listed.size with h'|h'
    ·simp[h'] at h0 h1;rw[h0] at h1;cases h1
    ·simp[Array.getElem?_eq_none h'] at h1
   have h2:=wpOp_putIf a1 (hfree j oj a1 hji a0 a3) (λcs b=>hsel i oi cs b hi) (λcs b=>hsel j oj cs b a1) hQ hy (H.2 j (ready_mono hj hji));refine wpOp_mono (λa' w' h3=>⟨λ_=>h3.2.1 a4,ih (listed.setIfInBounds j true) a' w' (λk ok hk hki hun hno=>?_) (ready_mono hr (Ne.symm hji)) h3.1 (h3.2.1 a4) ?_⟩) h2
   ·refine hfree k ok hk hki ?_ hno;by_cases hjk:j=k
    ·subst hjk;exact a0
    ·rw[getD_set_ne true hjk] at hun;exact hun
   ·rw[Array.setIfInBounds_comm _ _ hji];exact h3.2.2
theorem V7{i:Nat}{oi:Oper}{v:Value}{fuel:Nat}{listed:Array Bool}{a:Act}{w:World}(hi:ops[i]?=some oi)
  (hs:Region.noSelect ops=true) (hf:Region.free md ops listed i=true) (hr:(Region.ready md ops listed).contains i=true) (hw:Ku md ops L i=true)
  (hQ:∀c a w,Q (.panic c) (a.put oi.dst v) w->Q (.panic c) a w) (hg:Region.wanted oi (yielded ops a.tmps)=true) (hS:S w) (hy:∀w,S w->(execOp a.eval oi).run P w=.ok (.value v) w)
  (h:DC P md ops Q S L fuel (listed.setIfInBounds i true) (a.put oi.dst v) w):DC P md ops Q S L (fuel+1) listed a w :=
 VQ hi (Region.noSelect_spec hs) hQ hw fuel listed a w (Region.free_spec hi hf) (by simpa using hr) (.inl ⟨hg,hy⟩) hS h
theorem I2(i:Nat){oi:Oper}{v:Value}{fuel:Nat}{listed:Array Bool}{a:Act}{w:World}(hi:ops[i]?=some oi)(hS:S w)
  (h:DC P md ops Q S L fuel (listed.setIfInBounds i true) (a.put oi.dst v) w)
  (hy:∀w,S w->(execOp a.eval oi).run P w=.ok (.value v) w:=by (intro w hSw;(try dsimp only at hSw);go_simp;try with_reducible rfl))
  (hs:Region.noSelect ops=true:=by kernel_rfl) (hf:Region.free md ops listed i=true:=by kernel_rfl) (hr:(Region.ready md ops listed).contains i=true:=by kernel_rfl) (hw:Ku md ops L i=true:=by kernel_rfl)
  (hQ:∀c a w,Q (.panic c) (a.put oi.dst v) w->Q (.panic c) a w:=by exact λ_ _ _ h=>h) (hg:Region.wanted oi (yielded ops a.tmps)=true:=by first|kernel_rfl|rfl):DC P md ops Q S L (fuel+1) listed a w :=
 V7 hi hs hf hr hw hQ hg hS hy h
theorem Aao{i:Nat}{o:Oper}{fuel:Nat}{listed:Array Bool}{a:Act}{w:World}(hr:Region.ready md ops listed=[i])(ho:ops[i]?=some o)
  (h:∀K':Act->World->Prop,Shut (∀a w,(i≠L->S w)->DC P md ops Q S L fuel (listed.setIfInBounds i true) a w->K' a w)->if Region.wanted o (yielded ops a.tmps)=true then Oper.wp P o a w K' Q else K' (a.put o.dst undef) w) :
  DC P md ops Q S L (fuel+1) listed a w:=by
 refine⟨λh0=>(by rw[hr] at h0;cases h0),λj hj=>?_⟩;rw[hr] at hj;obtain rfl:j=i:=by simpa using hj
 exact wpOp_step ho λK' hK=>h K' λa w hS hA=>hK a w ⟨hS,hA⟩
theorem T0(i:Nat){o:Oper}{fuel:Nat}{listed:Array Bool}{a:Act}{w:World}(ho:ops[i]?=some o)
  (h:∀K':Act->World->Prop,Shut (∀a w,(i≠L->S w)->DC P md ops Q S L fuel (listed.setIfInBounds i true) a w->K' a w)->if Region.wanted o (yielded ops a.tmps)=true then Oper.wp P o a w K' Q else K' (a.put o.dst undef) w)
  (hr:Region.ready md ops listed=[i]:=by kernel_rfl):DC P md ops Q S L (fuel+1) listed a w:=Aao hr ho h
theorem Y1{i:Nat}{R K:Act->World->Prop}{a:Act}{w:World}(h:Shut (∀a w,(i≠L->S w)->R a w->K a w))(hs:S w)(hr:R a w):K a w:=h a w (λ_=>hs) hr
theorem GU{i:Nat}{R K:Act->World->Prop}{a:Act}{w:World}(h:Shut (∀a w,(i≠i->S w)->R a w->K a w))(hr:R a w):K a w:=h a w (λe=>absurd rfl e) hr
theorem Aap{i j:Nat}{o o':Oper}{fuel:Nat}{listed:Array Bool}{a:Act}{w:World}(hr:Region.ready md ops listed=[i,j])(ho:ops[i]?=some o)(ho':ops[j]?=some o')
  (h:∀K':Act->World->Prop,Shut (∀a w,(i≠L->S w)->DC P md ops Q S L fuel (listed.setIfInBounds i true) a w->K' a w)->if Region.wanted o (yielded ops a.tmps)=true then Oper.wp P o a w K' Q else K' (a.put o.dst undef) w)
  (h':∀K':Act->World->Prop,Shut (∀a w,(j≠L->S w)->DC P md ops Q S L fuel (listed.setIfInBounds j true) a w->K' a w)->if Region.wanted o' (yielded ops a.tmps)=true then Oper.wp P o' a w K' Q else K' (a.put o'.dst undef) w) :
  DC P md ops Q S L (fuel+1) listed a w:=by
 refine⟨λh0=>(by rw[hr] at h0;cases h0),λk hk=>?_⟩;rw[hr] at hk;rcases (by simpa using hk:k=i∨k=j) with rfl|rfl
 ·exact wpOp_step ho λK' hK=>h K' λa w hS hA=>hK a w ⟨hS,hA⟩
 ·exact wpOp_step ho' λK' hK=>h' K' λa w hS hA=>hK a w ⟨hS,hA⟩
theorem Y2{listed:Array Bool}{a:Act}{w:World}(hr:Region.ready md ops listed=[])(h:Q .normal a w):∀fuel,DC P md ops Q S L fuel listed a w
 | 0=>⟨hr,h⟩
 | _+1=>⟨λ_=>h,by rw[hr];simp⟩
theorem T9{id:Nat}{a:Act}{w:World}(L:Nat)(S:World->Prop)(hm:P.follows .mixedOrders=true)(h:DC P .any ops Q S L ops.size (Array.replicate ops.size false) a w.drew):(Code.region id ops true).wp P Q a w :=
 wp_region_any hm (RB _ _ _ _ h)
end
end Go.Proofs.YtcgkgmmclfeohaaGreatDoor
