/- The program's walk of a name (chapter 11). -/
import Derived.Test.YtmfjakieahkacaaGreatDoorJ2
import Derived.Maps.OwnSet
import Derived.Maps.OwnOps
import Derived.Laws.OwnMore
import Derived.OrdersHeld
import Derived.Deep.RegionHeld
set_option maxRecDepth 100000
set_option maxHeartbeats 2000000
namespace Go.Proofs.YtmfjakieahkacaaGreatDoor
open Go.RowKit
theorem KS(s:ByteArray)(w:World)(hs:s.size<=maxLen):
  Calls Tryz.prog 45 #[.string s] w λe w'=>e=.returned (.bool (U9 s))/\Below w.heap.size w w':=by
 unfold maxLen at hs;by_cases h1:1<=s.size
 case neg =>
  go_enter Tryz.func45,Tryz.ntmps45;go_wp2;go_ret;exact⟨F6 (by simp[U9,h1]),A4 _ _⟩
 by_cases h2:s.size<=8
 case neg =>
  go_enter Tryz.func45,Tryz.ntmps45;go_wp2;go_ret;exact⟨F6 (by simp[U9,h2]),A4 _ _⟩
 have hn:Hid (U9 s=CI s.data.toList):=by show U9 s=_;simp[U9,h1,h2]
 go_enter Tryz.func45,Tryz.ntmps45;go_wp2_with fail;go_loopw [4] (λ_ w'=>∃pos:Nat,w'=w.iter s pos/\pos<=s.size/\CI (s.data.toList.take pos)=true) (λ_ w'=>s.size-w'.iterPos w.heap.size)
 case atStart=>exact⟨0,rfl,by omega,rfl⟩
 case round =>
  obtain⟨pos,rfl,hle,hal⟩:=hrel;have Hal:Hid (CI (s.data.toList.take pos)=true):=hal;clear hal;by_cases hp:pos<s.size
  ·have hnx:∀ty,(Instr.next (.pointer (some ⟨w.heap.size,0,none⟩)) true ty).run Tryz.prog (w.iter s pos)=_:=λty=>run_next_any w s pos ty hp;by_cases ha:(s[pos]'hp).toNat<128
   ·rw[decode_ascii s pos hp ha] at hnx;by_cases hb:EU (s[pos]'hp).toNat=true
    ·have Hb:Hid (EU (s[pos]'hp).toNat=true):=hb;go_wp2_with (go_at_call 67;refine (Kj _ _).mono ?_;rintro e w' ⟨rfl,rfl⟩)
     go_roundw
     case rel=>exact⟨pos+1,rfl,by omega,by rw[MK s pos hp,Hal.out,Hb.out];rfl⟩
     case measure=>simp;omega
    ·have hb':EU (s[pos]'hp).toNat=false:=by simpa using hb
     have Hb:Hid (EU (s[pos]'hp).toNat=false):=hb';clear hb;go_wp2_with (go_at_call 67;refine (Kj _ _).mono ?_;rintro e w' ⟨rfl,rfl⟩)
     go_ret;exact⟨F6 (by rw[hn.out,LM s pos hp Hb.out]),LO _ _ _⟩
   ·have hi:=decode_high s pos hp (by omega);have hb':EU (Utf8.decode s pos).1=false:=Ol _ hi.1;have Hb:Hid (EU (s[pos]'hp).toNat=false):=Ol _ (by omega);clear hi;go_wp2_with (go_at_call 67;refine (Kj _ _).mono ?_;rintro e w' ⟨rfl,rfl⟩)
    go_ret;exact⟨F6 (by rw[hn.out,LM s pos hp Hb.out]),LO _ _ _⟩
  ·have hnx:∀ty,(Instr.next (.pointer (some ⟨w.heap.size,0,none⟩)) true ty).run Tryz.prog (w.iter s pos)=_:=λty=>run_next_end w s pos ty hp;go_wp2;go_ret;exact⟨F6 (by rw[hn.out,Om s pos hp Hal.out]),LO _ _ _⟩
theorem KT(ss:List ByteArray)(v:Value)(s:ByteArray)(w:World)(h:Ls w v ss):
  Calls Tryz.prog 51 #[v,.string s] w λe w'=>e=.returned (.int .i64 (Z7 ss s))/\w'=w:=by
 obtain⟨a,c,rfl,hn,-,hpos⟩:=h;unfold maxLen at hn;go_enter Tryz.func51,Tryz.ntmps51;go_wp2;go_loop [8] (λi=>∃k:Nat,k<=ss.length/\i=.int .i64 k/\D2 (ss.take k) s=false) (λi=>ss.length-(intOf i).toNat)
 case atStart=>exact⟨0,by omega,rfl,rfl⟩
 case round =>
  obtain⟨k,hk,rfl,hal⟩:=hrel;have Hal:Hid (D2 (ss.take k) s=false):=hal;clear hal;by_cases hp:k<ss.length
  ·obtain⟨b,o,rfl,hS,hb⟩:=hpos (by omega);have c0:=hS.cell hp;cases hq:(s.toList==(ss[k]).toList)
   ·have Hq:Hid (((ss[k]).toList==s.toList)=false):=by show _=_;rw[GO];exact hq
    go_wp2;go_round
    case rel=>exact⟨k+1,by omega,by go_num,EH hp Hal.out Hq.out⟩
    case measure=>simp[intOf];omega
   ·have Hq:Hid (((ss[k]).toList==s.toList)=true):=by show _=_;rw[GO];exact hq
    go_wp2;go_ret;exact⟨Fl (EX hp Hal.out Hq.out).symm,rfl⟩
  ·go_wp2;go_ret;exact⟨Fl (BH (Fw hp Hal.out)).symm,rfl⟩
theorem Iu(ss:List ByteArray)(v:Value)(s:ByteArray)(w:World)(h:Ls w v ss):
  Calls Tryz.prog 68 #[v,.string s] w λe w'=>e=.returned (.bool (D2 ss s))/\w'=w:=by
 obtain⟨a,c,rfl,-⟩:=id h;go_enter Tryz.func68,Tryz.ntmps68;go_wp2_with (go_at_call 51;refine (KT ss _ _ _ h).mono ?_;rintro e w' ⟨rfl,hw⟩;obtain rfl:=hw.symm;clear hw)
 all_goals
  go_ret;refine⟨F6 ?_,rfl⟩;rw[← Ki];try simp_all
theorem Ru(ss:List ByteArray)(u:Value)(w:World)(h:Ls w u ss):
  Calls Tryz.prog 46 #[u] w λe w'=>e=.returned (.bool (pB (Bg ss)))/\Below w.heap.size w w':=by
 obtain⟨a,c,rfl,hn,-,hpos⟩:=h;unfold maxLen at hn;go_enter Tryz.func46,Tryz.ntmps46;go_wp2;go_loopw [3] (λi w'=>∃k:Nat,(k+1<=ss.length∨k=0)/\i=.int .i64 (k+1)/\Z4 ss (k+1)/\Below w.heap.size w w') (λi _=>ss.length-(intOf i).toNat)
 case atStart=>exact⟨0,.inr rfl,rfl,Z4.one _,A4 _ _⟩
 case round =>
  obtain⟨k,hk,rfl,hasc,hB⟩:=hrel;have Hasc:Hid (Z4 ss (k+1)):=hasc;clear hasc;by_cases hp:k+1<ss.length
  ·obtain⟨b,o,rfl,hS,hb⟩:=hpos (by omega);have c0:=(hS.up hB hb).cell hp;have c1:=(hS.up hB hb).cell (k:=k) (by omega);clear hk;cases hl:Z9 ss[k] ss[k+1]
   ·have Hl:Hid (¬Bg ss):=λh=>by rw[Ox h hp] at hl;cases hl
    unfold Z9 at hl;go_wp2_with fail;go_quiet (fail);go_wp2;go_ret;exact⟨F6 (V4 Hl.out).symm,M3 hB _⟩
   ·have Hl:Hid (Z4 ss (k+2)):=Hasc.out.step hp hl;unfold Z9 at hl;go_wp2_with fail;go_quiet (fail);go_wp2;go_roundw
    case rel=>exact⟨k+1,.inl (by omega),by go_num,Hl.out,M3 hB _⟩
    case measure=>simp[intOf];omega
  ·go_wp2;go_ret;exact⟨F6 (Z3 (Jq Hasc.out hp)).symm,hB⟩
theorem Gu(ss:List ByteArray)(u:Value)(w:World)(h:Ls w u ss):
  Calls Tryz.prog 26 #[u] w λe w'=>e=.returned (.bool (pB (DT ss/\Bg ss)))/\Below w.heap.size w w':=by
 have h0:=h;obtain⟨a,c,rfl,hn,hz,hpos⟩:=h;unfold maxLen at hn;go_enter Tryz.func26,Tryz.ntmps26;go_wp2;go_loopw [4,7] (λ_ i w'=>∃k:Nat,k<=ss.length/\i=.int .i64 k/\Aa ss k/\Below w.heap.size w w') (λ_ i _=>ss.length-(intOf i).toNat)
 case atStart=>exact⟨0,by omega,rfl,Aa.zero _,A4 _ _⟩
 case round =>
  obtain⟨k,hk,rfl,hal,hB⟩:=hrel;have Hal:Hid (Aa ss k):=hal;clear hal;by_cases hp:k<ss.length
  ·obtain⟨b,o,rfl,hS,hb⟩:=hpos (by omega);have c0:=(hS.up hB hb).cell hp;have z0:=hz ss[k] (by simp);cases hq:U9 ss[k]
   ·have Hq:Hid (¬(DT ss/\Bg ss)):=λh=>by rw[Oy h.1 hp] at hq;cases hq
    go_wp2_with (go_at_call 45;refine (KS _ _ z0).mono ?_;rintro e w1 ⟨rfl,hb1⟩;(first|replace hB:=D1 hB hb1|have hB:=hb1);clear hb1;(try clear hc hf);obtain⟨hc,hf⟩:=CN hB)
    go_ret;exact⟨F6 (V4 Hq.out).symm,hB⟩
   ·have Hq:Hid (Aa ss (k+1)):=Hal.out.step hp hq;go_wp2_with (go_at_call 45;refine (KS _ _ z0).mono ?_;rintro e w1 ⟨rfl,hb1⟩;(first|replace hB:=D1 hB hb1|have hB:=hb1);clear hb1;(try clear hc hf);obtain⟨hc,hf⟩:=CN hB)
    go_roundw
    case rel=>exact⟨k+1,by omega,by go_num,Hq.out,hB⟩
    case measure=>simp[intOf];omega
  ·have Hq:Hid (DT ss):=IB Hal.out hp
   have Hp:Hid (pB (DT ss/\Bg ss)=pB (Bg ss)):=by
    show _=_
    have:=Hq.out;unfold pB;simp[this]
   go_wp2_with (go_at_call 46;refine (Ru ss _ _ (h0.up hB)).mono ?_;rintro e w1 ⟨rfl,hb1⟩;(first|replace hB:=D1 hB hb1|have hB:=hb1);clear hb1;(try clear hc hf);obtain⟨hc,hf⟩:=CN hB)
   go_ret;exact⟨F6 Hp.out.symm,hB⟩
theorem EZ(ss all:List ByteArray)(u v:Value)(w:World)(h:Ls w u ss)(h2:Ls w v all):
  Calls Tryz.prog 47 #[u,v] w λe w'=>e=.returned (.bool (pB (J9 ss all)))/\Below w.heap.size w w':=by
 have h0:=h;obtain⟨a,c,rfl,hn,hz,hpos⟩:=h;obtain⟨a2,c2,rfl,-⟩:=id h2;unfold maxLen at hn;go_enter Tryz.func47,Tryz.ntmps47;go_wp2;go_loopw [6,9] (λ_ i w'=>∃k:Nat,k<=ss.length/\i=.int .i64 k/\Bo ss all k/\Below w.heap.size w w') (λ_ i _=>ss.length-(intOf i).toNat)
 case atStart=>exact⟨0,by omega,rfl,Bo.zero _ _,A4 _ _⟩
 case round =>
  obtain⟨k,hk,rfl,hal,hB⟩:=hrel;have Hal:Hid (Bo ss all k):=hal;clear hal;by_cases hp:k<ss.length
  ·obtain⟨b,o,rfl,hS,hb⟩:=hpos (by omega);have c0:=(hS.up hB hb).cell hp;cases hq:D2 all ss[k]
   ·have Hq:Hid (¬J9 ss all):=λh=>by rw[LQ h.1 hp] at hq;cases hq
    go_wp2_with (go_at_call 68;refine (Iu all _ _ _ (h2.up hB)).mono ?_;rintro e w' ⟨rfl,hw⟩;obtain rfl:=hw.symm;clear hw)
    go_ret;exact⟨F6 (V4 Hq.out).symm,hB⟩
   ·have Hq:Hid (Bo ss all (k+1)):=Hal.out.step hp hq;go_wp2_with (go_at_call 68;refine (Iu all _ _ _ (h2.up hB)).mono ?_;rintro e w' ⟨rfl,hw⟩;obtain rfl:=hw.symm;clear hw)
    go_roundw
    case rel=>exact⟨k+1,by omega,by go_num,Hq.out,hB⟩
    case measure=>simp[intOf];omega
  ·have Hq:Hid (LP ss all):=Ov Hal.out hp
   have Hp:Hid (pB (J9 ss all)=pB (Bg ss)):=by
    show _=_
    have:=Hq.out;unfold pB J9;simp[this]
   go_wp2_with (go_at_call 46;refine (Ru ss _ _ (h0.up hB)).mono ?_;rintro e w1 ⟨rfl,hb1⟩;(first|replace hB:=D1 hB hb1|have hB:=hb1);clear hb1;(try clear hc hf);obtain⟨hc,hf⟩:=CN hB)
   go_ret;exact⟨F6 Hp.out.symm,hB⟩
theorem QJ(x:Ba)(tg:List ByteArray)(hv nv tv:Value)(w:World)(h1:Ls w hv x.has)(h2:Ls w nv x.nd)(h3:Ls w tv tg):
  Calls Tryz.prog 28 #[.agg #[.string x.nm,hv,nv],tv] w λe w'=>e=.returned (.bool (pB (Fy tg x)))/\Below w.heap.size w w':=by
 obtain⟨a1,c1,rfl,-⟩:=id h1;obtain⟨a2,c2,rfl,-⟩:=id h2;obtain⟨a3,c3,rfl,-⟩:=id h3;have hC:CB (w.alloc (.cells #[.string x.nm,.slice a1 x.has.length c1,.slice a2 x.nd.length c2] 49)) w.heap.size [.string x.nm,.slice a1 x.has.length c1,.slice a2 x.nd.length c2]:=T6 w _ _;have hB0:=(A4 w.heap.size w).alloc (A3 _) (.cells #[.string x.nm,.slice a1 x.has.length c1,.slice a2 x.nd.length c2] 49);go_enter Tryz.func28,Tryz.ntmps28;go_upto_region 1 with fail;generalize w.alloc (.cells #[.string x.nm,.slice a1 x.has.length c1,.slice a2 x.nd.length c2] 49)=W1 at *;obtain⟨⟨d0,d1,d2⟩,-⟩:=hC.c3;have hlt:=hC.2.2;have l1:=h1.up hB0;have l2:=h2.up hB0;have l3:=h3.up hB0;have hB:Below W1.heap.size W1 W1:=A4 _ _;obtain⟨hc,hf⟩:=CN hB;cases hq:pB (J9 x.nd tg)
 ·have Hq:Hid (pB (Fy tg x)=false):=V4 λh=>Bd.1 hq h.1;go_wp2_with (go_at_call 47;refine (EZ x.nd tg _ _ _ (l2.up hB) (l3.up hB)).mono ?_;rintro e w1 ⟨rfl,hb1⟩;(first|replace hB:=D1 hB hb1|have hB:=hb1);clear hb1;(try clear hc hf);obtain⟨hc,hf⟩:=CN hB)
  go_ret;exact⟨F6 Hq.out.symm,D1 hB0 hB⟩
 ·have Hq:Hid (pB (Fy tg x)=pB (J9 x.has x.nd)):=by
   show _=_
   have:=O7.1 hq;unfold pB Fy;simp[this]
  go_wp2_with (first|(revert hq;intro hq;(go_at_call 47;refine (EZ x.nd tg _ _ _ (l2.up hB) (l3.up hB)).mono ?_;rintro e w1 ⟨rfl,hb1⟩;(first|replace hB:=D1 hB hb1|have hB:=hb1);clear hb1;(try clear hc hf);obtain⟨hc,hf⟩:=CN hB);clear l3)|(go_at_call 47;refine (EZ x.has x.nd _ _ _ (l1.up hB) (l2.up hB)).mono ?_;rintro e w1 ⟨rfl,hb1⟩;(first|replace hB:=D1 hB hb1|have hB:=hb1);clear hb1;(try clear hc hf);obtain⟨hc,hf⟩:=CN hB))
  go_ret;exact⟨F6 Hq.out.symm,D1 hB0 hB⟩
end Go.Proofs.YtmfjakieahkacaaGreatDoor
namespace Go.Proofs.YtmfjakieahkacaaGreatDoor
open Go.RowKit Go.Maps
theorem WY(bs:List Ba)(k:Nat)(hk:k<bs.length):I9 (bs.take (k+1))=I9 (bs.take k)++[(bs[k]).nm]:=by
 rw[Oz,Oz,A7 (by rw[O1];exact hk),BF bs k hk]
theorem GP.batch{w:World}{b o:Nat}{x:Ba}(h:GP w b o x):x.nm.size<=maxLen:=by
 obtain⟨_,_,_,_,_,h3⟩:=h;exact h3
theorem Ej(bs:List Ba)(v:Value)(w:World)(h:Bs w v bs)(hn:bs.length<=1048576):
  Calls Tryz.prog 27 #[v] w λe w'=>(∃u,e=.returned u/\E5 w' w.heap.size u (I9 bs)/\Ls w' u (I9 bs))/\Below w.heap.size w w':=by
 obtain⟨a,c,rfl,-,hpos⟩:=h;obtain⟨ii,hi,iz0,iz1,iz2⟩:=info_parts Z0;go_enter Tryz.func27,Tryz.ntmps27;go_wp2_with fail;go_loopw [3,5,8] (λu _ i w'=>∃k:Nat,k<=bs.length/\i=.int .i64 k/\w'.ownsRow w.heap.size 9 1 u k ((I9 (bs.take k)).map Value.string)/\Below w.heap.size w w') (λ_ _ i _=>bs.length-(intOf i).toNat)
 case atStart=>exact⟨0,by omega,rfl,⟨by simp[I9],.inl ⟨rfl,rfl⟩⟩,A4 _ _⟩
 case round =>
  obtain⟨k,hk,rfl,hown,hB⟩:=hrel;by_cases hp:k<bs.length
  ·obtain⟨b,o,rfl,hS,hb⟩:=hpos (by omega);obtain⟨a1,d1,a2,d2,c0,c1,c2,l1,l2,z0⟩:=((hS.at hp).up hB hb).cells
   have Hs:Hid ((I9 (bs.take (k+1))).map Value.string=(I9 (bs.take k)).map Value.string++[.string (bs[k]).nm]):=by
    show _=_
    rw[WY bs k hp,List.map_append];rfl
   generalize bs[k]=x0 at *;clear l1 l2 hS;have hB1:=hB.alloc hB.size (.cells #[.string (x0).nm,.slice a1 (x0).has.length d1,.slice a2 (x0).nd.length d2] 49);have hown1:=P8 hown ((A4 wr.heap.size wr).alloc (A3 _) (.cells #[.string (x0).nm,.slice a1 (x0).has.length d1,.slice a2 (x0).nd.length d2] 49));have hC:CB (wr.alloc (.cells #[.string (x0).nm,.slice a1 (x0).has.length d1,.slice a2 (x0).nd.length d2] 49)) wr.heap.size [.string x0.nm,.slice a1 x0.has.length d1,.slice a2 x0.nd.length d2]:=T6 wr _ _;have hz:=hB.size;go_upto_region 5 with fail;generalize wr.alloc (.cells #[.string (x0).nm,.slice a1 (x0).has.length d1,.slice a2 (x0).nd.length d2] 49)=W1 at *;obtain⟨⟨e0,-⟩,-⟩:=hC.c3;clear c0 c1 c2 hown hB;have hown2:=P8 hown1 ((A4 W1.heap.size W1).alloc (A3 _) (.cells #[.string x0.nm] 9));have hB2:=hB1.alloc hB1.size (.cells #[.string x0.nm] 9);go_wp2_with (at_builtin;refine wpList_append_own _ rfl _ _ 42 rfl w.heap.size 9 ii _ 1 16 Tryz.underlying42 hi iz0 iz1 iz2 rfl (by decide) _ _ _ rfl hown2 ⟨W1.heap.size,0,none⟩ 1 1 [.string x0.nm] rfl rfl (Z1 _ _ _) (CJ _) (by unfold maxLen;omega) (by omega) hB2.size ?_)
   intro v1 w1 hown3 hgrow3 _;rw[← Hs.out] at hown3;have hB3:=N5 hB2 hown2 hgrow3 (A3 _);clear hown1 hown2 hgrow3 hB1 hB2 hC e0;go_wp2_with fail;go_roundw
   case rel=>exact⟨k+1,by omega,by go_num,hown3,hB3⟩
   case measure=>simp[intOf];omega
  ·have hz:∀s∈I9 bs,s.size<=maxLen:=λs hs=>by
    obtain⟨x,hx,rfl⟩:=List.mem_map.1 hs;obtain⟨i,hi,rfl⟩:=B7 hx;obtain⟨b,o,rfl,hS,hb⟩:=hpos (by omega);exact (hS.at hi).batch
   have Ho:Hid (∀u,wr.ownsRow w.heap.size 9 1 u k ((I9 (bs.take k)).map Value.string)->E5 wr w.heap.size u (I9 bs)):=λu h=>by
    obtain rfl:k=bs.length:=by omega
    rw[List.take_length] at h;unfold E5;rw[O1];exact h
   have Hz:Hid (∀s∈I9 bs,s.size<=maxLen):=hz;clear hz;go_wp2_with fail;go_ret;exact⟨⟨_,rfl,Ho.out _ hown,(Ho.out _ hown).lst.ls Hz.out⟩,hB⟩
theorem IK:Keyed Tryz.prog 9:=string_keyed Tryz.underlying9
theorem Js(w:World):(zeroValue 3).run Tryz.prog w=.ok (.int .i64 0) w:=by kernel_rfl
abbrev SV (w:World) (M n:Nat) (D:DataW Unit):Prop:=w.ownsMap Tryz.prog 9 (plainElem Tryz.prog 3) M n D
theorem JX(bs:List Ba)(v:Value)(w:World)(h:Bs w v bs)(hn:bs.length<=5)(h8:∀x∈bs,Bg x.has/\x.has.length<=8):
  Calls Tryz.prog 25 #[v] w λe w' =>
   ((CO bs/\∃M n D,e=.returned (.tuple #[.map (some M),.bool true])/\SV w' M n D/\X7 D bs bs.length 0/\w.heap.size<=M)∨(¬CO bs/\e=.returned (.tuple #[.map none,.bool false])))/\Below w.heap.size w w':=by
 obtain⟨a,c,rfl,-,hpos⟩:=h;have hmm:=@run_makeMap Tryz.prog;go_enter Tryz.func25,Tryz.ntmps25;go_wp2_with fail;go_loopw [5,6,8,9,10,14] (λ_ _ _ _ _ i w'=>∃(k:Nat)(D:DataW Unit),k<=bs.length/\i=.int .i64 k/\SV w' w.heap.size (k*8) D/\X7 D bs k 0/\Below w.heap.size w w') (λ_ _ _ _ _ i _=>bs.length-(intOf i).toNat)
 case atStart=>exact⟨0,_,by omega,rfl,World.ownsMap_made _ _ _ _,X7.start bs,(A4 _ _).alloc (A3 _) _⟩
 case round =>
  obtain⟨k,D,hk,rfl,hmap,hD,hB⟩:=hrel;have HD:Hid (X7 D bs k 0):=hD;clear hD;by_cases hp:k<bs.length
  ·obtain⟨b,o,rfl,hS,hb⟩:=hpos (by omega);obtain⟨a1,d1,a2,d2,c0,c1,c2,l1,-,-⟩:=(hS.at hp).cells;obtain⟨h8a,h8b⟩:=h8 bs[k] (by simp)
   have HS:Hid (∀(D:DataW Unit)(m:Nat)(s:ByteArray),(bs[k]).has[m]?=some s->X7 D bs k m->Maps.has D (kl s)=false->X7 (D.put (kl s) (.lit (.int .i64 (k:Int)))) bs k (m+1)):=λD m s hs h hn=>by
    obtain⟨hm,rfl⟩:=A2.1 hs;exact h.step hp hm hn
   have HT:Hid (∀(D:DataW Unit)(m:Nat)(s:ByteArray),(bs[k]).has[m]?=some s->X7 D bs k m->Maps.has D (kl s)=true->¬CO bs):=λD m s hs h hn=>by
    obtain⟨hm,rfl⟩:=A2.1 hs;exact h.twice hp hm h8a hn
   have HN:Hid (∀(D:DataW Unit)(m:Nat),¬m<(bs[k]).has.length->X7 D bs k m->X7 D bs (k+1) 0):=λD m hm h=>h.next hp hm;obtain⟨-,hz,hp1⟩:=l1.inv;clear h8a l1;generalize bs[k]=x0 at *;obtain⟨hc,hf⟩:=CN hB;have hB1:=hB.alloc hB.size (.cells #[.string (x0).nm,.slice a1 (x0).has.length d1,.slice a2 (x0).nd.length d2] 49);have hmap1:=hmap.alloc (.cells #[.string (x0).nm,.slice a1 (x0).has.length d1,.slice a2 (x0).nd.length d2] 49);have hC:CB (wr.alloc (.cells #[.string (x0).nm,.slice a1 (x0).has.length d1,.slice a2 (x0).nd.length d2] 49)) wr.heap.size [.string x0.nm,.slice a1 x0.has.length d1,.slice a2 x0.nd.length d2]:=T6 wr _ _;have hz1:=hB.size;go_upto_region 5 with fail;generalize wr.alloc (.cells #[.string (x0).nm,.slice a1 (x0).has.length d1,.slice a2 (x0).nd.length d2] 49)=W1 at *;obtain⟨⟨e0,e1,e2⟩,-⟩:=hC.c3;clear c0 c1 c2 hc hf hmap hB hS;go_wp2_with fail;clear e0 e1 e2 hC;go_loopw [8,9,10,22] (λ_ _ _ j w'=>∃(m:Nat)(D':DataW Unit),m<=x0.has.length/\j=.int .i64 m/\SV w' w.heap.size (k*8+m) D'/\X7 D' bs k m/\Below w.heap.size w w') (λ_ _ _ j _=>x0.has.length-(intOf j).toNat)
   case atStart=>exact⟨0,D,by omega,rfl,hmap1,HD.out,hB1⟩
   case round =>
    clear hB1 hmap1 HD;obtain⟨m,D',hm,rfl,hmap,hD,hB⟩:=hrel;have HD:Hid (X7 D' bs k m):=hD;clear hD;by_cases hq:m<x0.has.length
    ·obtain⟨b1,o1,rfl,hS1,hb1⟩:=hp1 (by omega);have c0:=(hB.cell (p:=⟨b1,o1+m,none⟩) hb1).trans (hS1.cell hq);have z0:=hz x0.has[m] (by simp);have hx:=A0 hq;generalize x0.has[m]=s at *;have Hy:Hid (Maps.has D' (kl s)=false->X7 (D'.put (kl s) (.lit (.int .i64 (k:Int)))) bs k (m+1)):=HS.out D' m s hx HD.out;have Ht:Hid (Maps.has D' (kl s)=true->¬CO bs):=HT.out D' m s hx HD.out;have hkey:keyOf Tryz.prog 9 (.string s)=some (kl s):=WideMaps.keyOf_string_mk Tryz.underlying9 z0;clear HS HT HN hx HD;cases ht:Maps.has D' (kl s)
     ·go_wp2_with (first
       | (at_lookup;refine wpList_lookup_own_ok_int _ rfl _ _ 52 rfl 9 3 .i64 IK Tryz.underlying52 Tryz.underlying3 (Js _) w.heap.size (k*8+m) D' rfl hmap _ _ rfl hkey ?_;intro cc _ _)
       | (at_mapUpdate;refine wpList_mapUpdate_own _ rfl _ _ _ 52 rfl 9 3 IK Tryz.underlying52 _ w.heap.size (k*8+m) D' rfl hmap (by unfold maxLen;omega) _ _ _ rfl rfl hkey _ [] (plainElem_int Tryz.underlying3 (WalkArith.wf_i64 (by omega))) ?_;intro w1 hown1 hgrow1))
      have HD1:Hid (X7 (D'.put (kl s) (.lit (.int .i64 (k:Int)))) bs k (m+1)):=Hy.out ht;have hB1:=Kh hB hgrow1 (A3 _);clear Hy Ht hgrow1 hmap hB c0;go_wp2_with fail;go_roundw
      case rel=>exact⟨m+1,_,by omega,by go_num,hown1,HD1.out,hB1⟩
      case measure=>simp[intOf];omega
     ·go_wp2_with (first
       | (at_lookup;refine wpList_lookup_own_ok_int _ rfl _ _ 52 rfl 9 3 .i64 IK Tryz.underlying52 Tryz.underlying3 (Js _) w.heap.size (k*8+m) D' rfl hmap _ _ rfl hkey ?_;intro cc _ _))
      go_returns
      exact⟨.inr ⟨Ht.out ht,rfl⟩,hB⟩
    ·go_wp2_with fail;go_roundw
     case rel=>exact⟨k+1,D',by omega,by go_num,hmap.mono (by omega),HN.out D' m hq HD.out,hB⟩
     case measure=>simp[intOf];omega
  ·have Hk:Hid (k=bs.length):=by show _=_;omega
   go_wp2_with fail;go_returns
   exact⟨.inl ⟨HD.out.apart hp,_,_,D,rfl,hmap,by rw[← Hk.out];exact HD.out,A3 _⟩,hB⟩
theorem Rv{tg:List ByteArray}{bs:List Ba}(h8:tg.length<=8)(h:AR tg bs bs.length):∀x∈bs,Bg x.has/\x.has.length<=8:=λx hx=>by
 obtain⟨i,hi,rfl⟩:=B7 hx;obtain⟨h1,h2⟩:=h.at hi hi;have e1:=Z5 h1;have e2:=Z5 h2;exact⟨h2.2,by omega⟩
theorem BK(b:Bk)(v:Value)(w:World)(h:K0 w v b):
  Calls Tryz.prog 9 #[v] w λe w'=>e=.returned (.bool (I1 b))/\Below w.heap.size w w':=by
 obtain⟨a1,c1,a2,c2,rfl,h1,h2⟩:=h.parts;have hC:CB (w.alloc (.cells #[.slice a1 (b).tg.length c1,.slice a2 (b).bs.length c2] 26)) w.heap.size [.slice a1 b.tg.length c1,.slice a2 b.bs.length c2]:=T6 w _ _;have hB0:=(A4 w.heap.size w).alloc (A3 _) (.cells #[.slice a1 (b).tg.length c1,.slice a2 (b).bs.length c2] 26);have g1:=h1.inv.1;have g2:=h2.at.1;unfold maxLen at g1 g2;go_enter Tryz.func9,Tryz.ntmps9;go_upto_region 1 with fail;generalize w.alloc (.cells #[.slice a1 (b).tg.length c1,.slice a2 (b).bs.length c2] 26)=W1 at *;have l1:=h1.up hB0;have l2:=h2.up hB0;obtain⟨e0,e1⟩:=hC.c2';have hlt:=hC.2.2;clear h h1 h2;by_cases h8:8<b.tg.length
 ·have Hq:Hid (I1 b=false):=V4 λh=>by have:=h.1.1;omega
  go_wp2_with fail;go_ret;exact⟨F6 Hq.out.symm,hB0⟩
 by_cases h5:5<b.bs.length
 ·have Hq:Hid (I1 b=false):=V4 λh=>by have:=h.2.1;omega
  go_wp2_with fail;go_ret;exact⟨F6 Hq.out.symm,hB0⟩
 cases ho:pB (DT b.tg/\Bg b.tg)
 ·have Hq:Hid (I1 b=false):=V4 λh=>Bd.1 ho ⟨h.1.2.1,h.1.2.2⟩;go_wp2_with fail;refine (Gu b.tg _ _ l1).mono ?_;rintro e w2 ⟨rfl,hB⟩;rw[ho];go_wp2_with fail;go_ret;exact⟨F6 Hq.out.symm,D1 hB0 hB⟩
 have Ho:Hid (CW b.tg):=⟨by omega,(O7.1 ho).1,(O7.1 ho).2⟩;go_wp2_with fail;refine (Gu b.tg _ _ l1).mono ?_;rintro e w2 ⟨rfl,hb2⟩;rw[ho];clear ho;obtain⟨hc,hf⟩:=CN hb2;go_wp2_with fail;refine (Ej b.bs _ _ (l2.up hb2) (by omega)).mono ?_;rintro e w3 ⟨⟨u,rfl,-,hu⟩,hb3⟩;clear hc hf;obtain⟨au,cu,rfl,-⟩:=id hu;go_wp2_with fail;refine (Gu (I9 b.bs) _ _ hu).mono ?_;rintro e w4 ⟨rfl,hb4⟩;have hB:=D1 (D1 hb2 hb3) hb4;clear hb2 hb3 hb4 hu;cases hn:pB (DT (I9 b.bs)/\Bg (I9 b.bs))
 ·have Hq:Hid (I1 b=false):=V4 λh=>Bd.1 hn ⟨h.2.2.1,h.2.2.2.1⟩;go_wp2_with fail;go_ret;exact⟨F6 Hq.out.symm,D1 hB0 hB⟩
 have Hn:Hid (DT (I9 b.bs)/\Bg (I9 b.bs)):=O7.1 hn;clear hn;obtain⟨hc,hf⟩:=CN hB;obtain⟨-,hpos⟩:=l2.at;have hz4:=hB.size;go_wp2_with fail;clear hc hf;go_loopw [4,31] (λ_ i w'=>∃k:Nat,k<=b.bs.length/\i=.int .i64 k/\AR b.tg b.bs k/\Below W1.heap.size W1 w') (λ_ i _=>b.bs.length-(intOf i).toNat)
 case atStart=>exact⟨0,by omega,rfl,AR.zero _ _,hB⟩
 case round =>
  clear hB hz4;obtain⟨k,hk,rfl,hal,hB⟩:=hrel;have Hal:Hid (AR b.tg b.bs k):=hal;clear hal;by_cases hp:k<b.bs.length
  ·obtain⟨bb,o,rfl,hS,hb⟩:=hpos (by omega);obtain⟨a3,d3,a4,d4,c3,c4,c5,l3,l4,-⟩:=((hS.at hp).up hB hb).cells;have HS:Hid (Fy b.tg b.bs[k]->AR b.tg b.bs (k+1)):=λh=>Hal.out.step hp h;have HN:Hid (¬Fy b.tg b.bs[k]->I1 b=false):=λh=>V4 λhb=>h (hb.2.2.2.2.1.at hp hp);generalize b.bs[k]=x0 at *;have hC1:CB (wr.alloc (.cells #[.string (x0).nm,.slice a3 (x0).has.length d3,.slice a4 (x0).nd.length d4] 49)) wr.heap.size [.string x0.nm,.slice a3 x0.has.length d3,.slice a4 x0.nd.length d4]:=T6 wr _ _;have hb5:=(A4 wr.heap.size wr).alloc (A3 _) (.cells #[.string (x0).nm,.slice a3 (x0).has.length d3,.slice a4 (x0).nd.length d4] 49);go_upto_region 8 with fail;generalize wr.alloc (.cells #[.string (x0).nm,.slice a3 (x0).has.length d3,.slice a4 (x0).nd.length d4] 49)=W2 at *;have hB5:=D1 hB hb5;have l3':=l3.up hb5;have l4':=l4.up hb5;have l1':=l1.up hB5;obtain⟨⟨q0,q1,q2⟩,-⟩:=hC1.c3;obtain⟨hc,hf⟩:=CN hB5;clear c3 c4 c5 l3 l4 hb5 hB hS;go_wp2_with fail;refine (QJ x0 b.tg _ _ _ _ l3' l4' l1').mono ?_;rintro e w6 ⟨rfl,hb6⟩;have hB6:=D1 hB5 hb6;clear hc hf q0 q1 q2 l3' l4' l1' hB5 hb6 hC1;cases hq:pB (Fy b.tg x0)
   ·have Hq:Hid (I1 b=false):=HN.out (Bd.1 hq);go_wp2_with fail;go_ret;exact⟨F6 Hq.out.symm,D1 hB0 hB6⟩
   ·have Hq:Hid (AR b.tg b.bs (k+1)):=HS.out (O7.1 hq);go_wp2_with fail;go_roundw
    case rel=>exact⟨k+1,by omega,by go_num,Hq.out,hB6⟩
    case measure=>simp[intOf];omega
  ·have Hq:Hid (AR b.tg b.bs b.bs.length):=Rq Hal.out hp;have h8':∀x∈b.bs,Bg x.has/\x.has.length<=8:=Rv (by omega) Hq.out;obtain⟨hc,hf⟩:=CN hB;go_wp2_with fail;refine (JX b.bs _ _ (l2.up hB) (by omega) h8').mono ?_;rintro e w6 ⟨hh,hb6⟩;have hB6:=D1 hB hb6;clear hc hf;rcases hh with⟨hA,M,n,D,rfl,-,-,-⟩|⟨hA,rfl⟩
   ·have Hy:Hid (I1 b=true):=Z3 ⟨Ho.out,by omega,Hn.out.1,Hn.out.2,Hq.out,hA⟩;go_wp2_with fail;go_ret;exact⟨F6 Hy.out.symm,D1 hB0 hB6⟩
   ·have Hy:Hid (I1 b=false):=V4 λh=>hA h.2.2.2.2.2;go_wp2_with fail;go_ret;exact⟨F6 Hy.out.symm,D1 hB0 hB6⟩
end Go.Proofs.YtmfjakieahkacaaGreatDoor
namespace Go.Proofs.YtmfjakieahkacaaGreatDoor
open Go.RowKit
theorem BL{P:Program}{w:World}(base:Nat)(t ty e:TypeId)(i:TypeInfo)(size:Nat)(ht:P.underlying t=some (.slice e))(hi:P.info? e=some i)
  (v:Value) (n:Nat) (xs:List Value) (hown:w.ownsRow base e size v n xs) (a:Option Addr) (c:Nat):(Builtin.append_ #[t,t] ty #[v,.slice a 0 c]).run P w=.ok v w:=by
 rcases hown.2 with⟨rfl,rfl⟩|⟨g,cap,cur,rfl,_,_,hnc,_⟩
 ·cases a<;>simp[Builtin.append_,run_underlying ht,sizeOf,typeInfo,hi,Builtin.lenOf,Builtin.firstCells,loadCells,loadCellsFrom,Result.andThen]
 ·cases a<;>simp[Builtin.append_,run_underlying ht,sizeOf,typeInfo,hi,Builtin.lenOf,Builtin.firstCells,hnc,storeCells,loadCells,loadCellsFrom,Result.andThen]
theorem IL{P:Program}(w:World){ops:Array Oper}{rest:List Oper}{o:Oper}{ac:Act}{Q:Exit->Act->World->Prop}(hg:o.guard=none)(s x:Operand)(t:TypeId)(hop:o.op=.call {callee:=.builtin .append,args:=#[s,x],argTypes:=#[t,t]})
  (base:Nat) (e:TypeId) (i:TypeInfo) (size:Nat) (ht:P.underlying t=some (.slice e)) (hi:P.info? e=some i) (v:Value) (n:Nat) (xs:List Value) (hs:ac.eval s=v) (hown:w.ownsRow base e size v n xs) (a:Option Addr) (c:Nat) (hx:ac.eval x=.slice a 0 c)
  (h:wpList P ops Q rest (ac.put o.dst v) w):wpList P ops Q (o::rest) ac w:=by
 refine wpList_plain hg λK hK=>?_;have hr:=BL (P:=P) base t o.type e i size ht hi v n xs hown a c;unfold Oper.wp;simp[execOp,hop,resolve,invoke,builtin,hs,hx,hr,Result.andThen];exact hK _ _ h
def NN(u:Value):Prop:=∃g n c,u=.slice (some ⟨g,0,none⟩) n c
theorem BM(w:World):E5 (w.alloc (.cells #[] 9)) w.heap.size (.slice (some ⟨w.heap.size,0,none⟩) 0 0) []:=C0 w #[] 0 (A3 _) (by unfold maxLen;omega) rfl
theorem LY{P:Program}{fn:Func}{q:Tmp}{T:TypeId}(h:fn.results=#[.cell q T]){d:TypeDesc}(hu:P.underlying T=some d)(hd:d.isRow=true)(hi:(P.info? T).map (·.size)=some 3){R:Ending->World->Prop}{tmps:Array Value}{w:World}{rk:Nat}{y0 y1 y2 x0 x1 x2:Value}
  (k:CB w rk [y0,y1,y2]) (ht:tmps.getD q undef=.pointer (some ⟨rk,0,none⟩)) (hR:R (.returned (.agg #[x0,x1,x2])) (((w.setCell ⟨rk,0,none⟩ x0).setCell ⟨rk,1,none⟩ x1).setCell ⟨rk,2,none⟩ x2)) :
  bodyPost P fn R .ret {tmps:=tmps,defers:=[]} (((w.setCell ⟨rk,0,none⟩ x0).setCell ⟨rk,1,none⟩ x1).setCell ⟨rk,2,none⟩ x2) :=
 bodyPost_ret (Ui (cs:=[x0,x1,x2]) h hu hd hi ht (k.copy3 x0 x1 x2)) rfl hR
theorem Av{P:Program}{fn:Func}{q:Tmp}{T:TypeId}(h:fn.results=#[.cell q T]){d:TypeDesc}(hu:P.underlying T=some d)(hd:d.isRow=true)(hi:(P.info? T).map (·.size)=some 2){R:Ending->World->Prop}{tmps:Array Value}{w:World}{rk:Nat}{y0 y1 x0 x1:Value}
  (k:CB w rk [y0,y1]) (ht:tmps.getD q undef=.pointer (some ⟨rk,0,none⟩)) (hR:R (.returned (.agg #[x0,x1])) ((w.setCell ⟨rk,0,none⟩ x0).setCell ⟨rk,1,none⟩ x1)) :
  bodyPost P fn R .ret {tmps:=tmps,defers:=[]} ((w.setCell ⟨rk,0,none⟩ x0).setCell ⟨rk,1,none⟩ x1) :=
 bodyPost_ret (Ui (cs:=[x0,x1]) h hu hd hi ht (k.copy2 x0 x1)) rfl hR
theorem Cq:(Tryz.prog.info? 49).map (λi=>(i.zero,i.size,i.bytes))=some (some (.agg #[.string ⟨#[]⟩,.slice none 0 0,.slice none 0 0]),3,64):=by kernel_rfl
abbrev Bv:=Ba×Value×Value
def Ch(p:Bv):List Value:=[.string p.1.nm,p.2.1,p.2.2]
def I8:List Bv->List Value
 | []=>[]
 | p::r=>Ch p++I8 r
theorem Ci:∀ps:List Bv,(I8 ps).length=ps.length*3
 | []=>rfl
 | p::r=>by rw[I8,A8,Ci r,List.length_cons];simp[Ch];omega
theorem BN(p:Bv):∀ps:List Bv,I8 (ps++[p])=I8 ps++Ch p
 | []=>by simp[I8]
 | q::r=>by rw[List.cons_append,I8,I8,BN p r,List.append_assoc]
def Bp(w:World)(base:Nat)(v:Value)(ps:List Bv):Prop:=w.ownsRow base 49 3 v ps.length (I8 ps)/\∀p∈ps,E5 w base p.2.1 p.1.has/\E5 w base p.2.2 p.1.nd/\p.1.nm.size<=maxLen
theorem Bp.up{w w':World}{base:Nat}{v:Value}{ps:List Bv}(h:Bp w base v ps)(hb:Below w.heap.size w w'):Bp w' base v ps :=
 ⟨P8 h.1 hb,λp hp=>⟨(h.2 p hp).1.up hb,(h.2 p hp).2.1.up hb,(h.2 p hp).2.2⟩⟩
theorem Be{w:World}{base base' e e' s s' n n':Nat}{v v':Value}{xs xs':List Value}(h:w.ownsRow base e s v n xs)(h':w.ownsRow base' e' s' v' n' xs')(hne:e≠e'):∀g,v.ownBlock=some g->some g≠v'.ownBlock:=λg hg hg'=>by
 rcases h.2 with⟨rfl,_⟩|⟨g1,cap,cur,rfl,_,hh,_⟩
 ·simp[Value.ownBlock] at hg
 ·rcases h'.2 with⟨rfl,_⟩|⟨g2,cap',cur',rfl,_,hh',_⟩
  ·simp[Value.ownBlock] at hg'
  ·simp[Value.ownBlock] at hg hg';subst hg hg';rw[hh] at hh';simp at hh';exact hne hh'.2
theorem S9{w w':World}{base e s n:Nat}{v:Value}{xs:List Value}{r:Option Nat}(h:w.ownsRow base e s v n xs)(hg:w.grownBy w' r)(hne:∀g,v.ownBlock=some g->some g≠r):w'.ownsRow base e s v n xs:=by
 refine⟨h.1,?_⟩;rcases h.2 with h0|⟨g,cap,cur,hv,hb,hh,q⟩
 ·exact .inl h0
 ·refine .inr ⟨g,cap,cur,hv,hb,?_,q⟩;rw[hg.block g (C9.1 hh).1 (hne g (by rw[hv];rfl))];exact hh
theorem Zq{wr Wl w':World}{base:Nat}{xv v' hu nu:Value}{ps:List Bv}{x:Ba}{o':Obj}(hW:Bp wr base xv ps)(hb:Below wr.heap.size wr Wl)(hoh:E5 Wl base hu x.has)(hon:E5 Wl base nu x.nd)(hz:x.nm.size<=maxLen)
  (hgr:(Wl.alloc o').grownBy w' xv.ownBlock) (hown:w'.ownsRow base 49 3 v' (ps.length+1) (I8 ps++[.string x.nm,hu,nu])):Bp w' base v' (ps++[(x,hu,nu)]):=by
 have ha:Below Wl.heap.size Wl (Wl.alloc o'):=(A4 _ _).alloc (A3 _) _;have hrow:=P8 (P8 hW.1 hb) ha;refine⟨by rw[A8,BN];exact hown,λp hp=>?_⟩;rcases C6.1 hp with h|h
 ·obtain⟨q1,q2,q3⟩:=hW.2 p h;have r1:=(q1.up hb).up ha;have r2:=(q2.up hb).up ha;exact⟨S9 r1 hgr (Be r1 hrow (by decide)),S9 r2 hgr (Be r2 hrow (by decide)),q3⟩
 ·obtain rfl:p=(x,hu,nu):=by simpa using h
  have r1:=hoh.up ha;have r2:=hon.up ha;exact⟨S9 r1 hgr (Be r1 hrow (by decide)),S9 r2 hgr (Be r2 hrow (by decide)),hz⟩
theorem Fd(w:World)(x y z:Value)(ty:TypeId){j:Nat}{v:Value}(h:[x,y,z][j]?=some v):(w.alloc (.cells #[x,y,z] ty)).cell? ((⟨w.heap.size,0,none⟩:Addr).add j)=some v:=by
 have:=(T6 w [x,y,z] ty).1 j v h;rw[Addr.add_mid];exact this
end Go.Proofs.YtmfjakieahkacaaGreatDoor
namespace Go.Proofs.YtmfjakieahkacaaGreatDoor
def Bh(b:Bk):Prop:=(∀s∈b.tg,s.size<=maxLen)/\∀x∈b.bs,(∀s∈x.has,s.size<=maxLen)/\(∀s∈x.nd,s.size<=maxLen)
def S7:Bk:=⟨[],[]⟩
theorem Ek:Bh S7:=⟨λs hs=>by simp[S7] at hs,λx hx=>by simp[S7] at hx⟩
def I3(b:Bk)(nm:ByteArray):Nat:=(Z7 (I9 b.bs) nm).toNat
theorem Dv{b:Bk}{nm:ByteArray}(h:D2 (I9 b.bs) nm=true):Z7 (I9 b.bs) nm=(I3 b nm:Int)/\I3 b nm<b.bs.length:=by
 have h0:=Ki (I9 b.bs) nm;rw[h,decide_eq_true_eq] at h0;refine⟨by unfold I3;omega,?_⟩;rw[I3,Z7,if_pos h]
 have:(I9 b.bs).findIdx (λx=>x.toList==nm.toList)<(I9 b.bs).length:=List.findIdx_lt_length.2 (by
  rw[D2,List.any_eq_true] at h;exact h)
 rw[O1] at this;simpa using this
noncomputable def Dw(b:Bk)(nm:ByteArray):Int:=if I1 b=false then 1 else if D2 (I9 b.bs) nm=false then 3 else 0
noncomputable def Bq(b:Bk)(nm:ByteArray):Bk:=if I1 b=false then S7 else if D2 (I9 b.bs) nm=false then b else ⟨b.tg,b.bs.take (I3 b nm)++b.bs.drop (I3 b nm+1)⟩
theorem Pc{b:Bk}{nm:ByteArray}(h:I1 b=false):Dw b nm=1/\Bq b nm=S7:=by simp[Dw,Bq,h]
theorem KU{b:Bk}{nm:ByteArray}(h:I1 b=true)(hm:D2 (I9 b.bs) nm=false):Dw b nm=3/\Bq b nm=b:=by simp[Dw,Bq,h,hm]
theorem MT{b:Bk}{nm:ByteArray}(h:I1 b=true)(hm:D2 (I9 b.bs) nm=true):Dw b nm=0/\Bq b nm=⟨b.tg,b.bs.take (I3 b nm)++b.bs.drop (I3 b nm+1)⟩:=by simp[Dw,Bq,h,hm]
def KV(b:Bk)(nm:ByteArray):Nat:=(b.bs.takeWhile λx=>Z9 x.nm nm).length
noncomputable def U8(b:Bk)(nm:ByteArray)(nd:List ByteArray):Int :=
 if I1 b=false then 1 else if (U9 nm&&pB (J9 nd b.tg))=false then 2 else if D2 (I9 b.bs) nm=true then 3 else if 5<=b.bs.length then 4 else 0
noncomputable def S8(b:Bk)(nm:ByteArray)(nd:List ByteArray):Bk :=
 if I1 b=false then S7 else if U8 b nm nd=0 then ⟨b.tg,b.bs.take (KV b nm)++⟨nm,[],nd⟩::b.bs.drop (KV b nm)⟩ else b
def SW(b:Bk)(nm:ByteArray)(k:Nat):Prop:=∀(j:Nat)(x:Ba),j<k->b.bs[j]?=some x->Z9 x.nm nm=true
theorem Pd{α:Type}(p:α->Bool):∀(l:List α)(k:Nat),k<=l.length->(∀j x,j<k->l[j]?=some x->p x=true)->(∀x,l[k]?=some x->p x=false)->(l.takeWhile p).length=k
 | [],k,hk,_,_=>by simp at hk;subst hk;rfl
 | x::r,0,_,_,h2=>by
  rw[List.takeWhile_cons,h2 x (by simp)];rfl
 | x::r,k+1,hk,h1,h2=>by
  rw[List.takeWhile_cons,h1 0 x (by omega) (by simp)];simp only[if_true,List.length_cons];rw[Pd p r k (by simpa using hk) (λj y hj hy=>h1 (j+1) y (by omega) (by simpa using hy)) (λy hy=>h2 y (by simpa using hy))]
theorem UP{b:Bk}{nm:ByteArray}{k:Nat}(hk:k<=b.bs.length)(hl:SW b nm k)(hn:∀x,b.bs[k]?=some x->Z9 x.nm nm=false):KV b nm=k:=Pd _ _ _ hk hl hn
theorem Pe{b:Bk}{nm:ByteArray}{nd:List ByteArray}(h:I1 b=false):U8 b nm nd=1/\S8 b nm nd=S7:=by simp[U8,S8,h]
theorem IM{b:Bk}{nm:ByteArray}{nd:List ByteArray}(h:I1 b=true)(h2:(U9 nm&&pB (J9 nd b.tg))=false):U8 b nm nd=2/\S8 b nm nd=b:=by simp[U8,S8,h,h2]
theorem JY{b:Bk}{nm:ByteArray}{nd:List ByteArray}(h:I1 b=true)(h2:(U9 nm&&pB (J9 nd b.tg))=true)(h3:D2 (I9 b.bs) nm=true):U8 b nm nd=3/\S8 b nm nd=b:=by simp[U8,S8,h,h2,h3]
theorem KW{b:Bk}{nm:ByteArray}{nd:List ByteArray}(h:I1 b=true)(h2:(U9 nm&&pB (J9 nd b.tg))=true)(h3:D2 (I9 b.bs) nm=false)(h4:5<=b.bs.length):U8 b nm nd=4/\S8 b nm nd=b:=by simp[U8,S8,h,h2,h3,h4]
theorem MU{b:Bk}{nm:ByteArray}{nd:List ByteArray}(h:I1 b=true)(h2:(U9 nm&&pB (J9 nd b.tg))=true)(h3:D2 (I9 b.bs) nm=false)(h4:¬5<=b.bs.length):
  U8 b nm nd=0/\S8 b nm nd=⟨b.tg,b.bs.take (KV b nm)++⟨nm,[],nd⟩::b.bs.drop (KV b nm)⟩:=by
 have hc:U8 b nm nd=0:=by simp[U8,h,h2,h3,h4]
 exact⟨hc,by rw[S8,h,if_neg (by simp),if_pos hc]⟩
theorem Br{b:Bk}(h:J0 b):b.tg.length<=8/\b.bs.length<=5/\∀x∈b.bs,x.has.length<=8/\x.nd.length<=8:=by
 refine⟨h.1.1,h.2.1,λx hx=>?_⟩;obtain⟨i,hi,rfl⟩:=B7 hx;have ho:=h.2.2.2.2.1.at (k:=i) hi hi;have h1:=Z5 ho.1;have h2:=Z5 ho.2;have h0:=h.1.1;omega
theorem Bj{b:Bk}(h:I1 b=true):J0 b:=O7.1 h
end Go.Proofs.YtmfjakieahkacaaGreatDoor
namespace Go.Proofs.YtmfjakieahkacaaGreatDoor
open Go
section
variable {P:Program} {ops:Array Oper} {Q:Exit->Act->World->Prop} {md:Region.Mode} {S:World->Prop} {L:Nat}
def BX(P:Program)(md:Region.Mode)(ops:Array Oper)(Q:Exit->Act->World->Prop)(S:World->Prop)(L:Nat):Nat->Array Bool->Act->World->Prop
 | 0,listed,a,w=>Region.ready md ops listed=[]/\Q .normal a w
 | fuel+1,listed,a,w=>(Region.ready md ops listed=[]->Q .normal a w)/\
  ∀i∈Region.ready md ops listed,wpOp P ops Q i (λa' w'=>(i≠L->S w')/\BX P md ops Q S L fuel (listed.setIfInBounds i true) a' w') a w
theorem Pf:∀(fuel:Nat)(listed:Array Bool)(a:Act)(w:World),BX P md ops Q S L fuel listed a w->wpAny P md ops Q fuel listed a w
 | 0,_,_,_,h=>h
 | fuel+1,_,_,_,h=>⟨h.1,λi hi=>wpOp_mono (λa' w' h'=>Pf fuel _ a' w' h'.2) (h.2 i hi)⟩
def FE(md:Region.Mode)(ops:Array Oper)(L i:Nat):Bool:=((ops[L]?).map λo=>o.after.any λe=>Region.binds md e&&e.on==i).getD (decide (ops.size<=L))
theorem WZ{listed:Array Bool}{i j:Nat}(hw:FE md ops L i=true)(hi:i∈Region.ready md ops listed)(hj:j∈Region.ready md ops listed):j≠L:=by
 rintro rfl;obtain⟨_,oj,hoj,hall⟩:=mem_ready.1 hj;simp only[FE,hoj,Option.map_some,Option.getD_some,Array.any_eq_true',Bool.and_eq_true,beq_iff_eq] at hw;obtain⟨e,he,hb,heq⟩:=hw;have h1:=hall e he hb;have h0:=(mem_ready.1 hi).1;rw[heq] at h1;rcases Nat.lt_or_ge i listed.size with h'|h'
 ·simp[h'] at h0 h1;rw[h0] at h1;cases h1
 ·simp[Array.getElem?_eq_none h'] at h1
theorem KX{i:Nat}{oi:Oper}{v:Value}(hi:ops[i]?=some oi)(hsel:∀(j:Nat)(o:Oper) cs b,ops[j]?=some o->o.op≠.select cs b)
  (hQ:∀c a w,Q (.panic c) (a.put oi.dst v) w->Q (.panic c) a w) (hw:FE md ops L i=true) :
  ∀(fuel:Nat)(listed:Array Bool)(a:Act)(w:World),
   (∀j oj,ops[j]?=some oj->j≠i->listed.getD j true=false->(∀e∈oj.after,Region.binds md e=true->e.on≠i)->oi.apart ops oj=true)->
   i∈Region.ready md ops listed->YieldsIf P ops S oi v a->S w->BX P md ops Q S L fuel (listed.setIfInBounds i true) (a.put oi.dst v) w->BX P md ops Q S L (fuel+1) listed a w:=by
 intro fuel;induction fuel with
 | zero =>
  intro listed a w _ hr hy hS H;refine⟨λh=>(by rw[h] at hr;cases hr),λj hj=>?_⟩;by_cases hji:j=i
  ·subst hji;exact hy.wpOp hi hS ⟨λ_=>hS,H⟩
  ·have hm:=ready_mono hj hji;rw[H.1] at hm;cases hm
 | succ fuel ih =>
  intro listed a w hfree hr hy hS H;refine⟨λh=>(by rw[h] at hr;cases hr),λj hj=>?_⟩;by_cases hji:j=i
  ·subst hji;exact hy.wpOp hi hS ⟨λ_=>hS,H⟩
  ·have hjL:j≠L:=WZ hw hr hj;obtain⟨hjun,oj,hoj,hall⟩:=mem_ready.1 hj
   have hnot:∀e∈oj.after,Region.binds md e=true->e.on≠i:=λe he hb heq=>by
    have h1:=hall e he hb;have h0:=(mem_ready.1 hr).1;rw[heq] at h1;rcases Nat.lt_or_ge i listed.size with h'|h'
    ·simp[h'] at h0 h1;rw[h0] at h1;cases h1
    ·simp[Array.getElem?_eq_none h'] at h1
   have h2:=wpOp_putIf hoj (hfree j oj hoj hji hjun hnot) (λcs b=>hsel i oi cs b hi) (λcs b=>hsel j oj cs b hoj) hQ hy (H.2 j (ready_mono hj hji));refine wpOp_mono (λa' w' h3=>⟨λ_=>h3.2.1 hjL,ih (listed.setIfInBounds j true) a' w' (λk ok hk hki hun hno=>?_) (ready_mono hr (Ne.symm hji)) h3.1 (h3.2.1 hjL) ?_⟩) h2
   ·refine hfree k ok hk hki ?_ hno;by_cases hjk:j=k
    ·subst hjk;exact hjun
    ·rw[getD_set_ne true hjk] at hun;exact hun
   ·rw[Array.setIfInBounds_comm _ _ hji];exact h3.2.2
theorem G3{i:Nat}{oi:Oper}{v:Value}{fuel:Nat}{listed:Array Bool}{a:Act}{w:World}(hi:ops[i]?=some oi)
  (hs:Region.noSelect ops=true) (hf:Region.free md ops listed i=true) (hr:(Region.ready md ops listed).contains i=true) (hw:FE md ops L i=true)
  (hQ:∀c a w,Q (.panic c) (a.put oi.dst v) w->Q (.panic c) a w) (hg:Region.wanted oi (yielded ops a.tmps)=true) (hS:S w) (hy:∀w,S w->(execOp a.eval oi).run P w=.ok (.value v) w)
  (h:BX P md ops Q S L fuel (listed.setIfInBounds i true) (a.put oi.dst v) w):BX P md ops Q S L (fuel+1) listed a w :=
 KX hi (Region.noSelect_spec hs) hQ hw fuel listed a w (Region.free_spec hi hf) (by simpa using hr) (.inl ⟨hg,hy⟩) hS h
theorem Y9{i:Nat}{oi:Oper}{fuel:Nat}{listed:Array Bool}{a:Act}{w:World}(hi:ops[i]?=some oi)
  (hs:Region.noSelect ops=true) (hf:Region.free md ops listed i=true) (hr:(Region.ready md ops listed).contains i=true) (hw:FE md ops L i=true)
  (hQ:∀c a w,Q (.panic c) (a.put oi.dst undef) w->Q (.panic c) a w) (hg:Region.wanted oi (yielded ops a.tmps)=false) (hS:S w)
  (h:BX P md ops Q S L fuel (listed.setIfInBounds i true) (a.put oi.dst undef) w):BX P md ops Q S L (fuel+1) listed a w :=
 KX hi (Region.noSelect_spec hs) hQ hw fuel listed a w (Region.free_spec hi hf) (by simpa using hr) (.inr ⟨hg,rfl⟩) hS h
theorem E6(i:Nat){oi:Oper}{v:Value}{fuel:Nat}{listed:Array Bool}{a:Act}{w:World}(hi:ops[i]?=some oi)(hS:S w)
  (h:BX P md ops Q S L fuel (listed.setIfInBounds i true) (a.put oi.dst v) w)
  (hy:∀w,S w->(execOp a.eval oi).run P w=.ok (.value v) w:=by (intro w hSw;(try dsimp only at hSw);go_simp;try with_reducible rfl))
  (hs:Region.noSelect ops=true:=by kernel_rfl) (hf:Region.free md ops listed i=true:=by kernel_rfl) (hr:(Region.ready md ops listed).contains i=true:=by kernel_rfl) (hw:FE md ops L i=true:=by kernel_rfl)
  (hQ:∀c a w,Q (.panic c) (a.put oi.dst v) w->Q (.panic c) a w:=by exact λ_ _ _ h=>h) (hg:Region.wanted oi (yielded ops a.tmps)=true:=by first|kernel_rfl|rfl):BX P md ops Q S L (fuel+1) listed a w :=
 G3 hi hs hf hr hw hQ hg hS hy h
theorem Pg(i:Nat){oi:Oper}{fuel:Nat}{listed:Array Bool}{a:Act}{w:World}(hi:ops[i]?=some oi)(hS:S w)
  (h:BX P md ops Q S L fuel (listed.setIfInBounds i true) (a.put oi.dst undef) w)
  (hs:Region.noSelect ops=true:=by kernel_rfl) (hf:Region.free md ops listed i=true:=by kernel_rfl) (hr:(Region.ready md ops listed).contains i=true:=by kernel_rfl) (hw:FE md ops L i=true:=by kernel_rfl)
  (hQ:∀c a w,Q (.panic c) (a.put oi.dst undef) w->Q (.panic c) a w:=by exact λ_ _ _ h=>h) (hg:Region.wanted oi (yielded ops a.tmps)=false:=by first|kernel_rfl|rfl):BX P md ops Q S L (fuel+1) listed a w :=
 Y9 hi hs hf hr hw hQ hg hS h
theorem Xa{i:Nat}{o:Oper}{fuel:Nat}{listed:Array Bool}{a:Act}{w:World}(hr:Region.ready md ops listed=[i])(ho:ops[i]?=some o)
  (h:∀K':Act->World->Prop,Shut (∀a w,(i≠L->S w)->BX P md ops Q S L fuel (listed.setIfInBounds i true) a w->K' a w)->if Region.wanted o (yielded ops a.tmps)=true then Oper.wp P o a w K' Q else K' (a.put o.dst undef) w) :
  BX P md ops Q S L (fuel+1) listed a w:=by
 refine⟨λh0=>(by rw[hr] at h0;cases h0),λj hj=>?_⟩;rw[hr] at hj;obtain rfl:j=i:=by simpa using hj
 exact wpOp_step ho λK' hK=>h K' λa w hS hA=>hK a w ⟨hS,hA⟩
theorem K4(i:Nat){o:Oper}{fuel:Nat}{listed:Array Bool}{a:Act}{w:World}(ho:ops[i]?=some o)
  (h:∀K':Act->World->Prop,Shut (∀a w,(i≠L->S w)->BX P md ops Q S L fuel (listed.setIfInBounds i true) a w->K' a w)->if Region.wanted o (yielded ops a.tmps)=true then Oper.wp P o a w K' Q else K' (a.put o.dst undef) w)
  (hr:Region.ready md ops listed=[i]:=by kernel_rfl):BX P md ops Q S L (fuel+1) listed a w:=Xa hr ho h
theorem K9{i:Nat}{R K:Act->World->Prop}{a:Act}{w:World}(h:Shut (∀a w,(i≠L->S w)->R a w->K a w))(hs:S w)(hr:R a w):K a w:=h a w (λ_=>hs) hr
theorem Cj{i:Nat}{R K:Act->World->Prop}{a:Act}{w:World}(h:Shut (∀a w,(i≠i->S w)->R a w->K a w))(hr:R a w):K a w:=h a w (λe=>absurd rfl e) hr
theorem Kl{i j:Nat}{o o':Oper}{fuel:Nat}{listed:Array Bool}{a:Act}{w:World}(hr:Region.ready md ops listed=[i,j])(ho:ops[i]?=some o)(ho':ops[j]?=some o')
  (h:∀K':Act->World->Prop,Shut (∀a w,(i≠L->S w)->BX P md ops Q S L fuel (listed.setIfInBounds i true) a w->K' a w)->if Region.wanted o (yielded ops a.tmps)=true then Oper.wp P o a w K' Q else K' (a.put o.dst undef) w)
  (h':∀K':Act->World->Prop,Shut (∀a w,(j≠L->S w)->BX P md ops Q S L fuel (listed.setIfInBounds j true) a w->K' a w)->if Region.wanted o' (yielded ops a.tmps)=true then Oper.wp P o' a w K' Q else K' (a.put o'.dst undef) w) :
  BX P md ops Q S L (fuel+1) listed a w:=by
 refine⟨λh0=>(by rw[hr] at h0;cases h0),λk hk=>?_⟩;rw[hr] at hk;rcases (by simpa using hk:k=i∨k=j) with rfl|rfl
 ·exact wpOp_step ho λK' hK=>h K' λa w hS hA=>hK a w ⟨hS,hA⟩
 ·exact wpOp_step ho' λK' hK=>h' K' λa w hS hA=>hK a w ⟨hS,hA⟩
theorem N2{listed:Array Bool}{a:Act}{w:World}(hr:Region.ready md ops listed=[])(h:Q .normal a w):∀fuel,BX P md ops Q S L fuel listed a w
 | 0=>⟨hr,h⟩
 | _+1=>⟨λ_=>h,by rw[hr];simp⟩
theorem M4{id:Nat}{a:Act}{w:World}(L:Nat)(S:World->Prop)(hm:P.follows .mixedOrders=true)(h:BX P .any ops Q S L ops.size (Array.replicate ops.size false) a w.drew):(Code.region id ops true).wp P Q a w :=
 wp_region_any hm (Pf _ _ _ _ h)
end
end Go.Proofs.YtmfjakieahkacaaGreatDoor
