/- The program's walks over names and lists of texts (chapter 11). -/
import Derived.Test.YtgecdacgmehmbaaGreatDoorJ2
import Derived.Maps.OwnSet
import Derived.Maps.OwnOps
import Derived.Test.YtgecdacgmehmbaaGreatDoorKf
import Derived.Laws.BitsAllLaws
set_option maxRecDepth 100000
set_option maxHeartbeats 4000000
namespace Go.Proofs.YtgecdacgmehmbaaGreatDoor
open Go.RowKit
theorem AiH (ss:List ByteArray) (v:Value) (s:ByteArray) (w:World) (h:Ls w v ss) :
  Calls Tryz.prog 204 #[v,.string s] w λe w'=>e=.returned (.int .i64 (idxI ss s))/\w'=w:=by
 obtain⟨a,c,rfl,hn,-,hpos⟩:=h;unfold maxLen at hn;go_enter Tryz.func204,Tryz.ntmps204
 go_wp2
 go_loop [8] (λi=>∃k:Nat,k<=ss.length/\i=.int .i64 k/\memS (ss.take k) s=false) (λi=>ss.length-(intOf i).toNat)
 case atStart=>exact⟨0,by omega,rfl,rfl⟩
 case round =>
  obtain⟨k,hk,rfl,hal⟩:=hrel;have Hal:Hid (memS (ss.take k) s=false):=hal;clear hal;by_cases hp:k<ss.length
  ·obtain⟨b,o,rfl,hS,hb⟩:=hpos (by omega)
   have c0:=hS.cell hp;cases hq:(s.toList==(ss[k]).toList)
   ·have Hq:Hid (((ss[k]).toList==s.toList)=false):=by show _=_;rw[AbF];exact hq
    go_wp2
    go_round
    case rel=>exact⟨k+1,by omega,by go_num,Aay hp Hal.out Hq.out⟩
    case measure=>simp[intOf];omega
   ·have Hq:Hid (((ss[k]).toList==s.toList)=true):=by show _=_;rw[AbF];exact hq
    go_wp2
    go_ret
    exact⟨O3 (U0 hp Hal.out Hq.out).symm,rfl⟩
  ·go_wp2
   go_ret
   exact⟨O3 (R3 (AaJ hp Hal.out)).symm,rfl⟩
theorem Acq (ss:List ByteArray) (v:Value) (s:ByteArray) (w:World) (h:Ls w v ss) :
  Calls Tryz.prog 180 #[v,.string s] w λe w'=>e=.returned (.bool (memS ss s))/\w'=w:=by
 obtain⟨a,c,rfl,-⟩:=id h;go_enter Tryz.func180,Tryz.ntmps180
 go_wp2_with (go_at_call 204;refine (AiH ss _ _ _ h).mono ?_;rintro e w' ⟨rfl,hw⟩;obtain rfl:=hw.symm;clear hw)
 all_goals
  go_ret
  refine⟨D6 ?_,rfl⟩;rw[← Adx];try simp_all
theorem Aih (ss:List ByteArray) (u:Value) (w:World) (h:Ls w u ss) :
  Calls Tryz.prog 181 #[u] w λe w'=>e=.returned (.bool (pB (Asc ss)))/\Below w.heap.size w w':=by
 obtain⟨a,c,rfl,hn,-,hpos⟩:=h;unfold maxLen at hn;go_enter Tryz.func181,Tryz.ntmps181
 go_wp2
 go_loopw [3] (λi w'=>∃k:Nat,(k+1<=ss.length∨k=0)/\i=.int .i64 (k+1)/\AscTo ss (k+1)/\Below w.heap.size w w') (λi _=>ss.length-(intOf i).toNat)
 case atStart=>exact⟨0,.inr rfl,rfl,AscTo.one _,A4 _ _⟩
 case round =>
  obtain⟨k,hk,rfl,hasc,hB⟩:=hrel;have Hasc:Hid (AscTo ss (k+1)):=hasc;clear hasc;by_cases hp:k+1<ss.length
  ·obtain⟨b,o,rfl,hS,hb⟩:=hpos (by omega)
   have c0:=(hS.up hB hb).cell hp;have c1:=(hS.up hB hb).cell (k:=k) (by omega);clear hk;cases hl:ltS ss[k] ss[k+1]
   ·have Hl:Hid (¬Asc ss):=λh=>by rw[AfF h hp] at hl;cases hl
    unfold ltS at hl;go_wp2_with fail
    go_quiet (fail)
    go_wp2
    go_ret
    exact⟨D6 (F1 Hl.out).symm,E7 hB _⟩
   ·have Hl:Hid (AscTo ss (k+2)):=Hasc.out.step hp hl
    unfold ltS at hl;go_wp2_with fail
    go_quiet (fail)
    go_wp2
    go_roundw
    case rel=>exact⟨k+1,.inl (by omega),by go_num,Hl.out,E7 hB _⟩
    case measure=>simp[intOf];omega
  ·go_wp2
   go_ret
   exact⟨D6 (G9 (AcS Hasc.out hp)).symm,hB⟩
theorem Abr (ss:List ByteArray) (u:Value) (w:World) (h:Ls w u ss) :
  Calls Tryz.prog 184 #[u] w λe w'=>e=.returned (.bool (pB (Names ss/\Asc ss)))/\Below w.heap.size w w':=by
 have h0:=h;obtain⟨a,c,rfl,hn,hz,hpos⟩:=h;unfold maxLen at hn;go_enter Tryz.func184,Tryz.ntmps184
 go_wp2
 go_loopw [4,7] (λ_ i w'=>∃k:Nat,k<=ss.length/\i=.int .i64 k/\NamesTo ss k/\Below w.heap.size w w') (λ_ i _=>ss.length-(intOf i).toNat)
 case atStart=>exact⟨0,by omega,rfl,NamesTo.zero _,A4 _ _⟩
 case round =>
  obtain⟨k,hk,rfl,hal,hB⟩:=hrel;have Hal:Hid (NamesTo ss k):=hal;clear hal;by_cases hp:k<ss.length
  ·obtain⟨b,o,rfl,hS,hb⟩:=hpos (by omega)
   have c0:=(hS.up hB hb).cell hp;have z0:=hz ss[k] (by simp);cases hq:nameB ss[k]
   ·have Hq:Hid (¬(Names ss/\Asc ss)):=λh=>by rw[AfG h.1 hp] at hq;cases hq
    go_wp2_with (go_at_call 144;refine (M6 _ _ z0).mono ?_;rintro e w1 ⟨rfl,hb1⟩;(first|(have hB':=D5 hB hb1;clear hB;have hB:=hB';clear hB')|(have hB:=hb1));clear hb1;(try clear hc hf);obtain⟨hc,hf⟩:=E2 hB)
    go_ret
    exact⟨D6 (F1 Hq.out).symm,hB⟩
   ·have Hq:Hid (NamesTo ss (k+1)):=Hal.out.step hp hq
    go_wp2_with (go_at_call 144;refine (M6 _ _ z0).mono ?_;rintro e w1 ⟨rfl,hb1⟩;(first|(have hB':=D5 hB hb1;clear hB;have hB:=hB';clear hB')|(have hB:=hb1));clear hb1;(try clear hc hf);obtain⟨hc,hf⟩:=E2 hB)
    go_roundw
    case rel=>exact⟨k+1,by omega,by go_num,Hq.out,hB⟩
    case measure=>simp[intOf];omega
  ·have Hq:Hid (Names ss):=Acy Hal.out hp
   have Hp:Hid (pB (Names ss/\Asc ss)=pB (Asc ss)):=by
    show _=_
    have:=Hq.out;unfold pB;simp[this]
   go_wp2_with (go_at_call 181;refine (Aih ss _ _ (h0.up hB)).mono ?_;rintro e w1 ⟨rfl,hb1⟩;(first|(have hB':=D5 hB hb1;clear hB;have hB:=hB';clear hB')|(have hB:=hb1));clear hb1;(try clear hc hf);obtain⟨hc,hf⟩:=E2 hB)
   go_ret
   exact⟨D6 Hp.out.symm,hB⟩
theorem U8 (ss all:List ByteArray) (u v:Value) (w:World) (h:Ls w u ss) (h2:Ls w v all) :
  Calls Tryz.prog 165 #[u,v] w λe w'=>e=.returned (.bool (pB (PartOk ss all)))/\Below w.heap.size w w':=by
 have h0:=h;obtain⟨a,c,rfl,hn,hz,hpos⟩:=h;obtain⟨a2,c2,rfl,-⟩:=id h2;unfold maxLen at hn;go_enter Tryz.func165,Tryz.ntmps165
 go_wp2
 go_loopw [6,9] (λ_ i w'=>∃k:Nat,k<=ss.length/\i=.int .i64 k/\PartTo ss all k/\Below w.heap.size w w') (λ_ i _=>ss.length-(intOf i).toNat)
 case atStart=>exact⟨0,by omega,rfl,PartTo.zero _ _,A4 _ _⟩
 case round =>
  obtain⟨k,hk,rfl,hal,hB⟩:=hrel;have Hal:Hid (PartTo ss all k):=hal;clear hal;by_cases hp:k<ss.length
  ·obtain⟨b,o,rfl,hS,hb⟩:=hpos (by omega)
   have c0:=(hS.up hB hb).cell hp;cases hq:memS all ss[k]
   ·have Hq:Hid (¬PartOk ss all):=λh=>by rw[AcT h.1 hp] at hq;cases hq
    go_wp2_with (go_at_call 180;refine (Acq all _ _ _ (h2.up hB)).mono ?_;rintro e w' ⟨rfl,hw⟩;obtain rfl:=hw.symm;clear hw)
    go_ret
    exact⟨D6 (F1 Hq.out).symm,hB⟩
   ·have Hq:Hid (PartTo ss all (k+1)):=Hal.out.step hp hq
    go_wp2_with (go_at_call 180;refine (Acq all _ _ _ (h2.up hB)).mono ?_;rintro e w' ⟨rfl,hw⟩;obtain rfl:=hw.symm;clear hw)
    go_roundw
    case rel=>exact⟨k+1,by omega,by go_num,Hq.out,hB⟩
    case measure=>simp[intOf];omega
  ·have Hq:Hid (Part ss all):=Adw Hal.out hp
   have Hp:Hid (pB (PartOk ss all)=pB (Asc ss)):=by
    show _=_
    have:=Hq.out;unfold pB PartOk;simp[this]
   go_wp2_with (go_at_call 181;refine (Aih ss _ _ (h0.up hB)).mono ?_;rintro e w1 ⟨rfl,hb1⟩;(first|(have hB':=D5 hB hb1;clear hB;have hB:=hB';clear hB')|(have hB:=hb1));clear hb1;(try clear hc hf);obtain⟨hc,hf⟩:=E2 hB)
   go_ret
   exact⟨D6 Hp.out.symm,hB⟩
theorem Ahq (x:Ba) (things:List ByteArray) (hv nv tv:Value) (w:World) (h1:Ls w hv x.has) (h2:Ls w nv x.needs) (h3:Ls w tv things) :
  Calls Tryz.prog 185 #[.agg #[.string x.nm,hv,nv],tv] w λe w'=>e=.returned (.bool (pB (BaOk things x)))/\Below w.heap.size w w':=by
 obtain⟨a1,c1,rfl,-⟩:=id h1;obtain⟨a2,c2,rfl,-⟩:=id h2;obtain⟨a3,c3,rfl,-⟩:=id h3;have hC:CB (w.alloc (.cells #[.string x.nm,.slice a1 x.has.length c1,.slice a2 x.needs.length c2] 118)) w.heap.size [.string x.nm,.slice a1 x.has.length c1,.slice a2 x.needs.length c2]:=E8 w _ _;have hB0:=(A4 w.heap.size w).alloc (A3 _) (.cells #[.string x.nm,.slice a1 x.has.length c1,.slice a2 x.needs.length c2] 118);go_enter Tryz.func185,Tryz.ntmps185
 go_upto_region 1 with fail
 generalize w.alloc (.cells #[.string x.nm,.slice a1 x.has.length c1,.slice a2 x.needs.length c2] 118)=W1 at *;obtain⟨⟨d0,d1,d2⟩,-⟩:=hC.c3;have hlt:=hC.2.2;have l1:=h1.up hB0;have l2:=h2.up hB0;have l3:=h3.up hB0;have hB:Below W1.heap.size W1 W1:=A4 _ _;obtain⟨hc,hf⟩:=E2 hB;cases hq:pB (PartOk x.needs things)
 ·have Hq:Hid (pB (BaOk things x)=false):=F1 λh=>J0.1 hq h.1
  go_wp2_with (go_at_call 165;refine (U8 x.needs things _ _ _ (l2.up hB) (l3.up hB)).mono ?_;rintro e w1 ⟨rfl,hb1⟩;(first|(have hB':=D5 hB hb1;clear hB;have hB:=hB';clear hB')|(have hB:=hb1));clear hb1;(try clear hc hf);obtain⟨hc,hf⟩:=E2 hB)
  go_ret
  exact⟨D6 Hq.out.symm,D5 hB0 hB⟩
 ·have Hq:Hid (pB (BaOk things x)=pB (PartOk x.has x.needs)):=by
   show _=_
   have:=F7.1 hq;unfold pB BaOk;simp[this]
  go_wp2_with (first|(revert hq;intro hq;(go_at_call 165;refine (U8 x.needs things _ _ _ (l2.up hB) (l3.up hB)).mono ?_;rintro e w1 ⟨rfl,hb1⟩;(first|(have hB':=D5 hB hb1;clear hB;have hB:=hB';clear hB')|(have hB:=hb1));clear hb1;(try clear hc hf);obtain⟨hc,hf⟩:=E2 hB);clear l3)|(go_at_call 165;refine (U8 x.has x.needs _ _ _ (l1.up hB) (l2.up hB)).mono ?_;rintro e w1 ⟨rfl,hb1⟩;(first|(have hB':=D5 hB hb1;clear hB;have hB:=hB';clear hB')|(have hB:=hb1));clear hb1;(try clear hc hf);obtain⟨hc,hf⟩:=E2 hB))
  go_ret
  exact⟨D6 Hq.out.symm,D5 hB0 hB⟩
end Go.Proofs.YtgecdacgmehmbaaGreatDoor
namespace Go.Proofs.YtgecdacgmehmbaaGreatDoor
open Go.RowKit Go.Maps
theorem AlJ (bs:List Ba) (k:Nat) (hk:k<bs.length):nms (bs.take (k+1))=nms (bs.take k)++[(bs[k]).nm]:=by
 rw[AfH,AfH,A7 (by rw[I0];exact hk),Q8 bs k hk]
theorem BaAt.batch {w:World} {b o:Nat} {x:Ba} (h:BaAt w b o x):x.nm.size<=maxLen:=by
 obtain⟨_,_,_,_,_,h3⟩:=h;exact h3
theorem U9 (bs:List Ba) (v:Value) (w:World) (h:Bs w v bs) (hn:bs.length<=1048576) :
  Calls Tryz.prog 162 #[v] w λe w'=>(∃u,e=.returned u/\OwnT w' w.heap.size u (nms bs)/\Ls w' u (nms bs))/\Below w.heap.size w w':=by
 obtain⟨a,c,rfl,-,hpos⟩:=h;obtain⟨ii,hi,iz0,iz1,iz2⟩:=info_parts L9;go_enter Tryz.func162,Tryz.ntmps162
 go_wp2_with fail
 go_loopw [3,5,8] (λu _ i w'=>∃k:Nat,k<=bs.length/\i=.int .i64 k/\w'.ownsRow w.heap.size 9 1 u k ((nms (bs.take k)).map Value.string)/\Below w.heap.size w w') (λ_ _ i _=>bs.length-(intOf i).toNat)
 case atStart=>exact⟨0,by omega,rfl,⟨by simp[nms],.inl ⟨rfl,rfl⟩⟩,A4 _ _⟩
 case round =>
  obtain⟨k,hk,rfl,hown,hB⟩:=hrel;by_cases hp:k<bs.length
  ·obtain⟨b,o,rfl,hS,hb⟩:=hpos (by omega)
   obtain⟨a1,d1,a2,d2,c0,c1,c2,l1,l2,z0⟩:=((hS.at hp).up hB hb).cells
   have Hs:Hid ((nms (bs.take (k+1))).map Value.string=(nms (bs.take k)).map Value.string++[.string (bs[k]).nm]):=by
    show _=_
    rw[AlJ bs k hp,List.map_append];rfl
   generalize bs[k]=x0 at *;clear l1 l2 hS;have hB1:=hB.alloc hB.size (.cells #[.string (x0).nm,.slice a1 (x0).has.length d1,.slice a2 (x0).needs.length d2] 118);have hown1:=E0 hown ((A4 wr.heap.size wr).alloc (A3 _) (.cells #[.string (x0).nm,.slice a1 (x0).has.length d1,.slice a2 (x0).needs.length d2] 118));have hC:CB (wr.alloc (.cells #[.string (x0).nm,.slice a1 (x0).has.length d1,.slice a2 (x0).needs.length d2] 118)) wr.heap.size [.string x0.nm,.slice a1 x0.has.length d1,.slice a2 x0.needs.length d2]:=E8 wr _ _;have hz:=hB.size;go_upto_region 5 with fail
   generalize wr.alloc (.cells #[.string (x0).nm,.slice a1 (x0).has.length d1,.slice a2 (x0).needs.length d2] 118)=W1 at *;obtain⟨⟨e0,-⟩,-⟩:=hC.c3;clear c0 c1 c2 hown hB;have hown2:=E0 hown1 ((A4 W1.heap.size W1).alloc (A3 _) (.cells #[.string x0.nm] 9));have hB2:=hB1.alloc hB1.size (.cells #[.string x0.nm] 9);go_wp2_with (at_builtin;refine wpList_append_own _ rfl _ _ 171 rfl w.heap.size 9 ii _ 1 16 Tryz.underlying171 hi iz0 iz1 iz2 rfl (by decide) _ _ _ rfl hown2 ⟨W1.heap.size,0,none⟩ 1 1 [.string x0.nm] rfl rfl (S1 _ _ _) (Abp _) (by unfold maxLen;omega) (by omega) hB2.size ?_)
   intro v1 w1 hown3 hgrow3 _;rw[← Hs.out] at hown3;have hB3:=G4 hB2 hown2 hgrow3 (A3 _);clear hown1 hown2 hgrow3 hB1 hB2 hC e0;go_wp2_with fail
   go_roundw
   case rel=>exact⟨k+1,by omega,by go_num,hown3,hB3⟩
   case measure=>simp[intOf];omega
  ·have hz:∀s∈nms bs,s.size<=maxLen:=λs hs=>by
    obtain⟨x,hx,rfl⟩:=List.mem_map.1 hs;obtain⟨i,hi,rfl⟩:=B5 hx;obtain⟨b,o,rfl,hS,hb⟩:=hpos (by omega);exact (hS.at hi).batch
   have Ho:Hid (∀u,wr.ownsRow w.heap.size 9 1 u k ((nms (bs.take k)).map Value.string)->OwnT wr w.heap.size u (nms bs)):=λu h=>by
    obtain rfl:k=bs.length:=by omega
    rw[List.take_length] at h;unfold OwnT;rw[I0];exact h
   have Hz:Hid (∀s∈nms bs,s.size<=maxLen):=hz;clear hz;go_wp2_with fail
   go_ret
   exact⟨⟨_,rfl,Ho.out _ hown,(Ho.out _ hown).lst.ls Hz.out⟩,hB⟩
theorem Ac9:Keyed Tryz.prog 9:=string_keyed Tryz.underlying9
theorem AcU (w:World):(zeroValue 3).run Tryz.prog w=.ok (.int .i64 0) w:=by kernel_rfl
abbrev MapAt (w:World) (M n:Nat) (D:DataW Unit):Prop:=w.ownsMap Tryz.prog 9 (plainElem Tryz.prog 3) M n D
theorem Adi (bs:List Ba) (v:Value) (w:World) (h:Bs w v bs) (hn:bs.length<=5) (h8:∀x∈bs,Asc x.has/\x.has.length<=8) :
  Calls Tryz.prog 186 #[v] w λe w' =>
   ((Apart bs/\∃M n D,e=.returned (.tuple #[.map (some M),.bool true])/\MapAt w' M n D/\HoldD D bs bs.length 0/\w.heap.size<=M)∨(¬Apart bs/\e=.returned (.tuple #[.map none,.bool false])))/\Below w.heap.size w w':=by
 obtain⟨a,c,rfl,-,hpos⟩:=h;have hmm:=@run_makeMap Tryz.prog;go_enter Tryz.func186,Tryz.ntmps186
 go_wp2_with fail
 go_loopw [5,6,8,9,10,14] (λ_ _ _ _ _ i w'=>∃(k:Nat) (D:DataW Unit),k<=bs.length/\i=.int .i64 k/\MapAt w' w.heap.size (k*8) D/\HoldD D bs k 0/\Below w.heap.size w w') (λ_ _ _ _ _ i _=>bs.length-(intOf i).toNat)
 case atStart=>exact⟨0,_,by omega,rfl,World.ownsMap_made _ _ _ _,HoldD.start bs,(A4 _ _).alloc (A3 _) _⟩
 case round =>
  obtain⟨k,D,hk,rfl,hmap,hD,hB⟩:=hrel;have HD:Hid (HoldD D bs k 0):=hD;clear hD;by_cases hp:k<bs.length
  ·obtain⟨b,o,rfl,hS,hb⟩:=hpos (by omega)
   obtain⟨a1,d1,a2,d2,c0,c1,c2,l1,-,-⟩:=(hS.at hp).cells;obtain⟨h8a,h8b⟩:=h8 bs[k] (by simp)
   have HS:Hid (∀(D:DataW Unit) (m:Nat) (s:ByteArray),(bs[k]).has[m]?=some s->HoldD D bs k m->Maps.has D (kl s)=false->HoldD (D.put (kl s) (.lit (.int .i64 (k:Int)))) bs k (m+1)):=λD m s hs h hn=>by
    obtain⟨hm,rfl⟩:=A2.1 hs;exact h.step hp hm hn
   have HT:Hid (∀(D:DataW Unit) (m:Nat) (s:ByteArray),(bs[k]).has[m]?=some s->HoldD D bs k m->Maps.has D (kl s)=true->¬Apart bs):=λD m s hs h hn=>by
    obtain⟨hm,rfl⟩:=A2.1 hs;exact h.twice hp hm h8a hn
   have HN:Hid (∀(D:DataW Unit) (m:Nat),¬m<(bs[k]).has.length->HoldD D bs k m->HoldD D bs (k+1) 0):=λD m hm h=>h.next hp hm;obtain⟨-,hz,hp1⟩:=l1.inv;clear h8a l1;generalize bs[k]=x0 at *;obtain⟨hc,hf⟩:=E2 hB;have hB1:=hB.alloc hB.size (.cells #[.string (x0).nm,.slice a1 (x0).has.length d1,.slice a2 (x0).needs.length d2] 118);have hmap1:=hmap.alloc (.cells #[.string (x0).nm,.slice a1 (x0).has.length d1,.slice a2 (x0).needs.length d2] 118);have hC:CB (wr.alloc (.cells #[.string (x0).nm,.slice a1 (x0).has.length d1,.slice a2 (x0).needs.length d2] 118)) wr.heap.size [.string x0.nm,.slice a1 x0.has.length d1,.slice a2 x0.needs.length d2]:=E8 wr _ _;have hz1:=hB.size;go_upto_region 5 with fail
   generalize wr.alloc (.cells #[.string (x0).nm,.slice a1 (x0).has.length d1,.slice a2 (x0).needs.length d2] 118)=W1 at *;obtain⟨⟨e0,e1,e2⟩,-⟩:=hC.c3;clear c0 c1 c2 hc hf hmap hB hS;go_wp2_with fail
   clear e0 e1 e2 hC;go_loopw [8,9,10,22] (λ_ _ _ j w'=>∃(m:Nat) (D':DataW Unit),m<=x0.has.length/\j=.int .i64 m/\MapAt w' w.heap.size (k*8+m) D'/\HoldD D' bs k m/\Below w.heap.size w w') (λ_ _ _ j _=>x0.has.length-(intOf j).toNat)
   case atStart=>exact⟨0,D,by omega,rfl,hmap1,HD.out,hB1⟩
   case round =>
    clear hB1 hmap1 HD;obtain⟨m,D',hm,rfl,hmap,hD,hB⟩:=hrel;have HD:Hid (HoldD D' bs k m):=hD;clear hD;by_cases hq:m<x0.has.length
    ·obtain⟨b1,o1,rfl,hS1,hb1⟩:=hp1 (by omega)
     have c0:=(hB.cell (p:=⟨b1,o1+m,none⟩) hb1).trans (hS1.cell hq);have z0:=hz x0.has[m] (by simp);have hx:=A0 hq;generalize x0.has[m]=s at *;have Hy:Hid (Maps.has D' (kl s)=false->HoldD (D'.put (kl s) (.lit (.int .i64 (k:Int)))) bs k (m+1)):=HS.out D' m s hx HD.out;have Ht:Hid (Maps.has D' (kl s)=true->¬Apart bs):=HT.out D' m s hx HD.out;have hkey:keyOf Tryz.prog 9 (.string s)=some (kl s):=WideMaps.keyOf_string_mk Tryz.underlying9 z0;clear HS HT HN hx HD;cases ht:Maps.has D' (kl s)
     ·go_wp2_with (first
       | (at_lookup;refine wpList_lookup_own_ok_int _ rfl _ _ 253 rfl 9 3 .i64 Ac9 Tryz.underlying253 Tryz.underlying3 (AcU _) w.heap.size (k*8+m) D' rfl hmap _ _ rfl hkey ?_;intro cc _ _)
       | (at_mapUpdate;refine wpList_mapUpdate_own _ rfl _ _ _ 253 rfl 9 3 Ac9 Tryz.underlying253 _ w.heap.size (k*8+m) D' rfl hmap (by unfold maxLen;omega) _ _ _ rfl rfl hkey _ [] (plainElem_int Tryz.underlying3 (WalkArith.wf_i64 (by omega))) ?_;intro w1 hown1 hgrow1))
      have HD1:Hid (HoldD (D'.put (kl s) (.lit (.int .i64 (k:Int)))) bs k (m+1)):=Hy.out ht;have hB1:=S7 hB hgrow1 (A3 _);clear Hy Ht hgrow1 hmap hB c0;go_wp2_with fail
      go_roundw
      case rel=>exact⟨m+1,_,by omega,by go_num,hown1,HD1.out,hB1⟩
      case measure=>simp[intOf];omega
     ·go_wp2_with (first
       | (at_lookup;refine wpList_lookup_own_ok_int _ rfl _ _ 253 rfl 9 3 .i64 Ac9 Tryz.underlying253 Tryz.underlying3 (AcU _) w.heap.size (k*8+m) D' rfl hmap _ _ rfl hkey ?_;intro cc _ _))
      go_returns
      exact⟨.inr ⟨Ht.out ht,rfl⟩,hB⟩
    ·go_wp2_with fail
     go_roundw
     case rel=>exact⟨k+1,D',by omega,by go_num,hmap.mono (by omega),HN.out D' m hq HD.out,hB⟩
     case measure=>simp[intOf];omega
  ·have Hk:Hid (k=bs.length):=by show _=_;omega
   go_wp2_with fail
   go_returns
   exact⟨.inl ⟨HD.out.apart hp,_,_,D,rfl,hmap,by rw[← Hk.out];exact HD.out,A3 _⟩,hB⟩
theorem Aii {things:List ByteArray} {bs:List Ba} (h8:things.length<=8) (h:BasTo things bs bs.length):∀x∈bs,Asc x.has/\x.has.length<=8:=λx hx=>by
 obtain⟨i,hi,rfl⟩:=B5 hx;obtain⟨h1,h2⟩:=h.at hi hi;have e1:=L5 h1;have e2:=L5 h2;exact⟨h2.2,by omega⟩
theorem AbY (b:Bk) (v:Value) (w:World) (h:BkV w v b) :
  Calls Tryz.prog 171 #[v] w λe w'=>e=.returned (.bool (bookB b))/\Below w.heap.size w w':=by
 obtain⟨a1,c1,a2,c2,rfl,h1,h2⟩:=h.parts;have hC:CB (w.alloc (.cells #[.slice a1 (b).things.length c1,.slice a2 (b).bs.length c2] 37)) w.heap.size [.slice a1 b.things.length c1,.slice a2 b.bs.length c2]:=E8 w _ _;have hB0:=(A4 w.heap.size w).alloc (A3 _) (.cells #[.slice a1 (b).things.length c1,.slice a2 (b).bs.length c2] 37);have g1:=h1.inv.1;have g2:=h2.at.1;unfold maxLen at g1 g2;go_enter Tryz.func171,Tryz.ntmps171
 go_upto_region 1 with fail
 generalize w.alloc (.cells #[.slice a1 (b).things.length c1,.slice a2 (b).bs.length c2] 37)=W1 at *;have l1:=h1.up hB0;have l2:=h2.up hB0;obtain⟨e0,e1⟩:=hC.c2';have hlt:=hC.2.2;clear h h1 h2;by_cases h8:8<b.things.length
 ·have Hq:Hid (bookB b=false):=F1 λh=>by have:=h.1.1;omega
  go_wp2_with fail
  go_ret
  exact⟨D6 Hq.out.symm,hB0⟩
 by_cases h5:5<b.bs.length
 ·have Hq:Hid (bookB b=false):=F1 λh=>by have:=h.2.1;omega
  go_wp2_with fail
  go_ret
  exact⟨D6 Hq.out.symm,hB0⟩
 cases ho:pB (Names b.things/\Asc b.things)
 ·have Hq:Hid (bookB b=false):=F1 λh=>J0.1 ho ⟨h.1.2.1,h.1.2.2⟩
  go_wp2_with fail
  refine (Abr b.things _ _ l1).mono ?_;rintro e w2 ⟨rfl,hB⟩;rw[ho];go_wp2_with fail
  go_ret
  exact⟨D6 Hq.out.symm,D5 hB0 hB⟩
 have Ho:Hid (ThingsOk b.things):=⟨by omega,(F7.1 ho).1,(F7.1 ho).2⟩;go_wp2_with fail
 refine (Abr b.things _ _ l1).mono ?_;rintro e w2 ⟨rfl,hb2⟩;rw[ho];clear ho;obtain⟨hc,hf⟩:=E2 hb2;go_wp2_with fail
 refine (U9 b.bs _ _ (l2.up hb2) (by omega)).mono ?_;rintro e w3 ⟨⟨u,rfl,-,hu⟩,hb3⟩;clear hc hf;obtain⟨au,cu,rfl,-⟩:=id hu;go_wp2_with fail
 refine (Abr (nms b.bs) _ _ hu).mono ?_;rintro e w4 ⟨rfl,hb4⟩;have hB:=D5 (D5 hb2 hb3) hb4;clear hb2 hb3 hb4 hu;cases hn:pB (Names (nms b.bs)/\Asc (nms b.bs))
 ·have Hq:Hid (bookB b=false):=F1 λh=>J0.1 hn ⟨h.2.2.1,h.2.2.2.1⟩
  go_wp2_with fail
  go_ret
  exact⟨D6 Hq.out.symm,D5 hB0 hB⟩
 have Hn:Hid (Names (nms b.bs)/\Asc (nms b.bs)):=F7.1 hn;clear hn;obtain⟨hc,hf⟩:=E2 hB;obtain⟨-,hpos⟩:=l2.at;have hz4:=hB.size;go_wp2_with fail
 clear hc hf;go_loopw [4,31] (λ_ i w'=>∃k:Nat,k<=b.bs.length/\i=.int .i64 k/\BasTo b.things b.bs k/\Below W1.heap.size W1 w') (λ_ i _=>b.bs.length-(intOf i).toNat)
 case atStart=>exact⟨0,by omega,rfl,BasTo.zero _ _,hB⟩
 case round =>
  clear hB hz4;obtain⟨k,hk,rfl,hal,hB⟩:=hrel;have Hal:Hid (BasTo b.things b.bs k):=hal;clear hal;by_cases hp:k<b.bs.length
  ·obtain⟨bb,o,rfl,hS,hb⟩:=hpos (by omega)
   obtain⟨a3,d3,a4,d4,c3,c4,c5,l3,l4,-⟩:=((hS.at hp).up hB hb).cells;have HS:Hid (BaOk b.things b.bs[k]->BasTo b.things b.bs (k+1)):=λh=>Hal.out.step hp h;have HN:Hid (¬BaOk b.things b.bs[k]->bookB b=false):=λh=>F1 λhb=>h (hb.2.2.2.2.1.at hp hp);generalize b.bs[k]=x0 at *;have hC1:CB (wr.alloc (.cells #[.string (x0).nm,.slice a3 (x0).has.length d3,.slice a4 (x0).needs.length d4] 118)) wr.heap.size [.string x0.nm,.slice a3 x0.has.length d3,.slice a4 x0.needs.length d4]:=E8 wr _ _;have hb5:=(A4 wr.heap.size wr).alloc (A3 _) (.cells #[.string (x0).nm,.slice a3 (x0).has.length d3,.slice a4 (x0).needs.length d4] 118);go_upto_region 8 with fail
   generalize wr.alloc (.cells #[.string (x0).nm,.slice a3 (x0).has.length d3,.slice a4 (x0).needs.length d4] 118)=W2 at *;have hB5:=D5 hB hb5;have l3':=l3.up hb5;have l4':=l4.up hb5;have l1':=l1.up hB5;obtain⟨⟨q0,q1,q2⟩,-⟩:=hC1.c3;obtain⟨hc,hf⟩:=E2 hB5;clear c3 c4 c5 l3 l4 hb5 hB hS;go_wp2_with fail
   refine (Ahq x0 b.things _ _ _ _ l3' l4' l1').mono ?_;rintro e w6 ⟨rfl,hb6⟩;have hB6:=D5 hB5 hb6;clear hc hf q0 q1 q2 l3' l4' l1' hB5 hb6 hC1;cases hq:pB (BaOk b.things x0)
   ·have Hq:Hid (bookB b=false):=HN.out (J0.1 hq)
    go_wp2_with fail
    go_ret
    exact⟨D6 Hq.out.symm,D5 hB0 hB6⟩
   ·have Hq:Hid (BasTo b.things b.bs (k+1)):=HS.out (F7.1 hq)
    go_wp2_with fail
    go_roundw
    case rel=>exact⟨k+1,by omega,by go_num,Hq.out,hB6⟩
    case measure=>simp[intOf];omega
  ·have Hq:Hid (BasTo b.things b.bs b.bs.length):=AhU Hal.out hp
   have h8':∀x∈b.bs,Asc x.has/\x.has.length<=8:=Aii (by omega) Hq.out;obtain⟨hc,hf⟩:=E2 hB;go_wp2_with fail
   refine (Adi b.bs _ _ (l2.up hB) (by omega) h8').mono ?_;rintro e w6 ⟨hh,hb6⟩;have hB6:=D5 hB hb6;clear hc hf;rcases hh with⟨hA,M,n,D,rfl,-,-,-⟩|⟨hA,rfl⟩
   ·have Hy:Hid (bookB b=true):=G9 ⟨Ho.out,by omega,Hn.out.1,Hn.out.2,Hq.out,hA⟩
    go_wp2_with fail
    go_ret
    exact⟨D6 Hy.out.symm,D5 hB0 hB6⟩
   ·have Hy:Hid (bookB b=false):=F1 λh=>hA h.2.2.2.2.2
    go_wp2_with fail
    go_ret
    exact⟨D6 Hy.out.symm,D5 hB0 hB6⟩
end Go.Proofs.YtgecdacgmehmbaaGreatDoor
namespace Go.Proofs.YtgecdacgmehmbaaGreatDoor
open Go.RowKit
theorem Q9 (a b:List Bv):rowsB (a++b)=rowsB a++rowsB b:=by
 induction a with
 | nil=>rfl
 | cons p r ih=>simp[rowsB,ih]
theorem M4:∀(ps:List Bv) (i:Nat) (p:Bv),ps[i]?=some p->∀(j:Nat) (u:Value),(rowB p)[j]?=some u->(rowsB ps)[i*3+j]?=some u
 | q::r,0,p,hp,j,u,hu=>by
  simp at hp;subst hp
  have hj:j<(rowB q).length:=(A2.1 hu).1;rw[rowsB,Nat.zero_mul,Nat.zero_add,List.getElem?_append_left hj];exact hu
 | q::r,i+1,p,hp,j,u,hu=>by
  have:=M4 r i p (by simpa using hp) j u hu;have hl:(rowB q).length=3:=rfl;rw[rowsB,C8 (by rw[hl];omega),hl,show (i+1)*3+j-3=i*3+j by omega];exact this
theorem AiI (ps:List Bv) (k:Nat) (hk:k<=ps.length):(rowsB ps).take (k*3)=rowsB (ps.take k):=by
 have h:rowsB ps=rowsB (ps.take k)++rowsB (ps.drop k):=by rw[← Q9,List.take_append_drop]
 rw[h,List.take_left' (by rw[J3,B6];omega)]
def BkW (w:World) (base:Nat) (v:Value) (b:Bk):Prop:=∃tu bu ps,v=.agg #[tu,bu]/\OwnT w base tu b.things/\BsW w base bu ps/\ps.map (·.1)=b.bs
theorem BkV.szb {w:World} {v:Value} {b:Bk} (h:BkV w v b):Szb b:=by
 obtain⟨tv,bv,rfl,⟨_,_,_,_,h1,_⟩,⟨a,c,_,_,h2⟩⟩:=h;refine⟨h1,λx hx=>?_⟩;obtain⟨i,hi,rfl⟩:=B5 hx;obtain⟨g,o,_,hS,_⟩:=h2 (by omega);obtain⟨hv,nv,_,⟨_,_,_,_,h3,_⟩,⟨_,_,_,_,h4,_⟩,_⟩:=hS.at hi;exact⟨h3,h4⟩
theorem AbZ {w:World} {base e size n g cap:Nat} {xs:List Value} (h:w.ownsRow base e size (.slice (some ⟨g,0,none⟩) n cap) n xs):n<=cap/\cap<=maxLen:=by
 rcases h.2 with⟨h0,_⟩|⟨g',cap',cur,h',_,_,hc,hm,_⟩
 ·simp at h0
 ·simp only[Value.slice.injEq] at h';omega
theorem AaI {w:World} {base e size n:Nat} {v:Value} {xs:List Value} (h:w.ownsRow base e size v n xs):n<=maxLen:=by
 rcases h.2 with⟨_,rfl⟩|⟨g,cap,_,_,_,_,h1,h2,_⟩
 ·omega
 ·omega
theorem BsW.bs {w:World} {base:Nat} {v:Value} {ps:List Bv} {bs:List Ba} (h:BsW w base v ps) (hm:ps.map (·.1)=bs) (hz:∀x∈bs,(∀s∈x.has,s.size<=maxLen)/\(∀s∈x.needs,s.size<=maxLen)):Bs w v bs:=by
 subst hm;have hl:(ps.map (·.1)).length=ps.length:=B3 _;obtain⟨a,c,rfl⟩:=E9 h.1;refine⟨a,c,by rw[hl],by rw[hl];exact AaI h.1,λhp=>?_⟩;rw[hl] at hp;obtain⟨g,cap,hv⟩:=F2 h.1 hp;obtain⟨rfl,-,rfl⟩:=Value.slice.inj hv;refine⟨g,0,rfl,λi x hx=>?_,(h.1.lt g rfl).2⟩;rw[B0,B4] at hx;obtain⟨p,hp',rfl⟩:=hx;have hpm:p∈ps:=A6 hp';obtain⟨q1,q2,q3⟩:=h.2 p hpm;have hzz:=hz p.1 (List.mem_map_of_mem hpm);have hi:i<ps.length:=(A2.1 hp').1;refine⟨p.2.1,p.2.2,λj u hu=>?_,q1.lst.ls hzz.1,q2.lst.ls hzz.2,q3⟩;have hr:=M4 ps i p hp' j u hu;have hj:j<3:=(A2.1 hu).1;rw[Nat.zero_add,h.1.cellAt (i*3+j) (by omega)];exact hr
theorem BkW.bk {w:World} {base:Nat} {v:Value} {b:Bk} (h:BkW w base v b) (hz:Szb b):BkV w v b:=by
 obtain⟨tu,bu,ps,rfl,h1,h2,h3⟩:=h;exact⟨tu,bu,rfl,h1.lst.ls hz.1,h2.bs h3 hz.2⟩
theorem BkW.low {w:World} {base base':Nat} {v:Value} {b:Bk} (h:BkW w base v b) (hb:base'<=base):BkW w base' v b:=by
 obtain⟨tu,bu,ps,rfl,h1,h2,h3⟩:=h;exact⟨tu,bu,ps,rfl,F9 h1 hb,h2.low hb,h3⟩
theorem BkW.up {w w':World} {base:Nat} {v:Value} {b:Bk} (h:BkW w base v b) (hb:Below w.heap.size w w'):BkW w' base v b:=by
 obtain⟨tu,bu,ps,rfl,h1,h2,h3⟩:=h;exact⟨tu,bu,ps,rfl,h1.up hb,h2.up hb,h3⟩
theorem BkW.set {w:World} {base r j:Nat} {v u:Value} {b:Bk} (h:BkW w base v b) (hr:r<base):BkW (w.setCell ⟨r,j,none⟩ u) base v b:=by
 obtain⟨tu,bu,ps,rfl,h1,h2,h3⟩:=h;exact⟨tu,bu,ps,rfl,E6 h1 (D9 (E1 _ _) _) hr,h2.set hr,h3⟩
theorem BkW.gr {w w':World} {base r:Nat} {v:Value} {b:Bk} (h:BkW w base v b) (hg:w.grownBy w' (some r)) (hr:r<base):BkW w' base v b:=by
 obtain⟨tu,bu,ps,rfl,h1,h2,h3⟩:=h;exact⟨tu,bu,ps,rfl,E6 h1 hg hr,⟨E6 h2.1 hg hr,λp hp=>⟨E6 (h2.2 p hp).1 hg hr,E6 (h2.2 p hp).2.1 hg hr,(h2.2 p hp).2.2⟩⟩,h3⟩
theorem BkW.parts {w:World} {base:Nat} {v:Value} {b:Bk} (h:BkW w base v b):∃a1 c1 a2 c2 ps,v=.agg #[.slice a1 b.things.length c1,.slice a2 b.bs.length c2]/\OwnT w base (.slice a1 b.things.length c1) b.things/\BsW w base (.slice a2 b.bs.length c2) ps/\ps.map (·.1)=b.bs:=by
 obtain⟨tu,bu,ps,rfl,h1,h2,h3⟩:=h;obtain⟨a1,c1,rfl⟩:=h1.lst.shape;obtain⟨a2,c2,rfl⟩:=E9 h2.1;have hl:ps.length=b.bs.length:=by rw[← h3,B3]
 rw[hl] at h2;exact⟨a1,c1,a2,c2,ps,by rw[hl],h1,h2,h3⟩
theorem Agk (w:World) (base:Nat):BkW w base (.agg #[.slice none 0 0,.slice none 0 0]) nobody :=
 ⟨_,_,[],rfl,B7 _ _ _ _,⟨B7 _ _ _ _,λp hp=>by simp at hp⟩,rfl⟩
theorem BkV.bsOf {w:World} {x y:Value} {b:Bk} (h:BkV w (.agg #[x,y]) b):Bs w y b.bs:=by
 obtain⟨tv,bv,e,-,h2⟩:=h;simp at e;obtain⟨rfl,rfl⟩:=e;exact h2
theorem Aca {v:Value} {x y:Int} (h:x=y):Ending.returned (.tuple #[v,.int .i64 x])=.returned (.tuple #[v,.int .i64 y]):=by rw[h]
theorem J1 {P:Program} {fn:Func} {q q2:Tmp} {T:TypeId} (h:fn.results=#[.cell q T,.tmp q2]) {d:TypeDesc} (hu:P.underlying T=some d) (hd:d.isRow=true) (hi:(P.info? T).map (·.size)=some 2) {R:Ending->World->Prop} {tmps:Array Value} {w:World} {rk:Nat} {y0 y1 x0 x1 v:Value}
  (k:CB w rk [y0,y1]) (ht:tmps.getD q undef=.pointer (some ⟨rk,0,none⟩)) (hv:tmps.getD q2 undef=v) (hR:R (.returned (.tuple #[.agg #[x0,x1],v])) ((w.setCell ⟨rk,0,none⟩ x0).setCell ⟨rk,1,none⟩ x1)) :
  bodyPost P fn R .ret {tmps:=tmps,defers:=[]} ((w.setCell ⟨rk,0,none⟩ x0).setCell ⟨rk,1,none⟩ x1) :=
 bodyPost_ret (AcQ (cs:=[x0,x1]) h hu hd hi ht hv (k.copy2 x0 x1)) rfl hR
theorem Y1 {W W':World} {base b2 n:Nat} {u v:Value} {ss:List ByteArray} {xs:List Value} (h:OwnT W base u ss) (hrow:W.ownsRow b2 118 3 v n xs) (hg:W.grownBy W' v.ownBlock):OwnT W' base u ss :=
 E4 h hg (E5 h hrow (by decide))
theorem Aaa {w:World} {base g cap n:Nat} {ps:List Bv} (h:w.ownsRow base 118 3 (.slice (some ⟨g,0,none⟩) n cap) n (rowsB ps)) (k:Nat) (qs:List Bv) (hq:∀i p,qs[i]?=some p->ps[k+i]?=some p) :
  ∀(j:Nat) (u:Value),(rowsB qs)[j]?=some u->w.cell? ((⟨g,k*3,none⟩:Addr).add j)=some u:=λj u hu=>by
 have hj:j<qs.length*3:=by rw[← J3];exact (A2.1 hu).1
 have hi:j / 3<qs.length:=by omega
 have hp:=A0 hi
 have h3:(rowB (qs[j / 3]))[j % 3]?=some u:=by
  have hl:j % 3<(rowB (qs[j / 3])).length:=by show _<3;omega
  have:=M4 qs (j / 3) _ hp (j % 3) _ (A0 hl);rw[show j / 3*3+j % 3=j by omega,hu] at this;rw[A0 hl];exact this.symm
 have h4:=M4 ps (k+j / 3) _ (hq _ _ hp) (j % 3) u h3;have h5:=(A2.1 h4).1;rw[h.1] at h5;rw[Addr.add_mid,show k*3+j=(k+j / 3)*3+j % 3 by omega,h.cellAt _ h5];exact h4
theorem Aij (ps:List Bv) (k:Nat):∀(i:Nat) (q:Bv),(ps.take k)[i]?=some q->ps[0+i]?=some q:=λi q hq=>by
 rw[List.getElem?_take] at hq;split at hq
 ·rw[Nat.zero_add];exact hq
 ·cases hq
theorem Ae8 (ps:List Bv) (k:Nat):∀(i:Nat) (q:Bv),(ps.drop k)[i]?=some q->ps[k+i]?=some q:=λi q hq=>by rwa [List.getElem?_drop] at hq
theorem Agl {w:World} {base n:Nat} {v:Value} {qs:List Bv} {xs:List Value} (h:w.ownsRow base 118 3 v n xs) (hx:xs=rowsB qs) (hn:n=qs.length) (hl:∀p∈qs,OwnT w base p.2.1 p.1.has/\OwnT w base p.2.2 p.1.needs/\p.1.nm.size<=maxLen):BsW w base v qs:=by
 subst hx hn;exact⟨h,hl⟩
theorem oneB (ps:List Bv) (h:∀p∈ps,(∃a n c,p.2.1=.slice a n c)/\∃a n c,p.2.2=.slice a n c):∀u∈rowsB ps,u.oneCell'=true:=by
 induction ps with
 | nil=>intro u hu;simp[rowsB] at hu
 | cons p r ih =>
  intro u hu;rw[rowsB,D0] at hu;rcases hu with hu|hu
  ·obtain⟨⟨a,n,c,h1⟩,a2,n2,c2,h2⟩:=h p (by simp)
   simp only[rowB,h1,h2,List.mem_cons,List.not_mem_nil,or_false] at hu;rcases hu with rfl|rfl|rfl<;>rfl
  ·exact ih (λq hq=>h q (by simp[hq])) u hu
theorem BsW.one {w:World} {base:Nat} {v:Value} {ps:List Bv} (h:BsW w base v ps) (qs:List Bv) (hq:∀p∈qs,p∈ps):∀u∈rowsB qs,u.oneCell'=true :=
 oneB qs λp hp=>by
  obtain⟨q1,q2,-⟩:=h.2 p (hq p hp);obtain⟨a,c,e1⟩:=q1.lst.shape;obtain⟨a2,c2,e2⟩:=q2.lst.shape;exact⟨⟨_,_,_,e1⟩,⟨_,_,_,e2⟩⟩
theorem AiJ (ss:List ByteArray) (v:Value) (s:ByteArray) (w:World) (h:Ls w v ss) :
  Calls Tryz.prog 222 #[v,.string s] w λe w'=>e=.returned (.int .i64 (idxI ss s))/\w'=w:=by
 obtain⟨a,c,rfl,hn,-,hpos⟩:=h;unfold maxLen at hn;go_enter Tryz.func222,Tryz.ntmps222
 go_wp2
 go_loop [8] (λi=>∃k:Nat,k<=ss.length/\i=.int .i64 k/\memS (ss.take k) s=false) (λi=>ss.length-(intOf i).toNat)
 case atStart=>exact⟨0,by omega,rfl,rfl⟩
 case round =>
  obtain⟨k,hk,rfl,hal⟩:=hrel;have Hal:Hid (memS (ss.take k) s=false):=hal;clear hal;by_cases hp:k<ss.length
  ·obtain⟨b,o,rfl,hS,hb⟩:=hpos (by omega)
   have c0:=hS.cell hp;cases hq:(s.toList==(ss[k]).toList)
   ·have Hq:Hid (((ss[k]).toList==s.toList)=false):=by show _=_;rw[AbF];exact hq
    go_wp2
    go_round
    case rel=>exact⟨k+1,by omega,by go_num,Aay hp Hal.out Hq.out⟩
    case measure=>simp[intOf];omega
   ·have Hq:Hid (((ss[k]).toList==s.toList)=true):=by show _=_;rw[AbF];exact hq
    go_wp2
    go_ret
    exact⟨O3 (U0 hp Hal.out Hq.out).symm,rfl⟩
  ·go_wp2
   go_ret
   exact⟨O3 (R3 (AaJ hp Hal.out)).symm,rfl⟩
theorem Aa3 (ss:List ByteArray) (v:Value) (s:ByteArray) (w:World) (h:Ls w v ss) :
  Calls Tryz.prog 209 #[v,.string s] w λe w'=>e=.returned (.bool (memS ss s))/\w'=w:=by
 obtain⟨a,c,rfl,-⟩:=id h;go_enter Tryz.func209,Tryz.ntmps209
 go_wp2_with (go_at_call 222;refine (AiJ ss _ _ _ h).mono ?_;rintro e w' ⟨rfl,hw⟩;obtain rfl:=hw.symm;clear hw)
 all_goals
  go_ret
  refine⟨D6 ?_,rfl⟩;rw[← Adx];try simp_all
theorem Aab {x:Int} (h0:0<=x) (h1:x<18446744073709551616):IntKind.u64.wrap x=x:=by
 rw[IntKind.wrap_u64];omega
theorem AmN {k:Nat} (_:k<=7):(2:Int) ^ k=((2 ^ k:Nat):Int):=by simp
theorem AiK {k:Nat} (h:k<=7):2 ^ k<=128:=Nat.pow_le_pow_right (n:=2) (by omega) h
theorem AlK {n k:Nat} (hn:n<256) (hk:k<=7):IntKind.u64.wrap ((n:Int)+IntKind.u64.wrap (2 ^ k))=((n+2 ^ k:Nat):Int):=by
 have h:=AiK hk;rw[AmN hk];generalize 2 ^ k=m at *;rw[Aab (x:=(m:Int)) (by omega) (by omega),Aab (by omega) (by omega)];omega
theorem AiL {l:List ByteArray} {P:ByteArray->Bool} {k:Nat} (hk:k<l.length):bitsN (l.take (k+1)) P=bitsN (l.take k) P+(if P l[k]=true then 2 ^ k else 0):=by
 rw[A7 hk,AdR,B6,Nat.min_eq_left (by omega)]
theorem Acb (things picked:List ByteArray) (u v:Value) (w:World) (h:Ls w u things) (h2:Ls w v picked) (h8:things.length<=8) :
  Calls Tryz.prog 224 #[u,v] w λe w'=>e=.returned (.int .u64 (bitsN things (memS picked):Nat))/\w'=w:=by
 obtain⟨a,c,rfl,-,-,hpos⟩:=h;obtain⟨a2,c2,rfl,-⟩:=id h2;go_enter Tryz.func224,Tryz.ntmps224
 go_wp2
 go_loop [5,6,7,10] (λx _ _ i=>∃k:Nat,k<=things.length/\i=.int .i64 k/\x=.int .u64 (bitsN (things.take k) (memS picked):Nat)) (λ_ _ _ i=>things.length-(intOf i).toNat)
 case atStart=>exact⟨0,by omega,rfl,rfl⟩
 case round =>
  obtain⟨k,hk,rfl,rfl⟩:=hrel;by_cases hp:k<things.length
  ·obtain⟨b,o,rfl,hS,hb⟩:=hpos (by omega)
   have c0:=hS.cell hp;have Hb:=AiL (P:=memS picked) hp;have hsm:bitsN (things.take k) (memS picked)<256:=L2 (by rw[B6];omega) _;cases hq:memS picked things[k]
   ·have HB:Hid (bitsN (things.take (k+1)) (memS picked)=bitsN (things.take k) (memS picked)):=by show _=_;rw[Hb,hq];simp
    clear Hb;go_wp2_with (go_at_call 209;refine (Aa3 picked _ _ _ h2).mono ?_;rintro e w' ⟨rfl,hw⟩;obtain rfl:=hw.symm;clear hw)
    go_round
    case rel=>exact⟨k+1,by omega,by go_num,by rw[HB.out]⟩
    case measure=>simp[intOf];omega
   ·have HB:Hid (bitsN (things.take (k+1)) (memS picked)=bitsN (things.take k) (memS picked)+2 ^ k):=by show _=_;rw[Hb,if_pos hq]
    clear Hb;go_wp2_with (go_at_call 209;refine (Aa3 picked _ _ _ h2).mono ?_;rintro e w' ⟨rfl,hw⟩;obtain rfl:=hw.symm;clear hw)
    go_round
    case rel =>
     refine⟨k+1,by omega,by go_num,?_⟩;rw[HB.out,AlK hsm (by omega)]
    case measure=>simp[intOf];omega
  ·have HB:Hid (bitsN (things.take k) (memS picked)=bitsN things (memS picked)):=by show _=_;rw[D2 (by omega)]
   go_wp2
   go_ret
   exact⟨congrArg (λn:Nat=>Ending.returned (.int .u64 (n:Int))) HB.out,rfl⟩
def At11 (b:Bk) (k:Nat):Prop:=NamesTo (nms b.bs) k/\AscTo (nms b.bs) k/\BasTo b.things b.bs k/\ApartTo b.bs k 0
def One11 (b:Bk) (k:Nat) (x:Ba):Prop:=nameB x.nm=true/\(∀y,0<k->b.bs[k-1]?=some y->ltS y.nm x.nm=true)/\PartOk x.needs b.things/\PartOk x.has x.needs
theorem Ab3 {bs:List Ba} {k:Nat} {x:Ba} (h:bs[k]?=some x):(nms bs)[k]?=some x.nm:=by rw[nms,B0,h];rfl
theorem AlL {b:Bk} (h:BookOk b) {k:Nat} {x:Ba} (hx:b.bs[k]?=some x):One11 b k x:=by
 have hk:=(A2.1 hx).1;have hb:=h.2.2.2.2.1 k x hk hx;refine⟨h.2.2.1 k _ (by rw[I0];exact hk) (Ab3 hx),λy h0 hy=>?_,hb.1,hb.2⟩;exact h.2.2.2.1 (k-1) _ _ (by rw[I0];omega) (Ab3 hy) (by rw[show k-1+1=k by omega];exact Ab3 hx)
theorem AeZ {b:Bk} {k:Nat} {x:Ba} (h:At11 b k) (hx:b.bs[k]?=some x) (h1:One11 b k x) (ha:ApartTo b.bs (k+1) 0):At11 b (k+1):=by
 have hk:=(A2.1 hx).1;refine⟨λi a hi he=>?_,λi a c hi he hc=>?_,λi y hi hy=>?_,ha⟩
 ·by_cases e:i=k
  ·subst e
   rw[Ab3 hx] at he;obtain rfl:=A5 he;exact h1.1
  ·exact h.1 i a (by omega) he
 ·by_cases e:i+1=k
  ·subst e
   rw[Ab3 hx] at hc;obtain rfl:=A5 hc;have hy:b.bs[i]?=some b.bs[i]:=A0 (by omega);rw[Ab3 hy] at he;obtain rfl:=A5 he;exact h1.2.1 _ (by omega) (by rw[Nat.add_sub_cancel];exact hy)
  ·exact h.2.1 i a c (by omega) he hc
 ·by_cases e:i=k
  ·subst e
   rw[hx] at hy;obtain rfl:=A5 hy;exact⟨h1.2.2.1,h1.2.2.2⟩
  ·exact h.2.2.1 i y (by omega) hy
theorem AlM {b:Bk} {k:Nat} (h:At11 b k) (hk:¬k<b.bs.length) (ht:ThingsOk b.things) (h5:b.bs.length<=5):BookOk b :=
 ⟨ht,h5,Acy h.1 (by rw[I0];exact hk),AcS h.2.1 (by rw[I0];exact hk),AhU h.2.2.1 hk,AjQ h.2.2.2 hk⟩
theorem AaM (b:Bk) (v:Value) (w:World) (h:BkV w v b) :
  Calls Tryz.prog 68 #[v] w λe w'=>e=.returned (.bool (bookB b))/\Below w.heap.size w w':=by
 obtain⟨a1,c1,a2,c2,rfl,h1,h2⟩:=h.parts;have hC:CB (w.alloc (.cells #[.slice a1 (b).things.length c1,.slice a2 (b).bs.length c2] 37)) w.heap.size [.slice a1 b.things.length c1,.slice a2 b.bs.length c2]:=E8 w _ _;have hB0:=(A4 w.heap.size w).alloc (A3 _) (.cells #[.slice a1 (b).things.length c1,.slice a2 (b).bs.length c2] 37);have g1:=h1.inv.1;have g2:=h2.at.1;unfold maxLen at g1 g2;go_enter Tryz.func68,Tryz.ntmps68
 go_upto_region 1 with fail
 generalize w.alloc (.cells #[.slice a1 (b).things.length c1,.slice a2 (b).bs.length c2] 37)=W1 at *;have l1:=h1.up hB0;have l2:=h2.up hB0;clear h h1 h2;obtain⟨tv,htv⟩:∃tv,Value.slice a1 b.things.length c1=tv:=⟨_,rfl⟩;rw[htv] at l1 hC;clear htv;obtain⟨e0,e1⟩:=hC.c2';have hlt:=hC.2.2;go_wp2_with fail
 refine (Ae4 b.things tv _ l1).mono ?_;rintro e w2 ⟨rfl,m2,hw2⟩;have hB:Below W1.heap.size W1 w2:=by rw[hw2];exact E7 (A4 _ _) _
 clear hw2;cases ho:pB (ThingsOk b.things)
 ·have Hq:Hid (bookB b=false):=F1 λh=>J0.1 ho h.1
  go_wp2_with fail
  go_ret
  exact⟨D6 Hq.out.symm,D5 hB0 hB⟩
 have Ho:Hid (ThingsOk b.things):=F7.1 ho;clear ho;obtain⟨hc,hf⟩:=E2 hB;by_cases h5:5<b.bs.length
 ·have Hq:Hid (bookB b=false):=F1 λh=>by have:=h.2.1;omega
  go_wp2_with fail
  go_ret
  exact⟨D6 Hq.out.symm,D5 hB0 hB⟩
 obtain⟨-,hpos⟩:=l2.at;go_wp2_with fail
 clear hc hf;go_loopw [3,4,5] (λi _ _ w'=>∃k:Nat,k<=b.bs.length/\i=.int .i64 k/\At11 b k/\Below W1.heap.size W1 w') (λi _ _ _=>b.bs.length-(intOf i).toNat)
 case atStart=>exact⟨0,by omega,rfl,⟨NamesTo.zero _,AscTo.zero _,BasTo.zero _ _,ApartTo.zero _⟩,hB⟩
 case round =>
  clear hB;obtain⟨k,hk,rfl,hal,hB⟩:=hrel;have Hal:Hid (At11 b k):=hal;clear hal;have f0:=(hB.cell (p:=⟨w.heap.size,0,none⟩) hlt).trans e0;have f1:=(hB.cell (p:=⟨w.heap.size,1,none⟩) hlt).trans e1;have hsz:=hB.size;by_cases hp:k<b.bs.length
  ·obtain⟨bb,o,rfl,hS,hb⟩:=hpos (by omega)
   obtain⟨a3,d3,a4,d4,c3,c4,c5,l3,l4,z0⟩:=((hS.at hp).up hB hb).cells;have Hx:Hid (b.bs[k]?=some b.bs[k]):=A0 hp;have HP:Hid (∀(m:Nat) (hm:m<b.bs.length),ApartTo b.bs k m->m<k->shareB (b.bs[k]).has (b.bs[m]).has=false->ApartTo b.bs k (m+1)):=λm hm h h1 h2=>h.step hp h1 h2
   have HA:Hid (∀(m:Nat) (hm:m<b.bs.length),m<k->shareB (b.bs[k]).has (b.bs[m]).has=true->bookB b=false):=λm hm h1 h2=>F1 λhb=>by
    rw[hb.2.2.2.2.2.at hp h1] at h2;cases h2
   generalize b.bs[k]=x0 at *;have HN:Hid (¬One11 b k x0->bookB b=false):=λh=>F1 λhb=>h (AlL hb Hx.out);have hC1:CB (wr.alloc (.cells #[.string (x0).nm,.slice a3 (x0).has.length d3,.slice a4 (x0).needs.length d4] 118)) wr.heap.size [.string x0.nm,.slice a3 x0.has.length d3,.slice a4 x0.needs.length d4]:=E8 wr _ _;have hb5:=(A4 wr.heap.size wr).alloc (A3 _) (.cells #[.string (x0).nm,.slice a3 (x0).has.length d3,.slice a4 (x0).needs.length d4] 118);go_upto_region 7 with fail
   generalize wr.alloc (.cells #[.string (x0).nm,.slice a3 (x0).has.length d3,.slice a4 (x0).needs.length d4] 118)=W2 at *;have hB5:=D5 hB hb5;have l3:=l3.up hb5;have l4:=l4.up hb5;have l1':=l1.up hB5;obtain⟨hv,hhv⟩:∃hv,Value.slice a3 x0.has.length d3=hv:=⟨_,rfl⟩;obtain⟨nv,hnv⟩:∃nv,Value.slice a4 x0.needs.length d4=nv:=⟨_,rfl⟩;rw[hhv] at l3 hC1;rw[hnv] at l4 hC1;have f0:=(hB5.cell (p:=⟨w.heap.size,0,none⟩) hlt).trans e0;have f1:=(hB5.cell (p:=⟨w.heap.size,1,none⟩) hlt).trans e1;have hxl:=hC1.2.2;obtain⟨⟨q0,q1,q2⟩,-⟩:=hC1.c3;have hne:wr.heap.size≠w.heap.size:=by omega
   have hS5:=hS.up hB5 hb;clear hhv hnv c3 c4 c5 hb5 hB hS hsz;generalize wr.heap.size=xb at *;have Q0:Hid (∀n,Calls Tryz.prog 69 #[.string x0.nm] (W2.drewN n) λe w''=>e=.returned (.bool (nameB x0.nm))/\∃m,w''=W2.drewN m):=λn=>Calls.quiet_of_same (U6 _ _ z0);have Q1:Hid (∀n,Calls Tryz.prog 70 #[nv,tv] (W2.drewN n) λe w''=>e=.returned (.bool (pB (PartOk x0.needs b.things)))/\∃m,w''=W2.drewN m):=λn=>Calls.quiet_of (X9 x0.needs b.things nv tv _ l4.drewN l1'.drewN);have Q2:Hid (∀n,Calls Tryz.prog 70 #[hv,nv] (W2.drewN n) λe w''=>e=.returned (.bool (pB (PartOk x0.has x0.needs)))/\∃m,w''=W2.drewN m):=λn=>Calls.quiet_of (X9 x0.has x0.needs hv nv _ l3.drewN l4.drewN);cases hq:nameB x0.nm
   ·have Hq:Hid (¬One11 b k x0):=λh=>by rw[h.1] at hq;cases hq
    (go_wp2_with fail;go_quiet ((first|(go_at_call 69;exact Q0.out _)|(go_at_call_of 70 tv;exact Q1.out _)|(go_at_call_of 70 hv;exact Q2.out _)));go_wp2;go_ret;exact⟨D6 (HN.out (by first|exact Hq.out)).symm,D5 hB0 (E7 hB5 _)⟩)
   have H1:Hid (nameB x0.nm=true):=hq;cases k with
   | zero =>
    have H2:Hid (∀y,0<0->b.bs[0-1]?=some y->ltS y.nm x0.nm=true):=λy h=>by omega
    cases hq1:pB (PartOk x0.needs b.things)
    ·have Hq:Hid (¬One11 b (0) x0):=λh=>J0.1 hq1 h.2.2.1
     (go_wp2_with fail;go_quiet ((first|(go_at_call 69;exact Q0.out _)|(go_at_call_of 70 tv;exact Q1.out _)|(go_at_call_of 70 hv;exact Q2.out _)));go_wp2;go_ret;exact⟨D6 (HN.out (by first|exact Hq.out)).symm,D5 hB0 (E7 hB5 _)⟩)
    have H3:Hid (PartOk x0.needs b.things):=F7.1 hq1;cases hq2:pB (PartOk x0.has x0.needs)
    ·have Hq:Hid (¬One11 b (0) x0):=λh=>J0.1 hq2 h.2.2.2
     (go_wp2_with fail;go_quiet ((first|(go_at_call 69;exact Q0.out _)|(go_at_call_of 70 tv;exact Q1.out _)|(go_at_call_of 70 hv;exact Q2.out _)));go_wp2;go_ret;exact⟨D6 (HN.out (by first|exact Hq.out)).symm,D5 hB0 (E7 hB5 _)⟩)
    have H4:Hid (One11 b (0) x0):=⟨H1.out,H2.out,H3.out,F7.1 hq2⟩;go_wp2_with fail
    go_quiet ((first|(go_at_call 69;exact Q0.out _)|(go_at_call_of 70 tv;exact Q1.out _)|(go_at_call_of 70 hv;exact Q2.out _)))
    have hBX:Below W1.heap.size W1 (W2.drewN nq):=E7 hB5 _;have x1:(W2.drewN nq).cell? ⟨xb,1,none⟩=some hv:=q1;have y1:(W2.drewN nq).cell? ⟨w.heap.size,1,none⟩=some (.slice (some ⟨bb,o,none⟩) b.bs.length c2):=f1;have lX:Ls (W2.drewN nq) hv x0.has:=l3;have sX:BsAt (W2.drewN nq) bb o b.bs:=hS5;clear Q0 Q1 Q2 hB5 q0 q1 q2 f0 f1 l3 l4 l1' hS5 hC1 HN H1 H2 H3 hq1 hq2 hq;generalize W2.drewN nq=X at *;go_wp2_with fail
    go_loopw [5] (λj w'=>∃m n:Nat,m<=0/\j=.int .i64 m/\ApartTo b.bs (0) m/\w'=X.drewN n) (λj _=>0-(intOf j).toNat)
    case atStart=>exact⟨0,0,by omega,rfl,Hal.out.2.2.2,rfl⟩
    case round =>
     obtain⟨m,n,hm,rfl,hap,hw⟩:=hrel;have Hw:Hid (wr=X.drewN n):=hw;have Hap:Hid (ApartTo b.bs (0) m):=hap;clear hw hap;have hBw:Below W1.heap.size W1 wr:=by rw[Hw.out];exact E7 hBX _
     by_cases hmk:m<0
     ·omega
     ·have Hs:Hid (At11 b (0+1)):=AeZ Hal.out Hx.out H4.out (Hap.out.next hmk)
      go_wp2_with fail
      go_roundw
      case rel=>exact⟨0+1,by omega,by go_num,Hs.out,hBw⟩
      case measure=>simp[intOf];omega
   | succ k =>
    obtain⟨-,-,-,-,p0,-⟩:=(hS5.at (k:=k) (by omega)).cells;have Hy:Hid (b.bs[k+1-1]?=some (b.bs[k]'(by omega))):=by show _=_;rw[Nat.add_sub_cancel];exact A0 _
    generalize b.bs[k]'(by omega)=y0 at *;cases hl:ltS y0.nm x0.nm
    ·have Hq:Hid (¬One11 b (k+1) x0):=λh=>by rw[h.2.1 y0 (by omega) Hy.out] at hl;cases hl
     unfold ltS at hl
     (go_wp2_with fail;go_quiet ((first|(go_at_call 69;exact Q0.out _)|(go_at_call_of 70 tv;exact Q1.out _)|(go_at_call_of 70 hv;exact Q2.out _)));go_wp2;go_ret;exact⟨D6 (HN.out (by first|exact Hq.out)).symm,D5 hB0 (E7 hB5 _)⟩)
    have H2:Hid (∀y,0<k+1->b.bs[k+1-1]?=some y->ltS y.nm x0.nm=true):=λy _ hy=>by
     rw[Hy.out] at hy;obtain rfl:=A5 hy;exact hl
    unfold ltS at hl;cases hq1:pB (PartOk x0.needs b.things)
    ·have Hq:Hid (¬One11 b (k+1) x0):=λh=>J0.1 hq1 h.2.2.1
     (go_wp2_with fail;go_quiet ((first|(go_at_call 69;exact Q0.out _)|(go_at_call_of 70 tv;exact Q1.out _)|(go_at_call_of 70 hv;exact Q2.out _)));go_wp2;go_ret;exact⟨D6 (HN.out (by first|exact Hq.out)).symm,D5 hB0 (E7 hB5 _)⟩)
    have H3:Hid (PartOk x0.needs b.things):=F7.1 hq1;cases hq2:pB (PartOk x0.has x0.needs)
    ·have Hq:Hid (¬One11 b (k+1) x0):=λh=>J0.1 hq2 h.2.2.2
     (go_wp2_with fail;go_quiet ((first|(go_at_call 69;exact Q0.out _)|(go_at_call_of 70 tv;exact Q1.out _)|(go_at_call_of 70 hv;exact Q2.out _)));go_wp2;go_ret;exact⟨D6 (HN.out (by first|exact Hq.out)).symm,D5 hB0 (E7 hB5 _)⟩)
    have H4:Hid (One11 b (k+1) x0):=⟨H1.out,H2.out,H3.out,F7.1 hq2⟩;go_wp2_with fail
    go_quiet ((first|(go_at_call 69;exact Q0.out _)|(go_at_call_of 70 tv;exact Q1.out _)|(go_at_call_of 70 hv;exact Q2.out _)))
    have hBX:Below W1.heap.size W1 (W2.drewN nq):=E7 hB5 _;have x1:(W2.drewN nq).cell? ⟨xb,1,none⟩=some hv:=q1;have y1:(W2.drewN nq).cell? ⟨w.heap.size,1,none⟩=some (.slice (some ⟨bb,o,none⟩) b.bs.length c2):=f1;have lX:Ls (W2.drewN nq) hv x0.has:=l3;have sX:BsAt (W2.drewN nq) bb o b.bs:=hS5;clear Q0 Q1 Q2 hB5 q0 q1 q2 f0 f1 l3 l4 l1' hS5 hC1 HN H1 H2 H3 hq1 hq2 hq;clear p0;generalize W2.drewN nq=X at *;go_wp2_with fail
    go_loopw [5] (λj w'=>∃m n:Nat,m<=k+1/\j=.int .i64 m/\ApartTo b.bs (k+1) m/\w'=X.drewN n) (λj _=>k+1-(intOf j).toNat)
    case atStart=>exact⟨0,0,by omega,rfl,Hal.out.2.2.2,rfl⟩
    case round =>
     obtain⟨m,n,hm,rfl,hap,hw⟩:=hrel;have Hw:Hid (wr=X.drewN n):=hw;have Hap:Hid (ApartTo b.bs (k+1) m):=hap;clear hw hap;have hBw:Below W1.heap.size W1 wr:=by rw[Hw.out];exact E7 hBX _
     by_cases hmk:m<k+1
     ·have hml:m<b.bs.length:=by omega
      obtain⟨a5,d5,a6,d6,-,r1,-,l5,-,-⟩:=(sX.at hml).cells;have r1':wr.cell? ⟨bb,o+m*3+1,none⟩=some (.slice a5 (b.bs[m]).has.length d5):=by rw[Hw.out];exact r1
      have x1':wr.cell? ⟨xb,1,none⟩=some hv:=by rw[Hw.out];exact x1
      have y1':wr.cell? ⟨w.heap.size,1,none⟩=some (.slice (some ⟨bb,o,none⟩) b.bs.length c2):=by rw[Hw.out];exact y1
      have HP1:Hid (shareB x0.has (b.bs[m]).has=false->ApartTo b.bs (k+1) (m+1)):=HP.out m hml Hap.out hmk;have HA1:Hid (shareB x0.has (b.bs[m]).has=true->bookB b=false):=HA.out m hml hmk;have lX':Ls wr hv x0.has:=by rw[Hw.out];exact lX
      have l5':Ls wr (.slice a5 (b.bs[m]).has.length d5) (b.bs[m]).has:=by rw[Hw.out];exact l5
      clear r1 l5;generalize b.bs[m]=y0 at *;obtain⟨uv,huv⟩:∃uv,Value.slice a5 y0.has.length d5=uv:=⟨_,rfl⟩;rw[huv] at r1' l5';clear huv;cases hs:shareB x0.has y0.has
      ·have Hs:Hid (ApartTo b.bs (k+1) (m+1)):=HP1.out hs
       have Q3:Hid (∀n,Calls Tryz.prog 106 #[hv,uv] (wr.drewN n) λe w''=>e=.returned (.bool false)/\∃m,w''=wr.drewN m):=λn=>by rw[← hs];exact Calls.quiet_of_same (Aat x0.has y0.has hv uv _ lX'.drewN l5'.drewN)
       go_wp2_with fail
       go_quiet ((go_at_call 106;exact Q3.out _))
       go_wp2_with fail
       go_roundw
       case rel =>
        obtain⟨m',hm'⟩:=L6 (n:=nq) Hw.out;exact⟨m+1,m',by omega,by go_num,Hs.out,hm'⟩
       case measure=>simp[intOf];omega
      ·have Hs:Hid (bookB b=false):=HA1.out hs
       have Q3:Hid (∀n,Calls Tryz.prog 106 #[hv,uv] (wr.drewN n) λe w''=>e=.returned (.bool true)/\∃m,w''=wr.drewN m):=λn=>by rw[← hs];exact Calls.quiet_of_same (Aat x0.has y0.has hv uv _ lX'.drewN l5'.drewN)
       go_wp2_with fail
       go_quiet ((go_at_call 106;exact Q3.out _))
       go_wp2_with fail
       go_ret
       exact⟨D6 Hs.out.symm,D5 hB0 (E7 hBw _)⟩
     ·have Hs:Hid (At11 b (k+1+1)):=AeZ Hal.out Hx.out H4.out (Hap.out.next hmk)
      go_wp2_with fail
      go_roundw
      case rel=>exact⟨k+1+1,by omega,by go_num,Hs.out,hBw⟩
      case measure=>simp[intOf];omega
  ·have Hq:Hid (bookB b=true):=G9 (AlM Hal.out hp Ho.out (by omega))
   go_wp2_with fail
   go_ret
   exact⟨D6 Hq.out.symm,D5 hB0 hB⟩
end Go.Proofs.YtgecdacgmehmbaaGreatDoor
