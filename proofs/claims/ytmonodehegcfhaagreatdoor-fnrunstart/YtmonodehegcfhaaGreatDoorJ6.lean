/- What opening an argument leans on: lists, cells, texts and numbers that can be read. -/
import Derived.Test.YtmonodehegcfhaaGreatDoorRows
import Derived.Test.YtmonodehegcfhaaGreatDoorJ2
import Derived.ProofKit
import Derived.OpenShut
import Derived.OpenVars
import Derived.LaidLaws
import Derived.Lib.LaidTab
import Derived.ChangeBears2
import Derived.Deep.DeepHandedRow
import Derived.Maps.Views
import Derived.Maps.OwnSet
import Derived.Maps.OwnOps
set_option maxRecDepth 100000
set_option maxHeartbeats 2000000
namespace Go.Proofs.YtmonodehegcfhaaGreatDoor
open Go.Proofs.Tryz
open Go.ChangeShapes Go.WideShapes Go.ChangeAt Go.RowKit
variable{x:Ba}{a b s:BA}{bs:List Ba}{all l:List BA}{i k m:Nat}{c:Value}{W w:World}
theorem own:ownKnob prog.godebug=none:=by kernel_rfl
theorem Rn:laidOutB prog=true:=by kernel_rfl
theorem Qo:prog.cellsOf 9=1:=by kernel_rfl
theorem GQ{H:Type}{enc:TypeId×Value->H}{base:Nat}{sp:Nat->Bool}{held:Bool}{fuel:Nat}{y:DataW H×List MemPlace}
  (h:DataW.trod enc prog w base sp held fuel 9 [c]=some y):∃s:BA,c=Tz s/\y=(.lit (.string s.data.toList),[])/\s.size<=maxLen:=by
 obtain⟨s,hc,hy,hs⟩:=DataW.trod_string underlying9 h;simp only[List.cons.injEq,and_true] at hc;exact⟨s,hc,hy,hs⟩
theorem Iy{l:List UInt8}(h:s.data.toList=l):s=⟨l.toArray⟩:=by cases s;simp_all [← h]
theorem Xw{H:Type}{enc:TypeId×Value->H}{sp:Nat->Bool}{n:String}{gs:List (DataW H)}{q:List MemPlace}(h:DataW.TrodVars enc prog W sp [n] gs q):∃g,gs=[g]:=by
 match gs,h with
 | [],h=>exact h.elim
 | [g],_=>exact⟨g,rfl⟩
 | _::_::_,⟨_,_,_,_,_,_,_,_,_,_,h,_⟩=>exact h.elim
theorem gN:prog.globalNamed "loop.example/maltrun/impl.recEndNames"=some 0:=by kernel_rfl
theorem Yq:(prog.globals[0]?).map (·.type)=some 143:=by kernel_rfl
theorem TP:prog.cellsOf 143=3:=by kernel_rfl
def TQ:Array Value:=#[.string ⟨#[103,111,111,100]⟩,.string ⟨#[115,97,118,101,100]⟩,.string ⟨#[115,99,114,97,112,112,101,100]⟩]
theorem Ov(h:laidMet prog [("loop.example/maltrun/impl.recEndNames",Rows.laid_loop_example_maltrun_impl_recEndNames)] W):W.var? prog "loop.example/maltrun/impl.recEndNames"=some TQ:=by
 obtain⟨ps,⟨g,t,cs,a0,p,q,hg,ht,a1,hd,_,_⟩,_⟩:=h;obtain rfl:=A6 (gN.symm.trans hg);obtain rfl:=A6 (Yq.symm.trans ht);rw[a1];congr 1
 obtain⟨l⟩:=cs;cases a0 with
 | zero=>simp[DataW.trod] at hd
 | succ a0 =>
  simp only[DataW.trod,underlying143,TP,Qo] at hd;split at hd
  ·rename_i hl
   obtain⟨c0,c1,c2,rfl⟩:∃c0 c1 c2,l=[c0,c1,c2]:=by
    match l,hl with
    | [a,b,c],_=>exact⟨a,b,c,rfl⟩
   have e:List.range 3=[0,1,2]:=rfl;rw[e] at hd;simp only[B6,List.mapM_cons,List.mapM_nil,Option.bind_eq_bind,Option.bind_eq_some_iff,Option.pure_def,Option.some.injEq] at hd;obtain⟨xs,⟨y0,h0,_,⟨y1,h1,_,⟨y2,h2,_,rfl,rfl⟩,rfl⟩,rfl⟩,hx⟩:=hd;obtain⟨n0,rfl,rfl,_⟩:=GQ h0;obtain⟨n1,rfl,rfl,_⟩:=GQ h1;obtain⟨n2,rfl,rfl,_⟩:=GQ h2;simp[Rows.laid_loop_example_maltrun_impl_recEndNames] at hx;obtain⟨⟨e0,e1,e2⟩,_⟩:=hx;rw[Iy e0,Iy e1,Iy e2];rfl
  ·cases hd
theorem P2.of_laid(h:laidMet prog [("loop.example/maltrun/impl.recEndNames",Rows.laid_loop_example_maltrun_impl_recEndNames)] W):P2 W:=by
 have hv:=Ov h;have hc:=λi=>World.var?_cell gN hv i;refine⟨hc 0,hc 1,hc 2,?_⟩;rcases Nat.lt_or_ge 0 W.heap.size with h'|h'
 ·exact h'
 ·unfold World.var? at hv;rw[gN] at hv;simp only[Option.bind_some] at hv;rw[Array.getElem?_eq_none h'] at hv;cases hv
noncomputable def MX(os:Os):World :=
 {World.holding prog os ⟨#[],#[],[]⟩ with heap:=(World.holding prog os ⟨#[],#[],[]⟩).heap.modify 0 fun
   | .cells _ t frozen=>.cells TQ t frozen
   | o=>o}
end Go.Proofs.YtmonodehegcfhaaGreatDoor
namespace Go.Proofs.YtmonodehegcfhaaGreatDoor
open Go.Proofs.Tryz
open Go.RowKit
variable{x:Ba}{a b s:BA}{bs:List Ba}{all l:List BA}{i k m:Nat}{c:Value}{W w:World}
theorem AJ(s:BA)(w:World)(hs:s.size<=maxLen):
  Calls prog 87 #[Tz s] w λe w'=>e=.returned (.bool (G0 s))/\Up w w':=by
 unfold maxLen at hs;by_cases h1:1<=s.size
 case neg =>
  go_in;go_wp2;go_ret;exact⟨D8 (by simp[G0,h1]),A5 _ _⟩
 by_cases h2:s.size<=8
 case neg =>
  go_in;go_wp2;go_ret;exact⟨D8 (by simp[G0,h2]),A5 _ _⟩
 have hn:Hid (G0 s=AM s.data.toList):=by show G0 s=_;simp[G0,h1,h2]
 go_in;go_wp2_with fail;go_loopw [4] (λ_ w'=>∃a0:Nat,w'=w.iter s a0/\a0<=s.size/\AM (s.data.toList.take a0)=true) (λ_ w'=>s.size-w'.iterPos w.heap.size)
 case atStart=>exact⟨0,rfl,by omega,rfl⟩
 case round =>
  obtain⟨a0,rfl,a4,a1⟩:=hrel;have Hal:Hid (AM (s.data.toList.take a0)=true):=a1;clear a1;by_cases hp:a0<s.size
  ·have a2:∀ty,(Instr.next (Pz w.heap.size 0) true ty).run prog (w.iter s a0)=_:=λty=>run_next_any w s a0 ty hp;by_cases ha:(s[a0]'hp).toNat<128
   ·rw[decode_ascii s a0 hp ha] at a2;by_cases hb:CH (s[a0]'hp).toNat=true
    ·have Hb:Hid (CH (s[a0]'hp).toNat=true):=hb;go_wp2_with (go_at_call 142;refine (Ev _ _).mono ?_;rintro e w' ⟨rfl,rfl⟩)
     go_roundw
     case rel=>exact⟨a0+1,rfl,by omega,by rw[Gq s a0 hp,Hal.out,Hb.out];rfl⟩
     case measure=>simp;omega
    ·have a3:CH (s[a0]'hp).toNat=false:=by simpa using hb
     have Hb:Hid (CH (s[a0]'hp).toNat=false):=a3;clear hb;go_wp2_with (go_at_call 142;refine (Ev _ _).mono ?_;rintro e w' ⟨rfl,rfl⟩)
     go_ret;exact⟨D8 (by rw[hn.out,FK s a0 hp Hb.out]),FL _ _ _⟩
   ·have hi:=decode_high s a0 hp (by omega);have a3:CH (Utf8.decode s a0).1=false:=Io _ hi.1;have Hb:Hid (CH (s[a0]'hp).toNat=false):=Io _ (by omega);clear hi;go_wp2_with (go_at_call 142;refine (Ev _ _).mono ?_;rintro e w' ⟨rfl,rfl⟩)
    go_ret;exact⟨D8 (by rw[hn.out,FK s a0 hp Hb.out]),FL _ _ _⟩
  ·have a2:∀ty,(Instr.next (Pz w.heap.size 0) true ty).run prog (w.iter s a0)=_:=λty=>run_next_end w s a0 ty hp;go_wp2;go_ret;exact⟨D8 (by rw[hn.out,Ip s a0 hp Hal.out]),FL _ _ _⟩
theorem Se(ss:List BA)(v:Value)(s:BA)(w:World)(h:Ls w v ss):
  Calls prog 182 #[v,Tz s] w λe w'=>e=.returned (Iz (T5 ss s))/\w'=w:=by
 obtain⟨a,c,rfl,hn,-,a0⟩:=h;unfold maxLen at hn;go_in;go_wp2;go_loop [8] (λi=>∃k:Nat,k<=ss.length/\i=.int .i64 k/\E3 (ss.take k) s=false) (λi=>ss.length-(intOf i).toNat)
 case atStart=>exact⟨0,by omega,rfl,rfl⟩
 case round =>
  obtain⟨k,hk,rfl,a1⟩:=hrel;have Hal:Hid (E3 (ss.take k) s=false):=a1;clear a1;by_cases hp:k<ss.length
  ·obtain⟨b,o,rfl,hS,hb⟩:=a0 (by omega);have c0:=hS.cell hp;cases hq:(s.toList==(ss[k]).toList)
   ·have Hq:Hid (((ss[k]).toList==s.toList)=false):=by show _=_;rw[It];exact hq
    go_wp2;go_round
    case rel=>exact⟨k+1,by omega,by go_num,Ff hp Hal.out Hq.out⟩
    case measure=>simp[intOf];omega
   ·have Hq:Hid (((ss[k]).toList==s.toList)=true):=by show _=_;rw[It];exact hq
    go_wp2;go_ret;exact⟨U5 (Cq hp Hal.out Hq.out).symm,rfl⟩
  ·go_wp2;go_ret;exact⟨U5 (AN (FP hp Hal.out)).symm,rfl⟩
theorem Jv(ss:List BA)(v:Value)(s:BA)(w:World)(h:Ls w v ss):
  Calls prog 149 #[v,Tz s] w λe w'=>e=.returned (.bool (E3 ss s))/\w'=w:=by
 obtain⟨a,c,rfl,-⟩:=id h;go_in;go_wp2_with (go_at_call 182;refine Sx (Se ss _ _ _ h) ?_)
 all_goals
  go_ret;refine⟨D8 ?_,rfl⟩;rw[← KV];try simp_all
theorem Ro(ss:List BA)(u:Value)(w:World)(h:Ls w u ss):
  Calls prog 150 #[u] w λe w'=>e=.returned (.bool (pB (Ad ss)))/\Up w w':=by
 obtain⟨a,c,rfl,hn,-,a1⟩:=h;unfold maxLen at hn;go_in;go_wp2;go_loopw [3] (λi w'=>∃k:Nat,(k+1<=ss.length∨k=0)/\i=.int .i64 (k+1)/\Y9 ss (k+1)/\Up w w') (λi _=>ss.length-(intOf i).toNat)
 case atStart=>exact⟨0,.inr rfl,rfl,Y9.one _,A5 _ _⟩
 case round =>
  obtain⟨k,hk,rfl,a0,hB⟩:=hrel;have Hasc:Hid (Y9 ss (k+1)):=a0;clear a0;by_cases hp:k+1<ss.length
  ·obtain⟨b,o,rfl,hS,hb⟩:=a1 (by omega);have c0:=(hS.up hB hb).cell hp;have c1:=(hS.up hB hb).cell (k:=k) (by omega);clear hk;cases hl:T6 ss[k] ss[k+1]
   ·have Hl:Hid (¬Ad ss):=λh=>by rw[Ok h hp] at hl;cases hl
    unfold T6 at hl;go_wp2_with fail;go_quiet (fail);go_wp2;go_ret;exact⟨D8 (I5 Hl.out).symm,G4 hB _⟩
   ·have Hl:Hid (Y9 ss (k+2)):=Hasc.out.step hp hl;unfold T6 at hl;go_wp2_with fail;go_quiet (fail);go_wp2;go_roundw
    case rel=>exact⟨k+1,.inl (by omega),by go_num,Hl.out,G4 hB _⟩
    case measure=>simp[intOf];omega
  ·go_wp2;go_ret;exact⟨D8 (L9 (Kq Hasc.out hp)).symm,hB⟩
theorem GR(ss:List BA)(u:Value)(w:World)(h:Ls w u ss):
  Calls prog 191 #[u] w λe w'=>e=.returned (.bool (pB (Dc ss/\Ad ss)))/\Up w w':=by
 have h0:=h;obtain⟨a,c,rfl,hn,hz,a1⟩:=h;unfold maxLen at hn;go_in;go_wp2;go_loopw [4,7] (λ_ i w'=>∃k:Nat,k<=ss.length/\i=.int .i64 k/\Aa ss k/\Up w w') (λ_ i _=>ss.length-(intOf i).toNat)
 case atStart=>exact⟨0,by omega,rfl,Aa.zero _,A5 _ _⟩
 case round =>
  obtain⟨k,hk,rfl,a2,hB⟩:=hrel;have Hal:Hid (Aa ss k):=a2;clear a2;by_cases hp:k<ss.length
  ·obtain⟨b,o,rfl,hS,hb⟩:=a1 (by omega);have c0:=(hS.up hB hb).cell hp;have z0:=hz ss[k] (by simp);cases hq:G0 ss[k]
   ·have Hq:Hid (¬(Dc ss/\Ad ss)):=λh=>by rw[KU h.1 hp] at hq;cases hq
    go_wp2_with (go_at_call 87;refine (AJ _ _ z0).mono ?_;rintro e w1 ⟨rfl,a0⟩;(first|replace hB:=D5 hB a0|have hB:=a0);clear a0;(try clear hc hf);obtain⟨hc,hf⟩:=G9 hB)
    go_ret;exact⟨D8 (I5 Hq.out).symm,hB⟩
   ·have Hq:Hid (Aa ss (k+1)):=Hal.out.step hp hq;go_wp2_with (go_at_call 87;refine (AJ _ _ z0).mono ?_;rintro e w1 ⟨rfl,a0⟩;(first|replace hB:=D5 hB a0|have hB:=a0);clear a0;(try clear hc hf);obtain⟨hc,hf⟩:=G9 hB)
    go_roundw
    case rel=>exact⟨k+1,by omega,by go_num,Hq.out,hB⟩
    case measure=>simp[intOf];omega
  ·have Hq:Hid (Dc ss):=JG Hal.out hp
   have Hp:Hid (pB (Dc ss/\Ad ss)=pB (Ad ss)):=by
    show _=_
    have:=Hq.out;unfold pB;simp[this]
   go_wp2_with (go_at_call 150;refine (Ro ss _ _ (h0.up hB)).mono ?_;rintro e w1 ⟨rfl,a0⟩;(first|replace hB:=D5 hB a0|have hB:=a0);clear a0;(try clear hc hf);obtain⟨hc,hf⟩:=G9 hB)
   go_ret;exact⟨D8 Hp.out.symm,hB⟩
theorem De(ss all:List BA)(u v:Value)(w:World)(h:Ls w u ss)(h2:Ls w v all):
  Calls prog 96 #[u,v] w λe w'=>e=.returned (.bool (pB (I4 ss all)))/\Up w w':=by
 have h0:=h;obtain⟨a,c,rfl,hn,hz,a0⟩:=h;obtain⟨a2,c2,rfl,-⟩:=id h2;unfold maxLen at hn;go_in;go_wp2;go_loopw [6,9] (λ_ i w'=>∃k:Nat,k<=ss.length/\i=.int .i64 k/\Ak ss all k/\Up w w') (λ_ i _=>ss.length-(intOf i).toNat)
 case atStart=>exact⟨0,by omega,rfl,Ak.zero _ _,A5 _ _⟩
 case round =>
  obtain⟨k,hk,rfl,a3,hB⟩:=hrel;have Hal:Hid (Ak ss all k):=a3;clear a3;by_cases hp:k<ss.length
  ·obtain⟨b,o,rfl,hS,hb⟩:=a0 (by omega);have c0:=(hS.up hB hb).cell hp;cases hq:E3 all ss[k]
   ·have Hq:Hid (¬I4 ss all):=λh=>by rw[Kr h.1 hp] at hq;cases hq
    go_wp2_with (go_at_call 149;refine Sx (Jv all _ _ _ (h2.up hB)) ?_)
    go_ret;exact⟨D8 (I5 Hq.out).symm,hB⟩
   ·have Hq:Hid (Ak ss all (k+1)):=Hal.out.step hp hq;go_wp2_with (go_at_call 149;refine Sx (Jv all _ _ _ (h2.up hB)) ?_)
    go_roundw
    case rel=>exact⟨k+1,by omega,by go_num,Hq.out,hB⟩
    case measure=>simp[intOf];omega
  ·have Hq:Hid (BZ ss all):=KT Hal.out hp
   have Hp:Hid (pB (I4 ss all)=pB (Ad ss)):=by
    show _=_
    have:=Hq.out;unfold pB I4;simp[this]
   go_wp2_with (go_at_call 150;refine (Ro ss _ _ (h0.up hB)).mono ?_;rintro e w1 ⟨rfl,a1⟩;(first|replace hB:=D5 hB a1|have hB:=a1);clear a1;(try clear hc hf);obtain⟨hc,hf⟩:=G9 hB)
   go_ret;exact⟨D8 Hp.out.symm,hB⟩
theorem Qp(x:Ba)(tg:List BA)(hv nv tv:Value)(w:World)(h1:Ls w hv x.has)(h2:Ls w nv x.nj)(h3:Ls w tv tg):
  Calls prog 192 #[.agg #[Tz x.nm,hv,nv],tv] w λe w'=>e=.returned (.bool (pB (FR tg x)))/\Up w w':=by
 obtain⟨a1,c1,rfl,-⟩:=id h1;obtain⟨a2,c2,rfl,-⟩:=id h2;obtain⟨a3,c3,rfl,-⟩:=id h3;have hC:CB (w.alloc (Kz [Tz x.nm,Vz a1 x.has.length c1,Vz a2 x.nj.length c2] 115)) w.heap.size [Tz x.nm,Vz a1 x.has.length c1,Vz a2 x.nj.length c2]:=F3 w _ _;have a4:=(A5 w.heap.size w).alloc (A4 _) (Kz [Tz x.nm,Vz a1 x.has.length c1,Vz a2 x.nj.length c2] 115);go_in;go_upto_region 1 with fail;generalize w.alloc (Kz [Tz x.nm,Vz a1 x.has.length c1,Vz a2 x.nj.length c2] 115)=W1 at *;obtain⟨⟨d0,d1,d2⟩,-⟩:=hC.c3;have a5:=hC.2.2;have l1:=h1.up a4;have l2:=h2.up a4;have l3:=h3.up a4;have hB:Up W1 W1:=A5 _ _;obtain⟨hc,hf⟩:=G9 hB;cases hq:pB (I4 x.nj tg)
 ·have Hq:Hid (pB (FR tg x)=false):=I5 λh=>S1.1 hq h.1;go_wp2_with (go_at_call 96;refine (De x.nj tg _ _ _ (l2.up hB) (l3.up hB)).mono ?_;rintro e w1 ⟨rfl,a0⟩;(first|replace hB:=D5 hB a0|have hB:=a0);clear a0;(try clear hc hf);obtain⟨hc,hf⟩:=G9 hB)
  go_ret;exact⟨D8 Hq.out.symm,D5 a4 hB⟩
 ·have Hq:Hid (pB (FR tg x)=pB (I4 x.has x.nj)):=by
   show _=_
   have:=K5.1 hq;unfold pB FR;simp[this]
  go_wp2_with (first|(revert hq;intro hq;(go_at_call 96;refine (De x.nj tg _ _ _ (l2.up hB) (l3.up hB)).mono ?_;rintro e w1 ⟨rfl,a0⟩;(first|replace hB:=D5 hB a0|have hB:=a0);clear a0;(try clear hc hf);obtain⟨hc,hf⟩:=G9 hB);clear l3)|(go_at_call 96;refine (De x.has x.nj _ _ _ (l1.up hB) (l2.up hB)).mono ?_;rintro e w1 ⟨rfl,a0⟩;(first|replace hB:=D5 hB a0|have hB:=a0);clear a0;(try clear hc hf);obtain⟨hc,hf⟩:=G9 hB))
  go_ret;exact⟨D8 Hq.out.symm,D5 a4 hB⟩
end Go.Proofs.YtmonodehegcfhaaGreatDoor
namespace Go.Proofs.YtmonodehegcfhaaGreatDoor
open Go.Proofs.Tryz
open Go.Maps
variable{x:Ba}{a b s:BA}{bs:List Ba}{all l:List BA}{i k m:Nat}{c:Value}{W w:World}
theorem Xm:∀(x y:List UInt8),Op.bytesLess x y=decide (x<y)
 | [],[]=>by simp[Op.bytesLess]
 | _::_,[]=>by simp[Op.bytesLess]
 | [],_::_=>by simp[Op.bytesLess]
 | a::x,b::y=>by
  rw[Op.bytesLess,Xm x y];simp only[List.cons_lt_cons_iff];by_cases h1:a<b<;>by_cases h2:a=b<;>by_cases h3:x<y<;>simp[h1,h2,h3]
theorem Hu(a b:BA):T6 a b=true↔a.toList<b.toList:=by rw[T6,Xm];simp
theorem DS{c:BA}(h:T6 a b=true)(k:T6 b c=true):T6 a c=true:=by
 rw[Hu] at *;exact List.lt_trans h k
theorem BH(a:BA):T6 a a=false:=by
 rw[← Bool.not_eq_true,Hu];exact List.lt_irrefl _
theorem Ca{l:List BA}(h:Ad l):∀(d i:Nat)(a b:BA),l[i]?=some a->l[i+1+d]?=some b->T6 a b=true
 | 0,i,a,b,ha,hb=>h i a b (A3.1 hb).1 ha hb
 | d+1,i,a,b,ha,hb=>by
  have hl:i+1+(d+1)<l.length:=(A3.1 hb).1;have hm:l[i+1]?=some l[i+1]:=A0 (by omega);exact DS (h i a _ (by omega) ha hm) (Ca h d (i+1) _ b hm (by rw[show i+1+1+d=i+1+(d+1) by omega];exact hb))
theorem Fh(h:Ad l){j:Nat}(hi:l[i]?=some a)(hj:l[j]?=some a):i=j:=by
 rcases Nat.lt_trichotomy i j with h1|h1|h1
 ·have:=Ca h (j-i-1) i a a hi (by rw[show i+1+(j-i-1)=j by omega];exact hj);rw[BH] at this;cases this
 ·exact h1
 ·have:=Ca h (i-j-1) j a a hj (by rw[show j+1+(i-j-1)=i by omega];exact hi);rw[BH] at this;cases this
theorem Ew:∀(l m:List BA),(∀(i j:Nat)(a:BA),l[i]?=some a->l[j]?=some a->i=j)->(∀s∈l,s∈m)->l.length<=m.length
 | [],m,_,_=>by simp
 | x::r,m,hd,hs=>by
  have hx:x∈m:=hs x (by simp);obtain⟨m1,m2,rfl⟩:=List.append_of_mem hx
  have:=Ew r (m1++m2) (λi j a hi hj=>by
   have:=hd (i+1) (j+1) a (by simpa using hi) (by simpa using hj);omega) (λs h=>by
   have h1:=hs s (by simp[h]);rcases D0.1 h1 with h2|h2
   ·simp[h2]
   ·rcases List.mem_cons.1 h2 with h3|h3
    ·subst h3;obtain⟨i,hi,e⟩:=B7 h;have:=hd 0 (i+1) s (by simp) (by simp[A0 hi,e]);omega
    ·simp[h3])
  simp at this ⊢;omega
theorem V8(h:I4 l all):l.length<=all.length:=Ew l all (λ_ _ _ hi hj=>Fh h.2 hi hj) (λ_ hs=>FQ h.1 hs)
def kl(s:BA):Lit:=.string s.data.toList
theorem TR(h:kl a=kl b):a=b:=by
 simp only[kl,Lit.string.injEq] at h;cases a;cases b;simp at h;rw[h]
theorem Ox(s:BA):WideAt.IsKeyLit (kl s):=trivial
def BU(bs:List Ba)(k m:Nat)(s:BA)(i:Nat):Prop:=∃x,bs[i]?=some x/\(i<k/\s∈x.has∨i=k/\s∈x.has.take m)
def U2(D:DataW Unit)(bs:List Ba)(k m:Nat):Prop:=IsMap D/\(∀s,Maps.has D (kl s)=true->∃i,BU bs k m s i)/\(∀s i,BU bs k m s i->Maps.has D (kl s)=true/\∀z,D.atKey (kl s) z=.lit (.int .i64 (i:Int)))
theorem U2.start(bs:List Ba):U2 (.map []) bs 0 0:=by
 refine⟨isMap_empty,λs h=>by simp[Maps.has] at h,λs i h=>?_⟩;obtain⟨x,_,h|h⟩:=h
 ·omega
 ·simp at h
theorem BU.up(h:BU bs k m s i):BU bs k (m+1) s i:=by
 obtain⟨x,hx,h|⟨h1,h2⟩⟩:=h
 ·exact⟨x,hx,.inl h⟩
 ·refine⟨x,hx,.inr ⟨h1,?_⟩⟩;rw[List.mem_take_iff_getElem] at h2 ⊢
  obtain⟨j,hj,e⟩:=h2;exact⟨j,by omega,e⟩
theorem BU.new(hk:k<bs.length)(hm:m<(bs[k]).has.length):BU bs k (m+1) ((bs[k]).has[m]) k :=
 ⟨bs[k],A0 hk,.inr ⟨rfl,by rw[List.mem_take_iff_getElem];exact⟨m,by omega,rfl⟩⟩⟩
theorem BU.split(hk:k<bs.length)(hm:m<(bs[k]).has.length)(h:BU bs k (m+1) s i):BU bs k m s i∨(i=k/\s=(bs[k]).has[m]):=by
 obtain⟨x,hx,h|⟨rfl,h2⟩⟩:=h
 ·exact .inl ⟨x,hx,.inl h⟩
 ·rw[A0 hk] at hx;obtain rfl:=A6 hx;rw[A8 hm] at h2;rcases D0.1 h2 with h3|h3
  ·exact .inl ⟨_,A0 hk,.inr ⟨rfl,h3⟩⟩
  ·exact .inr ⟨rfl,by simpa using h3⟩
theorem U2.step{D:DataW Unit}(h:U2 D bs k m)(hk:k<bs.length)(hm:m<(bs[k]).has.length)(hn:Maps.has D (kl ((bs[k]).has[m]))=false):
  U2 (D.put (kl ((bs[k]).has[m])) (.lit (.int .i64 (k:Int)))) bs k (m+1):=by
 obtain⟨h1,h2,h3⟩:=h;refine⟨h1.put _ _,λs hs=>?_,λs i hi=>?_⟩
 ·by_cases e:kl s=kl ((bs[k]).has[m])
  ·obtain rfl:=TR e;exact⟨k,BU.new hk hm⟩
  ·rw[has_put_other e] at hs;obtain⟨i,hi⟩:=h2 s hs;exact⟨i,hi.up⟩
 ·rcases hi.split hk hm with h4|⟨rfl,rfl⟩
  ·have e:kl s≠kl ((bs[k]).has[m]):=λe=>by
    have:=(h3 s i h4).1;rw[e,hn] at this;cases this
   exact⟨by rw[has_put_other e];exact (h3 s i h4).1,λz=>by rw[atKey_put_other e];exact (h3 s i h4).2 z⟩
  ·exact⟨has_put_same h1 (Ox _) _,λz=>atKey_put_same h1 (Ox _) _ z⟩
theorem BU.next(hk:k<bs.length)(hm:¬m<(bs[k]).has.length):BU bs k m s i↔BU bs (k+1) 0 s i:=by
 constructor
 ·rintro⟨x,hx,h|⟨rfl,h2⟩⟩
  ·exact⟨x,hx,.inl ⟨by omega,h.2⟩⟩
  ·exact⟨x,hx,.inl ⟨by omega,List.mem_of_mem_take h2⟩⟩
 ·rintro⟨x,hx,h|⟨_,h2⟩⟩
  ·by_cases e:i=k
   ·subst e;rw[A0 hk] at hx;obtain rfl:=A6 hx;exact⟨_,A0 hk,.inr ⟨rfl,by rw[D2 (by omega)];exact h.2⟩⟩
   ·exact⟨x,hx,.inl ⟨by omega,h.2⟩⟩
  ·simp at h2
theorem U2.next{D:DataW Unit}(h:U2 D bs k m)(hk:k<bs.length)(hm:¬m<(bs[k]).has.length):U2 D bs (k+1) 0 :=
 ⟨h.1,λs hs=>by obtain⟨i,hi⟩:=h.2.1 s hs;exact⟨i,(BU.next hk hm).1 hi⟩,λs i hi=>h.2.2 s i ((BU.next hk hm).2 hi)⟩
theorem U2.twice{D:DataW Unit}(h:U2 D bs k m)(hk:k<bs.length)(hm:m<(bs[k]).has.length)(hd:Ad (bs[k]).has)(hn:Maps.has D (kl ((bs[k]).has[m]))=true):¬Cp bs:=λha=>by
 obtain⟨i,x,hx,h4|⟨rfl,h4⟩⟩:=h.2.1 _ hn
 ·have hi:i<bs.length:=(A3.1 hx).1;have:=ha.at hk h4.1;rw[Z9] at this;rw[A0 hi] at hx;obtain rfl:=A6 hx;exact this _ (List.getElem_mem hm) h4.2
 ·rw[A0 hk] at hx;obtain rfl:=A6 hx;rw[List.mem_take_iff_getElem] at h4;obtain⟨j,hj,e⟩:=h4;have:=Fh hd (i:=j) (j:=m) (A0 (by omega)) (by rw[e];exact A0 hm);omega
theorem U2.apart{D:DataW Unit}(h:U2 D bs k 0)(hk:¬k<bs.length):Cp bs:=λi j x y hji hi hx hy=>by
 have li:=(A3.1 hx).1;have lj:=(A3.1 hy).1;rw[Z9];intro s h1 h2;have e1:=(h.2.2 s i ⟨x,hx,.inl ⟨by omega,h1⟩⟩).2 .nil;have e2:=(h.2.2 s j ⟨y,hy,.inl ⟨by omega,h2⟩⟩).2 .nil;rw[e1] at e2;simp at e2;omega
theorem U2.who{D:DataW Unit}(h:U2 D bs k 0)(hs:Maps.has D (kl s)=true):∃(i:Nat)(hi:i<bs.length),(∀z,D.atKey (kl s) z=.lit (.int .i64 (i:Int)))/\Dq bs s=(bs[i]).nm:=by
 obtain⟨i,hi⟩:=h.2.1 s hs;have hz:=(h.2.2 s i hi).2;obtain⟨x,hx,h4|⟨_,h4⟩⟩:=hi
 ·have li:=(A3.1 hx).1;refine⟨i,li,hz,Rj li (λj y hj hy=>?_) ?_⟩
  ·rw[U6];intro h5;have:=(h.2.2 s j ⟨y,hy,.inl ⟨by omega,h5⟩⟩).2 .nil;rw[hz] at this;simp at this;omega
  ·rw[S5];rw[A0 li] at hx;obtain rfl:=A6 hx;exact h4.2
 ·simp at h4
theorem U2.whoNone{D:DataW Unit}(h:U2 D bs k 0)(hk:¬k<bs.length)(hs:Maps.has D (kl s)=false):Dq bs s=⟨#[]⟩ :=
 TC hk λi x hi hx=>by
  rw[U6];intro h5;have:=(h.2.2 s i ⟨x,hx,.inl ⟨hi,h5⟩⟩).1;rw[hs] at this;cases this
end Go.Proofs.YtmonodehegcfhaaGreatDoor
namespace Go.Proofs.YtmonodehegcfhaaGreatDoor
open Go.Proofs.Tryz
open Go.RowKit Go.Maps
variable{x:Ba}{a b s:BA}{bs:List Ba}{all l:List BA}{i k m:Nat}{c:Value}{W w:World}
theorem VP(bs:List Ba)(k:Nat)(hk:k<bs.length):G7 (bs.take (k+1))=G7 (bs.take k)++[(bs[k]).nm]:=by
 rw[Ol,Ol,A8 (by rw[L8];exact hk),Au bs k hk]
theorem Iu.batch{b o:Nat}(h:Iu w b o x):x.nm.size<=maxLen:=by
 obtain⟨_,_,_,_,_,h3⟩:=h;exact h3
theorem Df(bs:List Ba)(v:Value)(w:World)(h:Bs w v bs)(hn:bs.length<=1048576):
  Calls prog 91 #[v] w λe w'=>(∃u,e=.returned u/\F7 w' w.heap.size u (G7 bs)/\Ls w' u (G7 bs))/\Up w w':=by
 obtain⟨a,c,rfl,-,a5⟩:=h;obtain⟨ii,hi,a8,a9,b0⟩:=info_parts V7;go_in;go_wp2_with fail;go_loopw [3,5,8] (λu _ i w'=>∃k:Nat,k<=bs.length/\i=.int .i64 k/\w'.ownsRow w.heap.size 9 1 u k ((G7 (bs.take k)).map Value.string)/\Up w w') (λ_ _ i _=>bs.length-(intOf i).toNat)
 case atStart=>exact⟨0,by omega,rfl,⟨by simp[G7],.inl ⟨rfl,rfl⟩⟩,A5 _ _⟩
 case round =>
  obtain⟨k,hk,rfl,a3,hB⟩:=hrel;by_cases hp:k<bs.length
  ·obtain⟨b,o,rfl,hS,hb⟩:=a5 (by omega);obtain⟨a1,d1,a2,d2,c0,c1,c2,l1,l2,z0⟩:=((hS.at hp).up hB hb).cells
   have Hs:Hid ((G7 (bs.take (k+1))).map Value.string=(G7 (bs.take k)).map Value.string++[Tz (bs[k]).nm]):=by
    show _=_
    rw[VP bs k hp,List.map_append];rfl
   generalize bs[k]=x0 at *;clear l1 l2 hS;have a6:=hB.alloc hB.size (Kz [Tz (x0).nm,Vz a1 (x0).has.length d1,Vz a2 (x0).nj.length d2] 115);have a4:=E4 a3 ((A5 wr.heap.size wr).alloc (A4 _) (Kz [Tz (x0).nm,Vz a1 (x0).has.length d1,Vz a2 (x0).nj.length d2] 115));have hC:CB (wr.alloc (Kz [Tz (x0).nm,Vz a1 (x0).has.length d1,Vz a2 (x0).nj.length d2] 115)) wr.heap.size [Tz x0.nm,Vz a1 x0.has.length d1,Vz a2 x0.nj.length d2]:=F3 wr _ _;have hz:=hB.size;go_upto_region 5 with fail;generalize wr.alloc (Kz [Tz (x0).nm,Vz a1 (x0).has.length d1,Vz a2 (x0).nj.length d2] 115)=W1 at *;obtain⟨⟨e0,-⟩,-⟩:=hC.c3;clear c0 c1 c2 a3 hB;have a0:=E4 a4 ((A5 W1.heap.size W1).alloc (A4 _) (Kz [Tz x0.nm] 9));have a7:=a6.alloc a6.size (Kz [Tz x0.nm] 9);go_wp2_with (at_builtin;refine wpList_append_own _ rfl _ _ 118 rfl w.heap.size 9 ii _ 1 16 underlying118 hi a8 a9 b0 rfl (by decide) _ _ _ rfl a0 ⟨W1.heap.size,0,none⟩ 1 1 [Tz x0.nm] rfl rfl (AD _ _ _) (DG _) (by unfold maxLen;omega) (by omega) a7.size ?_)
   intro v1 w1 hown3 hgrow3 _;rw[← Hs.out] at hown3;have b1:=M1 a7 a0 hgrow3 (A4 _);clear a4 a0 hgrow3 a6 a7 hC e0;go_wp2_with fail;go_roundw
   case rel=>exact⟨k+1,by omega,by go_num,hown3,b1⟩
   case measure=>simp[intOf];omega
  ·have hz:∀s∈G7 bs,s.size<=maxLen:=λs hs=>by
    obtain⟨x,hx,rfl⟩:=List.mem_map.1 hs;obtain⟨i,hi,rfl⟩:=B7 hx;obtain⟨b,o,rfl,hS,hb⟩:=a5 (by omega);exact (hS.at hi).batch
   have Ho:Hid (∀u,wr.ownsRow w.heap.size 9 1 u k ((G7 (bs.take k)).map Value.string)->F7 wr w.heap.size u (G7 bs)):=λu h=>by
    obtain rfl:k=bs.length:=by omega
    rw[List.take_length] at h;unfold F7;rw[L8];exact h
   have Hz:Hid (∀s∈G7 bs,s.size<=maxLen):=hz;clear hz;go_wp2_with fail;go_ret;exact⟨⟨_,rfl,Ho.out _ a3,(Ho.out _ a3).lst.ls Hz.out⟩,hB⟩
theorem JK:Keyed prog 9:=string_keyed underlying9
theorem Ks(w:World):(zeroValue 3).run prog w=.ok (Iz 0) w:=by kernel_rfl
abbrev Sf (w:World) (M n:Nat) (D:DataW Unit):Prop:=w.ownsMap prog 9 (plainElem prog 3) M n D
theorem KI(bs:List Ba)(v:Value)(w:World)(h:Bs w v bs)(hn:bs.length<=5)(h8:∀x∈bs,Ad x.has/\x.has.length<=8):
  Calls prog 193 #[v] w λe w' =>
   ((Cp bs/\∃M n D,e=.returned (.tuple #[.map (some M),.bool true])/\Sf w' M n D/\U2 D bs bs.length 0/\w.heap.size<=M)∨(¬Cp bs/\e=.returned (.tuple #[.map none,.bool false])))/\Up w w':=by
 obtain⟨a,c,rfl,-,a6⟩:=h;have b3:=@run_makeMap prog;go_in;go_wp2_with fail;go_loopw [5,6,8,9,10,14] (λ_ _ _ _ _ i w'=>∃(k:Nat)(D:DataW Unit),k<=bs.length/\i=.int .i64 k/\Sf w' w.heap.size (k*8) D/\U2 D bs k 0/\Up w w') (λ_ _ _ _ _ i _=>bs.length-(intOf i).toNat)
 case atStart=>exact⟨0,_,by omega,rfl,World.ownsMap_made _ _ _ _,U2.start bs,(A5 _ _).alloc (A4 _) _⟩
 case round =>
  obtain⟨k,D,hk,rfl,a0,hD,hB⟩:=hrel;have HD:Hid (U2 D bs k 0):=hD;clear hD;by_cases hp:k<bs.length
  ·obtain⟨b,o,rfl,hS,hb⟩:=a6 (by omega);obtain⟨a1,d1,a2,d2,c0,c1,c2,l1,-,-⟩:=(hS.at hp).cells;obtain⟨a7,b2⟩:=h8 bs[k] (by simp)
   have HS:Hid (∀(D:DataW Unit)(m:Nat)(s:BA),(bs[k]).has[m]?=some s->U2 D bs k m->Maps.has D (kl s)=false->U2 (D.put (kl s) (.lit (.int .i64 (k:Int)))) bs k (m+1)):=λD m s hs h hn=>by
    obtain⟨hm,rfl⟩:=A3.1 hs;exact h.step hp hm hn
   have HT:Hid (∀(D:DataW Unit)(m:Nat)(s:BA),(bs[k]).has[m]?=some s->U2 D bs k m->Maps.has D (kl s)=true->¬Cp bs):=λD m s hs h hn=>by
    obtain⟨hm,rfl⟩:=A3.1 hs;exact h.twice hp hm a7 hn
   have HN:Hid (∀(D:DataW Unit)(m:Nat),¬m<(bs[k]).has.length->U2 D bs k m->U2 D bs (k+1) 0):=λD m hm h=>h.next hp hm;obtain⟨-,hz,a8⟩:=l1.inv;clear a7 l1;generalize bs[k]=x0 at *;obtain⟨hc,hf⟩:=G9 hB;have a5:=hB.alloc hB.size (Kz [Tz (x0).nm,Vz a1 (x0).has.length d1,Vz a2 (x0).nj.length d2] 115);have a3:=a0.alloc (Kz [Tz (x0).nm,Vz a1 (x0).has.length d1,Vz a2 (x0).nj.length d2] 115);have hC:CB (wr.alloc (Kz [Tz (x0).nm,Vz a1 (x0).has.length d1,Vz a2 (x0).nj.length d2] 115)) wr.heap.size [Tz x0.nm,Vz a1 x0.has.length d1,Vz a2 x0.nj.length d2]:=F3 wr _ _;have b4:=hB.size;go_upto_region 5 with fail;generalize wr.alloc (Kz [Tz (x0).nm,Vz a1 (x0).has.length d1,Vz a2 (x0).nj.length d2] 115)=W1 at *;obtain⟨⟨e0,e1,e2⟩,-⟩:=hC.c3;clear c0 c1 c2 hc hf a0 hB hS;go_wp2_with fail;clear e0 e1 e2 hC;go_loopw [8,9,10,22] (λ_ _ _ j w'=>∃(m:Nat)(D':DataW Unit),m<=x0.has.length/\j=.int .i64 m/\Sf w' w.heap.size (k*8+m) D'/\U2 D' bs k m/\Up w w') (λ_ _ _ j _=>x0.has.length-(intOf j).toNat)
   case atStart=>exact⟨0,D,by omega,rfl,a3,HD.out,a5⟩
   case round =>
    clear a5 a3 HD;obtain⟨m,D',hm,rfl,a0,hD,hB⟩:=hrel;have HD:Hid (U2 D' bs k m):=hD;clear hD;by_cases hq:m<x0.has.length
    ·obtain⟨b1,o1,rfl,a9,b0⟩:=a8 (by omega);have c0:=(hB.cell (p:=⟨b1,o1+m,none⟩) b0).trans (a9.cell hq);have z0:=hz x0.has[m] (by simp);have hx:=A0 hq;generalize x0.has[m]=s at *;have Hy:Hid (Maps.has D' (kl s)=false->U2 (D'.put (kl s) (.lit (.int .i64 (k:Int)))) bs k (m+1)):=HS.out D' m s hx HD.out;have Ht:Hid (Maps.has D' (kl s)=true->¬Cp bs):=HT.out D' m s hx HD.out;have a4:keyOf prog 9 (Tz s)=some (kl s):=WideMaps.keyOf_string_mk underlying9 z0;clear HS HT HN hx HD;cases ht:Maps.has D' (kl s)
     ·go_wp2_with (first
       | (at_lookup;refine wpList_lookup_own_ok_int _ rfl _ _ 262 rfl 9 3 .i64 JK underlying262 underlying3 (Ks _) w.heap.size (k*8+m) D' rfl a0 _ _ rfl a4 ?_;intro cc _ _)
       | (at_mapUpdate;refine wpList_mapUpdate_own _ rfl _ _ _ 262 rfl 9 3 JK underlying262 _ w.heap.size (k*8+m) D' rfl a0 (by unfold maxLen;omega) _ _ _ rfl rfl a4 _ [] (plainElem_int underlying3 (WalkArith.wf_i64 (by omega))) ?_;intro w1 hown1 hgrow1))
      have HD1:Hid (U2 (D'.put (kl s) (.lit (.int .i64 (k:Int)))) bs k (m+1)):=Hy.out ht;have a5:=CK hB hgrow1 (A4 _);clear Hy Ht hgrow1 a0 hB c0;go_wp2_with fail;go_roundw
      case rel=>exact⟨m+1,_,by omega,by go_num,hown1,HD1.out,a5⟩
      case measure=>simp[intOf];omega
     ·go_wp2_with (first
       | (at_lookup;refine wpList_lookup_own_ok_int _ rfl _ _ 262 rfl 9 3 .i64 JK underlying262 underlying3 (Ks _) w.heap.size (k*8+m) D' rfl a0 _ _ rfl a4 ?_;intro cc _ _))
      go_returns
      exact⟨.inr ⟨Ht.out ht,rfl⟩,hB⟩
    ·go_wp2_with fail;go_roundw
     case rel=>exact⟨k+1,D',by omega,by go_num,a0.mono (by omega),HN.out D' m hq HD.out,hB⟩
     case measure=>simp[intOf];omega
  ·have Hk:Hid (k=bs.length):=by show _=_;omega
   go_wp2_with fail;go_returns
   exact⟨.inl ⟨HD.out.apart hp,_,_,D,rfl,a0,by rw[← Hk.out];exact HD.out,A4 _⟩,hB⟩
end Go.Proofs.YtmonodehegcfhaaGreatDoor
