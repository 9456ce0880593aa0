/- The program's slots of a batch: a map while a call lasts, the things of slots (chapter 21). -/
import Derived.Test.YtmonodehegcfhaaGreatDoorJ12
import Derived.Test.YtmonodehegcfhaaGreatDoorJ11
import Derived.Maps.OwnSet
import Derived.Maps.OwnOps
import Derived.Deep.RegionHeld
import Derived.Test.YtmonodehegcfhaaGreatDoorJ8
import Derived.Test.YtmonodehegcfhaaGreatDoorJ7
import Derived.Laws.OwnMore
set_option maxRecDepth 100000
set_option maxHeartbeats 4000000
namespace Go.Proofs.YtmonodehegcfhaaGreatDoor
open Go.Proofs.Tryz
open Go.RowKit Go.Maps Go.Shelf Go.Sort
variable{a:Act}{ops:Array Oper}{tmps:Array Value}{ss:List BA}{rest:List Oper}{ps:List Ph}{l:List Sl}{xs ys:List Value}{B b base o rk:Nat}{P:Program}{T:TypeId}{u v x0 x1 x2 x3 x4 x5 y0 y1 y2 y3 y4 y5:Value}{W W' W1 w w' w0:World}
def Sl.cells(x:Sl):List Value:=[.string x.s,.string x.t]
def DK(w:World)(b o:Nat)(l:List Sl):Prop:=∀(i:Nat)(x:Sl),l[i]?=some x->w.rangeAt b (o+i*2) x.cells
theorem DK.cells(h:DK w b o l)(i:Nat)(hi:i<l.length):At w b (o+i*2) (Tz (l[i]).s)/\At w b (o+i*2+1) (Tz (l[i]).t):=by
 have hr:=h i l[i] (by simp);exact⟨hr 0 _ rfl,hr 1 _ rfl⟩
theorem DK.up(h:DK w b o l)(hb:Below B w w')(hB:b<B):DK w' b o l:=λi x hx j v hv=>by
 rw[hb.cell (p:=⟨b,o+i*2+j,none⟩) hB];exact h i x hx j v hv
def DE(x:Sl):DataW Unit:=.agg [.lit (.string x.s.data.toList),.lit (.string x.t.data.toList)]
def LP(v:Value):Option (DataW Unit×List MemPlace):=match v with
 | .agg a=>match a.toList with
  | [.string s,.string t]=>some (DE ⟨s,t⟩,[])
  | _=>none
 | _=>none
theorem Ni(s t:BA):LP (.agg #[Tz s,Tz t])=some (DE ⟨s,t⟩,[]):=rfl
theorem Sp{z:DataW Unit×List MemPlace}(h:LP v=some z):∃s t,v=.agg #[Tz s,Tz t]/\z=(DE ⟨s,t⟩,[]):=by
 unfold LP at h;split at h
 ·rename_i a;split at h
  ·rename_i s t hl;refine⟨s,t,?_,(A6 h).symm⟩;rw[← Array.toArray_toList (xs:=a),hl]
  ·cases h
 ·cases h
abbrev II (w:World) (M n:Nat) (D:DataW Unit):Prop:=w.ownsMap prog 9 LP M n D
theorem Ud:Keyed prog 9:=string_keyed underlying9
theorem Yy(w:World):(zeroValue 58).run prog w=.ok (.agg #[Ez,Ez]) w:=by kernel_rfl
def Gc(D:DataW Unit)(l:List Sl):Prop:=IsMap D/\∀(s:BA)(z:Sl),z.t=⟨#[]⟩->∃x:Sl,D.atKey (kl s) (DE z)=DE x/\x.t=Z2 l s
theorem Gc.start:Gc (.map []) []:=⟨⟨[],rfl⟩,λs z hz=>⟨z,rfl,by rw[hz];rfl⟩⟩
theorem Gc.step{D:DataW Unit}(h:Gc D l)(x:Sl):Gc (D.put (kl x.s) (DE x)) (l++[x]):=by
 refine⟨h.1.put _ _,λs z hz=>?_⟩;rw[Si];by_cases e:kl s=kl x.s
 ·obtain rfl:=TR e;exact⟨x,atKey_put_same h.1 (Ox _) _ _,by simp⟩
 ·obtain⟨y,h1,h2⟩:=h.2 s z hz;have a0:¬(x.s.toList==s.toList)=true:=λh=>e (by rw[AE (beq_iff_eq.1 h)]);exact⟨y,by rw[atKey_put_other e];exact h1,by rw[if_neg a0];exact h2⟩
theorem Ue{x y:Sl}(h:DE x=DE y):x.t=y.t:=by
 unfold DE at h;simp only[DataW.agg.injEq,List.cons.injEq,DataW.lit.injEq,Lit.string.injEq] at h;have:=h.2.1;cases hx:x.t;cases hy:y.t
 rw[hx,hy] at this;simpa using this
theorem JV(w:World){o:Oper}{Q:Exit->Act->World->Prop}
  (hg:o.guard=none) (m x:Operand) (hop:o.op=Op.lookup 81 m x false) (M n:Nat) (D:DataW Unit) (l:List Sl)
  (hm:a.eval m=.map (some M)) (hown:II w M n D) (hD:Gc D l) (s:BA) (hx:a.eval x=Tz s) (hs:s.size<=maxLen)
  (hK:∀c:BA,wpList prog ops Q rest (a.put o.dst (.agg #[Tz c,Tz (Z2 l s)])) w) :
  wpList prog ops Q (o::rest) a w:=by
 refine wpList_plain hg λK' hK'=>?_;obtain⟨v,ps,a0,hv⟩:=hown.lookup Ud underlying81 (Yy w) (Ni _ _) (WideMaps.keyOf_string_mk underlying9 hs);obtain⟨c,t,rfl,hz⟩:=Sp hv;obtain⟨y,h1,h2⟩:=hD.2 s ⟨⟨#[]⟩,⟨#[]⟩⟩ rfl;have h3:D.atKey (kl s) (DE ⟨⟨#[]⟩,⟨#[]⟩⟩)=DE ⟨c,t⟩:=congrArg Prod.fst hz;have ht:t=Z2 l s:=by rw[← h2,← Ue (x:=⟨c,t⟩) (y:=y) (by rw[← h3,h1])]
 subst ht;unfold Oper.wp;simp[execOp,hop,hm,hx,a0,Result.andThen];exact hK' _ _ (hK c)
theorem GX(l:List Sl)(b o c:Nat)(w:World)(h:DK w b o l)(hb:b<w.heap.size)(hn:l.length<=1048576)(hz:∀x∈l,x.s.size<=maxLen):
  Calls prog 48 #[.slice (some ⟨b,o,none⟩) l.length c] w λe w' =>
   (∃M D,e=.returned (.map (some M))/\II w' M l.length D/\Gc D l/\w.heap.size<=M)/\Up w w':=by
 have a5:=@run_makeMap prog;go_in;go_wp2_with fail;go_loopw [5,9] (λ_ i w'=>∃(k:Nat)(D:DataW Unit),k<=l.length/\i=.int .i64 k/\II w' w.heap.size k D/\Gc D (l.take k)/\Up w w') (λ_ i _=>l.length-(intOf i).toNat)
 case atStart=>exact⟨0,_,by omega,rfl,World.ownsMap_made _ _ _ _,Gc.start,(A5 _ _).alloc (A4 _) _⟩
 case round =>
  obtain⟨k,D,hk,rfl,a1,hD,hB⟩:=hrel;have HD:Hid (Gc D (l.take k)):=hD;clear hD;by_cases hp:k<l.length
  ·obtain⟨c0,c1⟩:=(h.up hB hb).cells k hp;have z0:=hz l[k] (by simp)
   have HS:Hid (Gc (D.put (kl (l[k]).s) (DE l[k])) (l.take (k+1))):=by
    show _
    rw[A8 hp];exact HD.out.step _
   have a2:keyOf prog 9 (.string (l[k]).s)=some (kl (l[k]).s):=WideMaps.keyOf_string_mk underlying9 z0;generalize l[k]=x0 at *;clear HD z0;have a3:=hB.alloc hB.size (.cells #[.string (x0).s,.string (x0).t] 58);have a0:=a1.alloc (.cells #[.string (x0).s,.string (x0).t] 58);have hC:CB (wr.alloc (.cells #[.string (x0).s,.string (x0).t] 58)) wr.heap.size [.string x0.s,.string x0.t]:=F3 wr _ _;go_upto_region 5 with fail;generalize wr.alloc (.cells #[.string (x0).s,.string (x0).t] 58)=W1 at *;obtain⟨⟨e0,e1⟩,-⟩:=hC.c2;clear c0 c1 a1 hB;go_wp2_with (at_mapUpdate;refine wpList_mapUpdate_own _ rfl _ _ _ 81 rfl 9 58 Ud underlying81 _ w.heap.size k D rfl a0 (by unfold maxLen;omega) _ _ _ rfl rfl a2 _ [] (Ni _ _) ?_;intro w1 hown1 hgrow1)
   have a4:=CK a3 hgrow1 (A4 _);clear hgrow1 a0 a3 e0 e1 hC a2;go_wp2_with fail;go_roundw
   case rel=>exact⟨k+1,_,by omega,by go_num,hown1,HS.out,a4⟩
   case measure=>simp[intOf];omega
  ·have HK:Hid (Gc D l):=by
    have:=HD.out;rw[D2 (by omega)] at this;exact this
   go_wp2_with fail;go_ret;exact⟨⟨_,D,rfl,a1.mono hk,HK.out,A4 _⟩,hB⟩
theorem Sq(l:List Sl)(n b o c:Nat)(w:World)(hl:l.length=n)(h:DK w b o l)(hb:b<w.heap.size)(hn:n<=1048576)(hz:∀x∈l,x.s.size<=maxLen):
  Calls prog 48 #[Sy b o n c] w λe w' =>
   (∃M D,e=.returned (.map (some M))/\II w' M n D/\Gc D l/\w.heap.size<=M)/\Up w w':=by
 subst hl;exact GX l b o c w h hb hn hz
theorem Sr(c t:BA)(w:World):(Instr.field 58 (.agg #[Tz c,Tz t]) 1).run prog w=.ok (Tz t) w:=by kernel_rfl
theorem LQ{e size n:Nat}(h:w.ownsRow base e size v n xs):∃a c,v=Vz a n c:=by
 rcases h.2 with⟨h1,h2⟩|⟨g,cap,_,hv,_⟩
 ·exact⟨_,_,by rw[h1,h2]⟩
 ·exact⟨_,_,hv⟩
theorem GY(l:List Sl)(ss:List BA)(M n:Nat)(D:DataW Unit)(v:Value)(w:World)(hmap:II w M n D)(hD:Gc D l)(h:Ac w v ss)(hz:∀s∈ss,s.size<=maxLen)(hn:ss.length<=800):
  Calls prog 49 #[.map (some M),v] w λe w'=>(∃u,e=.returned u/\F7 w' w.heap.size u (L0 (Dv l ss)))/\Up w w':=by
 obtain⟨a,c,rfl⟩:=h.shape;have c4:=hmap.lt;obtain⟨ii,hi,b1,b2,b3⟩:=info_parts V7;have HD:Hid (Gc D l):=hD;clear hD;have c5:=Sr;go_in;go_wp2_with fail;go_loopw [5,7,10] (λu _ i w'=>∃k:Nat,k<=ss.length/\i=.int .i64 k/\w'.ownsRow w.heap.size 9 1 u k (((ss.take k).map (Z2 l)).map Value.string)/\Up w w') (λ_ _ i _=>ss.length-(intOf i).toNat)
 case atStart=>exact⟨0,by omega,rfl,⟨by simp,.inl ⟨rfl,rfl⟩⟩,A5 _ _⟩
 case round =>
  obtain⟨k,hk,rfl,a0,hB⟩:=hrel;by_cases hp:k<ss.length
  ·obtain⟨g,a5⟩:∃g,At w g k (Tz ss[k])/\g<w.heap.size/\a=some ⟨g,0,none⟩:=by
    rcases h with⟨h1,h2⟩|⟨g,c',h1,hS,hg,-⟩
    ·subst h2;simp at hp
    ·simp only[Value.slice.injEq] at h1;exact⟨g,by have:=hS k ss[k] (by simp);simpa using this,hg,h1.1⟩
   obtain⟨a5,hg,rfl⟩:=a5;have c0:=(hB.cell (p:=⟨g,k,none⟩) hg).trans a5;have z0:=hz ss[k] (by simp);have a3:II wr M n D:=hmap.kept (row:=none) ⟨hB.os,hB.tape,hB.output,hB.size,λi hi _=>hB.block i hi⟩ (by simp)
   have Hs:Hid ((((ss.take (k+1)).map (Z2 l)).map Value.string)=((ss.take k).map (Z2 l)).map Value.string++[Tz (Z2 l ss[k])]):=by
    show _=_
    rw[A8 hp,List.map_append,List.map_append];rfl
   generalize ss[k]=s0 at *;have c6:=hB.size
   go_wp2_with (first
    | (at_lookup;refine JV _ rfl _ _ rfl M n D l rfl a3 HD.out s0 rfl z0 ?_;intro cc)
    | (at_builtin;refine wpList_append_own _ rfl _ _ 23 rfl w.heap.size 9 ii _ 1 16 underlying23 hi b1 b2 b3 rfl (by decide) _ _ _ rfl (E4 a0 ((A5 wr.heap.size wr).alloc (A4 _) (Kz [Tz (Z2 l s0)] 9))) ⟨wr.heap.size,0,none⟩ 1 1 [Tz (Z2 l s0)] rfl rfl (AD _ _ _) (DG _) (by unfold maxLen;omega) (by omega) (by simp;omega) ?_;intro v1 w1 hown3 hgrow3 _))
   rw[← Hs.out] at hown3;have b9:=M1 (hB.alloc hB.size (Kz [Tz (Z2 l s0)] 9)) (E4 a0 ((A5 wr.heap.size wr).alloc (A4 _) (Kz [Tz (Z2 l s0)] 9))) hgrow3 (A4 _);clear a0 hgrow3 hB c0 a3;go_wp2_with fail;go_roundw
   case rel=>exact⟨k+1,by omega,by go_num,hown3,b9⟩
   case measure=>simp[intOf];omega
  ·have a9:k=ss.length:=by omega
   rw[a9,List.take_length] at a0;clear a9;have HT:Hid (Dv l ss=uniq (F1 (ss.map (Z2 l)))):=rfl;have Hl:Hid ((F1 (ss.map (Z2 l))).length=ss.length):=by show _=_;simp[F1]
   by_cases h0:ss.length=0
   ·have H0:Hid (ss=[]):=C4.1 h0;rw[h0] at a0;obtain⟨ua,uc,hu⟩:=LQ a0;subst hu
    have HO:Hid (F7 wr w.heap.size (Vz ua 0 uc) (L0 (Dv l ss))):=by
     show F7 _ _ _ _
     have e:L0 (Dv l ss)=[]:=by
      have:=Rx l ss;rw[h0] at this;rw[C4.1 (Nat.le_zero.1 this)];rfl
     rw[e];rw[H0.out] at a0;exact a0
    clear a0 h0;go_wp2_with fail;refine Sx (Tryz.slices_Sort_string_none _ _ _) ?_;go_wp2_with fail;refine Sx (Tryz.slices_Compact_string_empty _ _ _) ?_;go_wp2_with fail;go_ret;exact⟨⟨_,rfl,HO.out⟩,hB⟩
   ·rw[IE] at a0;generalize F1 (ss.map (Z2 l))=ks at *;obtain⟨n',hN⟩:∃n,n=ss.length:=⟨_,rfl⟩;have a4:ks.length=n':=by rw[Hl.out,hN]
    rw[← hN] at a0;have c1:0<n':=by omega
    have c7:n'<=900:=by omega
    clear hN Hl h0;obtain⟨g,a6,b4⟩:=I6 a0 c1;subst b4;obtain⟨g',b5,hv,b6,a7,a8,b7,_,hH⟩:=Lib.holds_of_ownsRow a0 (by simp);cases hv
    unfold maxLen at b7;have a1:=Tryz.slices_Sort_string g 0 a6 ks wr hH a7 (by omega);rw[a4] at a1;go_wp2_with fail;refine a1.mono ?_;rintro e w3 ⟨rfl,nn,os,rfl⟩;clear a1;have c2:(ks.mergeSort λx y=>decide (x<=y)).length=n':=by rw[List.length_mergeSort];exact a4
    have b0:Holds encStr (grow (putRow encStr (Sort.ahead wr nn) g 0 (ks.mergeSort λx y=>decide (x<=y)).toArray) os) g 0 (ks.mergeSort λx y=>decide (x<=y)).toArray :=
     holds_grow encStr _ os g 0 _ (by simpa [putRow,mapBlock,Sort.ahead] using a7) (holds_putRow encStr _ g 0 _ _ (holds_ahead encStr wr nn g 0 _ hH) (by simp))
    have a2:=Tryz.slices_Compact_string g 0 a6 (ks.mergeSort λx y=>decide (x<=y)) _ b0 (by omega) (by omega);rw[c2] at a2;clear b0 hH;go_wp2_with fail;refine a2.mono ?_;rintro e w4 ⟨rfl,q,rfl⟩;obtain⟨ho,b8⟩:=Ru (nn:=nn) (q:=q) (os:=os) a0 hB b6 a4;rw[← HT.out,JQ] at ho;clear a2;go_wp2_with fail;go_ret;refine⟨⟨_,rfl,?_⟩,b8⟩;have hT:=HT.out;unfold uniq at hT;rw[← hT] at ho ⊢
    have c3:(L0 (Dv l ss)).length=(Dv l ss).length:=by simp[L0]
    unfold F7;rw[c3];exact ho
end Go.Proofs.YtmonodehegcfhaaGreatDoor
namespace Go.Proofs.YtmonodehegcfhaaGreatDoor
open Go.Proofs.Tryz
open Go.RowKit
variable{a:Act}{ops:Array Oper}{tmps:Array Value}{ss:List BA}{rest:List Oper}{ps:List Ph}{l:List Sl}{xs ys:List Value}{B b base o rk:Nat}{P:Program}{T:TypeId}{u v x0 x1 x2 x3 x4 x5 y0 y1 y2 y3 y4 y5:Value}{W W' W1 w w' w0:World}
theorem Uf{x6 x7:Value}(h:Up W1 w0/\At w0 B 0 x0/\At w0 B 1 x1/\At w0 B 2 x2/\At w0 B 3 x3/\At w0 B 4 x4/\At w0 B 5 x5/\At w0 B 6 x6/\At w0 B 7 x7):W1.heap.size<=w0.heap.size:=h.1.size
theorem Gd(n:Int)(w:World):
  Calls prog 106 #[Iz n] w λe w'=>e=.returned (Nz)/\w'=w:=by
 go_in;go_wp2;go_ret;exact⟨rfl,rfl⟩
theorem Wg:(prog.info? 203).map (λi=>(i.zero,i.size,i.bytes))=some (some (.agg #[Ez,Nz]),2,40):=by kernel_rfl
theorem Nj{base' m:Nat}{x:VK}(h:Ct W base x)(ht:W.ownsRow base' 203 2 u m ys)(hg:W.grownBy W' u.ownBlock):Ct W' base x:=by
 refine World.ownsRow.kept h hg ?_;rcases h.2 with⟨h0,_⟩|⟨g,cap,cur,hv,_,hh,_⟩
 ·left;rw[h0];rfl
 ·right
  rw[hv];rcases ht.2 with⟨k0,_⟩|⟨g',cap',cur',kv,_,kh,_⟩
  ·rw[k0];simp[Value.ownBlock]
  ·rw[kv];intro e;obtain rfl:g=g':=by simpa [Value.ownBlock] using e
   rw[hh] at kh;have:=A6 kh;injection this with _ h2
   exact absurd h2 (by decide)
theorem Pc(hok:P3 ps=true)(p:Ph)(hp:p∈ps):1<=p.k/\p.k<=5:=by
 obtain⟨_,_,ha⟩:=(M3 ps).1 hok;obtain⟨i,hi,rfl⟩:=B7 hp;have hs:=ha i ps[i] hi (by simp[hi]);simp only[Be,Bool.and_eq_true,Ph.okB,V9] at hs;have h:=hs.1.1.1.1.1.2;unfold T0 at h;split at h
 ·omega
 ·split at h
  ·omega
  ·split at h
   ·omega
   ·split at h
    ·rename_i h4;rcases h4 with h4|h4<;>omega
    ·cases h
def BM:List (BA×VK):=[(GP,X9),(ER,X9),(BO,X9)]
theorem Ss:Dt BM=fill LI Fx [] []:=rfl
theorem Ug(ps:List Ph)(b o c:Nat)(w:World)(hE:P2 w)(hr:M2 w b o ps)(hb:b<w.heap.size)(hok:P3 ps=true):
  Calls prog 105 #[.slice (some ⟨b,o,none⟩) ps.length c,.func (.func 106) #[] #[],.func (.func 107) #[] #[]] w
   λe w'=>(∃g cap rs,e=.returned (.slice (some ⟨g,0,none⟩) rs.length cap)/\Dt rs=fill LI Fx [] ps/\Ft w' w.heap.size g rs)/\Up w w':=by
 have HE:Hid (P2 w):=hE;obtain⟨g0,g1,g2,_⟩:=hE;have i0:∀w,(Instr.index 143 (.agg #[.string ⟨#[103,111,111,100]⟩,.string ⟨#[115,97,118,101,100]⟩,.string ⟨#[115,99,114,97,112,112,101,100]⟩]) (.int .i64 0)).run prog w=.ok (.string ⟨#[103,111,111,100]⟩) w:=λ_=>by kernel_rfl
 have i1:∀w,(Instr.index 143 (.agg #[.string ⟨#[103,111,111,100]⟩,.string ⟨#[115,97,118,101,100]⟩,.string ⟨#[115,99,114,97,112,112,101,100]⟩]) (.int .i64 1)).run prog w=.ok (.string ⟨#[115,97,118,101,100]⟩) w:=λ_=>by kernel_rfl
 have i2:∀w,(Instr.index 143 (.agg #[.string ⟨#[103,111,111,100]⟩,.string ⟨#[115,97,118,101,100]⟩,.string ⟨#[115,99,114,97,112,112,101,100]⟩]) (.int .i64 2)).run prog w=.ok (.string ⟨#[115,99,114,97,112,112,101,100]⟩) w:=λ_=>by kernel_rfl
 go_in;obtain⟨ii,hi,b0,b1,b2⟩:=info_parts Wg;go_wp2_with fail;go_loopw [7,14] (λv i w'=>∃(k:Nat)(j:Int),k<=3/\j=k/\i=.int .i64 j/\w'.ownsRow w.heap.size 203 2 v (BM.take k).length (Bx (BM.take k))/\Up w w') (λ_ i _=>3-(intOf i).toNat)
 case atStart=>exact⟨0,0,by omega,by omega,rfl,B9 _ _ _ _,A5 _ _⟩
 case round =>
  obtain⟨k,j,hk,hj,rfl,a0,hB⟩:=hrel;obtain rfl|rfl|rfl|rfl:k=0∨k=1∨k=2∨k=3:=by omega
  ·obtain rfl:j=0:=by omega
   clear hj;go_wp2_with (first|(go_at_call 112;refine (Y8 _ _ (HE.out.up hB)).mono ?_;rintro e w' ⟨rfl,hw⟩;obtain rfl:=hw.symm;clear hw)|(go_at_call 106;refine (Gd _ _).mono ?_;rintro e w' ⟨rfl,hw⟩;obtain rfl:=hw.symm;clear hw)|(at_builtin;refine wpList_append_own _ rfl _ _ 137 rfl w.heap.size 203 ii _ 2 40 underlying137 hi b0 b1 b2 rfl (by decide) _ _ _ rfl (a0.alloc _) ⟨wr.heap.size,0,none⟩ 1 1 [.string ⟨#[103,111,111,100]⟩,.slice none 0 0] rfl rfl (λj u hj=>FO _ _ _ _ hj) (λu hu=>JF rfl hu) (by simp[maxLen,BM]) (by simp[BM]) (by have:=hB.size;simp;omega) ?_))
   intro v' w1 hown' hgrow _;have a6:Up w w1:=(hB.alloc hB.size _).grown hgrow (by have:=hB.size;simp;omega) (λk hk=>(a0.lt k hk).1);clear hgrow a0 hB;go_wp2_with fail;go_roundw
   case rel=>exact⟨1,1,by omega,by omega,rfl,by simpa [BM,Bx,X9,GP,ER,BO] using hown',a6⟩
   case measure=>simp[intOf]
  ·obtain rfl:j=1:=by omega
   clear hj;go_wp2_with (first|(go_at_call 112;refine (Y8 _ _ (HE.out.up hB)).mono ?_;rintro e w' ⟨rfl,hw⟩;obtain rfl:=hw.symm;clear hw)|(go_at_call 106;refine (Gd _ _).mono ?_;rintro e w' ⟨rfl,hw⟩;obtain rfl:=hw.symm;clear hw)|(at_builtin;refine wpList_append_own _ rfl _ _ 137 rfl w.heap.size 203 ii _ 2 40 underlying137 hi b0 b1 b2 rfl (by decide) _ _ _ rfl (a0.alloc _) ⟨wr.heap.size,0,none⟩ 1 1 [.string ⟨#[115,97,118,101,100]⟩,.slice none 0 0] rfl rfl (λj u hj=>FO _ _ _ _ hj) (λu hu=>JF rfl hu) (by simp[maxLen,BM]) (by simp[BM]) (by have:=hB.size;simp;omega) ?_))
   intro v' w1 hown' hgrow _;have a6:Up w w1:=(hB.alloc hB.size _).grown hgrow (by have:=hB.size;simp;omega) (λk hk=>(a0.lt k hk).1);clear hgrow a0 hB;go_wp2_with fail;go_roundw
   case rel=>exact⟨2,2,by omega,by omega,rfl,by simpa [BM,Bx,X9,GP,ER,BO] using hown',a6⟩
   case measure=>simp[intOf]
  ·obtain rfl:j=2:=by omega
   clear hj;go_wp2_with (first|(go_at_call 112;refine (Y8 _ _ (HE.out.up hB)).mono ?_;rintro e w' ⟨rfl,hw⟩;obtain rfl:=hw.symm;clear hw)|(go_at_call 106;refine (Gd _ _).mono ?_;rintro e w' ⟨rfl,hw⟩;obtain rfl:=hw.symm;clear hw)|(at_builtin;refine wpList_append_own _ rfl _ _ 137 rfl w.heap.size 203 ii _ 2 40 underlying137 hi b0 b1 b2 rfl (by decide) _ _ _ rfl (a0.alloc _) ⟨wr.heap.size,0,none⟩ 1 1 [.string ⟨#[115,99,114,97,112,112,101,100]⟩,.slice none 0 0] rfl rfl (λj u hj=>FO _ _ _ _ hj) (λu hu=>JF rfl hu) (by simp[maxLen,BM]) (by simp[BM]) (by have:=hB.size;simp;omega) ?_))
   intro v' w1 hown' hgrow _;have a6:Up w w1:=(hB.alloc hB.size _).grown hgrow (by have:=hB.size;simp;omega) (λk hk=>(a0.lt k hk).1);clear hgrow a0 hB;go_wp2_with fail;go_roundw
   case rel=>exact⟨3,3,by omega,by omega,rfl,by simpa [BM,Bx,X9,GP,ER,BO] using hown',a6⟩
   case measure=>simp[intOf]
  ·obtain rfl:j=3:=by omega
   clear i0 i1 i2 g0 g1 g2 hj;have e5:ps.length<=12:=((M3 ps).1 hok).2.1;have a0:wr.ownsRow w.heap.size 203 2 u7 BM.length (Bx BM):=a0
   have a3:∀r∈BM,Ct wr w.heap.size r.2:=by
    intro r hr;simp only[BM,List.mem_cons,List.not_mem_nil,or_false] at hr;rcases hr with rfl|rfl|rfl<;>exact OU _ _
   go_wp2_with fail;go_loopw [7,10] (λv i w'=>∃(k:Nat)(rs:List (BA×VK)),k<=ps.length/\i=.int .i64 ((k:Int)-1)/\Dt rs=fill LI Fx [] (ps.drop k)/\w'.ownsRow w.heap.size 203 2 v rs.length (Bx rs)/\(∀r∈rs,Ct w' w.heap.size r.2)/\Up w w') (λ_ i _=>(intOf i+1).toNat)
   case atStart=>exact⟨ps.length,BM,A4 _,rfl,by rw[List.drop_length];exact Ss,a0,a3,hB⟩
   case round =>
    clear a0 a3 hB;obtain⟨k,rs,e4,rfl,a4,a2,d1,b5⟩:=hrel
    have b6:rs.length=(ps.drop k).length+3:=by
     have:=congrArg List.length a4;rw[DH] at this;simpa [Dt] using this
    obtain⟨g,cap,rfl⟩:=Rh a2 (by omega);have hT:=Ft.of_own a2 d1;cases k with
    | zero =>
     simp only[List.drop_zero] at a4;clear b6;go_wp2_with fail;go_ret;exact⟨⟨g,cap,rs,rfl,a4,hT⟩,b5⟩
    | succ m =>
     have hm:m<ps.length:=by omega
     obtain⟨c0,c1,c2,c3,c4,c5,c6,c7⟩:=hr.cells m hm;obtain⟨hc,hf⟩:=G9 b5;have Hrl:Hid (rs.length=(ps.drop (m+1)).length+3):=b6;clear b6;go_wp2_with fail;have d7:=Pc hok ps[m] (by simp)
     have d2:∀nm,(look rs nm X9).2=Ic (ps.drop (m+1)) nm:=λnm=>by
      rw[← Fy,a4,DR _ _ _ _ (Fg hok (m+1))];rfl
     have b7:∀nm,(L0 (look rs nm X9).2).length<=24:=λnm=>by
      have:=MZ (ps.drop (m+1)) nm;rw[d2,L0,B5];rw[A9] at this;omega
     have HF:Hid (fill LI Fx [] (ps.drop m)=Dt rs++[((ps[m]).nm,Fx ps[m] (look rs (ps[m]).t X9).2 (look rs (ps[m]).e X9).2)]):=by
      show _=_
      rw[MU LI Fx [] hm,← a4,Fy,Fy]
     generalize ps[m]=p at *;have hS:∃W1,W1=wr.alloc (.cells #[.string p.nm,.int .i64 p.k,.string p.a,.string p.b,.int .i64 p.n,.int .i64 p.wi,.string p.t,.string p.e] 43):=⟨_,rfl⟩;obtain⟨W1,a5⟩:=hS;rw[← a5];have d8:wr.heap.size<W1.heap.size:=by rw[a5];simp
     have hS:Up W1 W1/\W1.cell? ⟨wr.heap.size,0,none⟩=some (.string p.nm)/\W1.cell? ⟨wr.heap.size,1,none⟩=some (.int .i64 p.k)/\W1.cell? ⟨wr.heap.size,2,none⟩=some (.string p.a)/\W1.cell? ⟨wr.heap.size,3,none⟩=some (.string p.b)/\W1.cell? ⟨wr.heap.size,4,none⟩=some (.int .i64 p.n)/\W1.cell? ⟨wr.heap.size,5,none⟩=some (.int .i64 p.wi)/\W1.cell? ⟨wr.heap.size,6,none⟩=some (.string p.t)/\W1.cell? ⟨wr.heap.size,7,none⟩=some (.string p.e):=by rw[a5];exact⟨A5 _ _,by simp,by simp,by simp,by simp,by simp,by simp,by simp,by simp⟩
     have b3:Up wr W1:=by rw[a5];exact (A5 _ _).alloc (A4 _) _
     have a7:=hT.up b3;have Hown:=E4 a2 b3;have b8:=D5 b5 b3;have b9:rs.length<=1048576:=by have:=Hrl.out;rw[A9] at this;omega
     have e6:=b7 p.t;have e7:=b7 p.e;clear a5 c0 c1 c2 c3 c4 c5 c6 c7 hc hf hT a2 b3 a0 d1 d2 b7 a4
     go_region_held (λw'=>Up W1 w'/\w'.cell? ⟨wr.heap.size,0,none⟩=some (.string p.nm)/\w'.cell? ⟨wr.heap.size,1,none⟩=some (.int .i64 p.k)/\w'.cell? ⟨wr.heap.size,2,none⟩=some (.string p.a)/\w'.cell? ⟨wr.heap.size,3,none⟩=some (.string p.b)/\w'.cell? ⟨wr.heap.size,4,none⟩=some (.int .i64 p.n)/\w'.cell? ⟨wr.heap.size,5,none⟩=some (.int .i64 p.wi)/\w'.cell? ⟨wr.heap.size,6,none⟩=some (.string p.t)/\w'.cell? ⟨wr.heap.size,7,none⟩=some (.string p.e)) (first|exact Nd hS|exact Rs d8 (by assumption) (by assumption))
      (first
       | (go_at_call 108;refine (Rw rs w.heap.size g _ _ _ (a7.up (And.left (by assumption))) b9).mono ?_;rintro e w1 ⟨rfl,e2⟩)
       | (go_at_call 107;have d9:=Uf (by assumption);refine (NV p (L0 (look rs p.t X9).2) (L0 (look rs p.e X9).2) _ _ _ d7 ((a7.up (And.left (by assumption))).look _).lst ((a7.up (And.left (by assumption))).look _).lst (by omega)).mono ?_;rintro e w3 ⟨⟨u,rfl,b4⟩,e3⟩;rw[Eg,Eg] at b4;obtain⟨a9,n9,c9,d6⟩:=Ct.shape (x:=(u,_)) b4;subst d6))
     rename_i hHeld;obtain⟨hU,e0,-⟩:=hHeld;have a1:=E4 Hown hU;have a8:=D5 b8 hU;have d3:=a7.up hU;have hx:Ct w3 w.heap.size (.slice a9 n9 c9,Fx p (look rs p.t X9).2 (look rs p.e X9).2):=I8 b4 (by have:=b8.size;omega);have c8:Up w3 (w3.alloc (.cells #[.string p.nm,.slice a9 n9 c9] 203)):=(A5 _ _).alloc (A4 _) _;have d4:=hx.up c8;have d5:=d3.up c8;have Hrl':rs.length<=16:=by have:=Hrl.out;rw[A9] at this;omega
     clear hS a7 Hown hU b8 b4 d3 hx c8 e2 e3;go_wp2_with (at_builtin;refine wpList_append_own _ rfl _ _ 137 rfl w.heap.size 203 ii _ 2 40 underlying137 hi b0 b1 b2 rfl (by decide) _ _ _ rfl (a1.alloc _) ⟨w3.heap.size,0,none⟩ 1 1 [.string p.nm,.slice a9 n9 c9] rfl rfl (λj u hj=>FO _ _ _ _ hj) (λu hu=>JF rfl hu) (by simp only[maxLen];omega) (by omega) (by have:=a8.size;simp;omega) ?_)
     intro v' w5 hown' hgrow _;have e1:Up w w5:=(a8.alloc a8.size _).grown hgrow (by have:=a8.size;simp;omega) (λk hk=>(a1.lt k hk).1)
     have d0:∀r∈rs++[(p.nm,((.slice a9 n9 c9,Fx p (look rs p.t X9).2 (look rs p.e X9).2):VK))],Ct w5 w.heap.size r.2:=by
      intro r hr;rcases D0.1 hr with hr|hr
      ·exact Nj (d5.2.2 r hr) (a1.alloc _) hgrow
      ·simp only[D1] at hr;subst hr;exact Nj d4 (a1.alloc _) hgrow
     clear hgrow a1 a8 d5 d4;go_wp2_with fail;go_roundw
     case rel=>exact⟨m,rs++[(p.nm,((.slice a9 n9 c9,Fx p (look rs p.t X9).2 (look rs p.e X9).2):VK))],by omega,by go_num,by rw[HF.out];simp[Dt],by rw[OR,B0];exact hown',d0,e1⟩
     case measure=>simp[intOf]
theorem CB.c6(h:CB w b [x0,x1,x2,x3,x4,x5]):
  At w b 0 x0/\At w b 1 x1/\At w b 2 x2/\At w b 3 x3/\At w b 4 x4/\At w b 5 x5 :=
 ⟨h.1 0 _ rfl,h.1 1 _ rfl,h.1 2 _ rfl,h.1 3 _ rfl,h.1 4 _ rfl,h.1 5 _ rfl⟩
theorem CB.copy6(h:CB w b [y0,y1,y2,y3,y4,y5])(x0 x1 x2 x3 x4 x5:Value):
  CB ((((((w.setCell ⟨b,0,none⟩ x0).setCell ⟨b,1,none⟩ x1).setCell ⟨b,2,none⟩ x2).setCell ⟨b,3,none⟩ x3).setCell ⟨b,4,none⟩ x4).setCell ⟨b,5,none⟩ x5) b [x0,x1,x2,x3,x4,x5]:=h.copy [x0,x1,x2,x3,x4,x5] rfl
theorem CB.f6(h:CB w b [x0,x1,x2,x3,x4,x5]):
  w.frozen? ⟨b,0,none⟩=false/\w.frozen? ⟨b,1,none⟩=false/\w.frozen? ⟨b,2,none⟩=false/\w.frozen? ⟨b,3,none⟩=false/\w.frozen? ⟨b,4,none⟩=false/\w.frozen? ⟨b,5,none⟩=false :=
 ⟨(h.2.1 0 (by simp)).2,(h.2.1 1 (by simp)).2,(h.2.1 2 (by simp)).2,(h.2.1 3 (by simp)).2,(h.2.1 4 (by simp)).2,(h.2.1 5 (by simp)).2⟩
theorem N8{fn:Func}{q:Tmp}(h:fn.results=#[.cell q T]){d:TypeDesc}(hu:P.underlying T=some d)(hd:d.isRow=true)(hi:(P.info? T).map (·.size)=some 6){R:Ending->World->Prop}
  (k:CB w rk [y0,y1,y2,y3,y4,y5]) (ht:tmps.getD q undef=Pz rk 0) (hR:R (.returned (.agg #[x0,x1,x2,x3,x4,x5])) ((((((w.setCell ⟨rk,0,none⟩ x0).setCell ⟨rk,1,none⟩ x1).setCell ⟨rk,2,none⟩ x2).setCell ⟨rk,3,none⟩ x3).setCell ⟨rk,4,none⟩ x4).setCell ⟨rk,5,none⟩ x5)) :
  bodyPost P fn R .ret {tmps:=tmps,defers:=[]} ((((((w.setCell ⟨rk,0,none⟩ x0).setCell ⟨rk,1,none⟩ x1).setCell ⟨rk,2,none⟩ x2).setCell ⟨rk,3,none⟩ x3).setCell ⟨rk,4,none⟩ x4).setCell ⟨rk,5,none⟩ x5) :=
 bodyPost_ret (JC (cs:=[x0,x1,x2,x3,x4,x5]) h hu hd hi ht (k.copy6 x0 x1 x2 x3 x4 x5)) rfl hR
theorem R7{fn:Func}{q q2:Tmp}(h:fn.results=#[.cell q T,.tmp q2]){d:TypeDesc}(hu:P.underlying T=some d)(hd:d.isRow=true)(hi:(P.info? T).map (·.size)=some 6){R:Ending->World->Prop}
  (k:CB w rk [y0,y1,y2,y3,y4,y5]) (ht:tmps.getD q undef=Pz rk 0) (hv:tmps.getD q2 undef=v) (hR:R (.returned (.tuple #[.agg #[x0,x1,x2,x3,x4,x5],v])) ((((((w.setCell ⟨rk,0,none⟩ x0).setCell ⟨rk,1,none⟩ x1).setCell ⟨rk,2,none⟩ x2).setCell ⟨rk,3,none⟩ x3).setCell ⟨rk,4,none⟩ x4).setCell ⟨rk,5,none⟩ x5)) :
  bodyPost P fn R .ret {tmps:=tmps,defers:=[]} ((((((w.setCell ⟨rk,0,none⟩ x0).setCell ⟨rk,1,none⟩ x1).setCell ⟨rk,2,none⟩ x2).setCell ⟨rk,3,none⟩ x3).setCell ⟨rk,4,none⟩ x4).setCell ⟨rk,5,none⟩ x5) :=
 bodyPost_ret (Ko (cs:=[x0,x1,x2,x3,x4,x5]) h hu hd hi ht hv (k.copy6 x0 x1 x2 x3 x4 x5)) rfl hR
theorem I9{a:World}(h:Below B a w)(hb:B<=b)(x0 x1 x2 x3 x4 x5:Value):Below B a ((((((w.setCell ⟨b,0,none⟩ x0).setCell ⟨b,1,none⟩ x1).setCell ⟨b,2,none⟩ x2).setCell ⟨b,3,none⟩ x3).setCell ⟨b,4,none⟩ x4).setCell ⟨b,5,none⟩ x5) :=
 (((((h.setCell (p:=⟨b,0,none⟩) hb x0).setCell (p:=⟨b,1,none⟩) hb x1).setCell (p:=⟨b,2,none⟩) hb x2).setCell (p:=⟨b,3,none⟩) hb x3).setCell (p:=⟨b,4,none⟩) hb x4).setCell (p:=⟨b,5,none⟩) hb x5
theorem Wh(h:F7 w base u ss)(hb:b<base):F7 ((((((w.setCell ⟨b,0,none⟩ x0).setCell ⟨b,1,none⟩ x1).setCell ⟨b,2,none⟩ x2).setCell ⟨b,3,none⟩ x3).setCell ⟨b,4,none⟩ x4).setCell ⟨b,5,none⟩ x5) base u ss :=
 F2 h (E1 (rb:=b) (E1 (rb:=b) (E1 (rb:=b) (E1 (rb:=b) (E1 (rb:=b) (E1 (rb:=b) (E2 w _) _) _) _) _) _) _) hb
theorem Bj(ss:List BA)(v:Value)(w:World)(h:Ls w v ss)(hn:ss.length<=1048576):
  Calls prog 66 #[v] w λe w'=>(∃u,e=.returned u/\F7 w' w.heap.size u ss/\NN u)/\Up w w':=by
 obtain⟨a,c,rfl,-,-,a0⟩:=h;obtain⟨ii,hi,a3,a4,a5⟩:=info_parts V7;have ho:=Fj w;have hb:=(A5 w.heap.size w).alloc (A4 _) (Kz [] 9);rcases C3 ss.length with h0|h0
 ·obtain rfl:=C4.1 h0;simp only[List.length_nil];go_in;go_wp2_with (at_builtin;refine JL _ rfl _ _ 23 rfl w.heap.size 9 ii 1 underlying23 hi _ 0 [] rfl ho a c rfl ?_)
  go_ret;exact⟨⟨_,rfl,ho,_,_,_,rfl⟩,hb⟩
 ·obtain⟨g,o,rfl,hS,hg⟩:=a0 h0;have a1:=S0 (hS.alloc (Kz [] 9));go_in;go_wp2_with (at_builtin;refine wpList_append_own _ rfl _ _ 23 rfl w.heap.size 9 ii _ 1 16 underlying23 hi a3 a4 a5 rfl (by decide) _ 0 [] rfl ho ⟨g,o,none⟩ ss.length c (ss.map Value.string) rfl (by simp) a1 (CJ ss) (by unfold maxLen;omega) (by omega) hb.size ?_)
  intro v1 w1 hown1 hgr1 _;have a6:=M1 hb ho hgr1 (A4 _);have a2:F7 w1 w.heap.size v1 ss:=by unfold F7;simpa using hown1
  obtain⟨g1,k1,rfl⟩:=I6 a2 h0;clear hown1 hgr1 ho hb a1;go_wp2_with fail;go_ret;exact⟨⟨_,rfl,a2,_,_,_,rfl⟩,a6⟩
theorem EE(b:Bk)(v:Value)(s:BA)(w:World)(h:Q6 w v b):
  Calls prog 82 #[v,Tz s] w λe w'=>e=.returned (Iz (T5 (G7 b.bs) s))/\Up w w':=by
 obtain⟨a1,c1,a2,c2,rfl,h1,h2⟩:=h.parts;have hC:CB (w.alloc (Kz [Vz a1 (b).tg.length c1,Vz a2 (b).bs.length c2] 26)) w.heap.size [Vz a1 b.tg.length c1,Vz a2 b.bs.length c2]:=F3 w _ _;have a5:=(A5 w.heap.size w).alloc (A4 _) (Kz [Vz a1 (b).tg.length c1,Vz a2 (b).bs.length c2] 26);have g2:=h2.at.1;unfold maxLen at g2;go_in;go_upto_region 1 with fail;generalize w.alloc (Kz [Vz a1 (b).tg.length c1,Vz a2 (b).bs.length c2] 26)=W1 at *;have l2:=h2.up a5;clear h h1 h2;obtain⟨e0,e1⟩:=hC.c2';obtain⟨-,a0⟩:=l2.at;go_wp2_with fail;go_loop [5] (λi=>∃k:Nat,k<=b.bs.length/\i=.int .i64 k/\E3 ((G7 b.bs).take k) s=false) (λi=>b.bs.length-(intOf i).toNat)
 case atStart=>exact⟨0,by omega,rfl,rfl⟩
 case round =>
  obtain⟨k,hk,rfl,a6⟩:=hrel;have Hal:Hid (E3 ((G7 b.bs).take k) s=false):=a6;clear a6;by_cases hp:k<b.bs.length
  ·obtain⟨bb,o,rfl,hS,hb⟩:=a0 (by omega);obtain⟨a3,d3,a4,d4,c3,c4,c5,-,-,-⟩:=(hS.at hp).cells;have a7:k<(G7 b.bs).length:=by rw[L8];exact hp
   have Hn:Hid ((G7 b.bs)[k]=(b.bs[k]).nm):=Au b.bs k hp;cases hq:((b.bs[k]).nm.toList==s.toList)
   ·have Hq:Hid (E3 ((G7 b.bs).take (k+1)) s=false):=Ff a7 Hal.out (by rw[Hn.out];exact hq);generalize b.bs[k]=x0 at *;go_wp2_with fail;go_round
    case rel=>exact⟨k+1,by omega,by go_num,Hq.out⟩
    case measure=>simp[intOf];omega
   ·have Hq:Hid (T5 (G7 b.bs) s=(k:Int)):=Cq a7 Hal.out (by rw[Hn.out];exact hq);generalize b.bs[k]=x0 at *;go_wp2_with fail;go_ret;exact⟨U5 Hq.out.symm,a5⟩
  ·have Hq:Hid (T5 (G7 b.bs) s=-1):=AN (FP (by rw[L8];exact hp) Hal.out);go_wp2_with fail;go_ret;exact⟨U5 Hq.out.symm,a5⟩
end Go.Proofs.YtmonodehegcfhaaGreatDoor
