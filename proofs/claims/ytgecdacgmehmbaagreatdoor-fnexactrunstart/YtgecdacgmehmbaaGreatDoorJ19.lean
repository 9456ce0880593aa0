/- The program's slots of a batch: a map while a call lasts, the things of slots (chapter 21). -/
import Derived.Test.YtgecdacgmehmbaaGreatDoorJ10
import Derived.Test.YtgecdacgmehmbaaGreatDoorJ13
import Derived.Maps.OwnSet
import Derived.Maps.OwnOps
import Derived.Test.YtgecdacgmehmbaaGreatDoorJ2
import Derived.Shelf.Sort.AssemblysIn
import Derived.Sort.EveryDepth
import Derived.Test.YtgecdacgmehmbaaGreatDoorJ14
import Derived.Test.YtgecdacgmehmbaaGreatDoorJ11
import Derived.Deep.RegionHeld
set_option maxRecDepth 100000
set_option maxHeartbeats 4000000
namespace Go.Proofs.YtgecdacgmehmbaaGreatDoor
open Go.RowKit Go.Maps Go.Shelf Go.Sort
def Sl.cells (x:Sl):List Value:=[.string x.s,.string x.t]
def SlAt (w:World) (b o:Nat) (l:List Sl):Prop:=∀(i:Nat) (x:Sl),l[i]?=some x->w.rangeAt b (o+i*2) x.cells
theorem SlAt.cells {w:World} {b o:Nat} {l:List Sl} (h:SlAt w b o l) (i:Nat) (hi:i<l.length):w.cell? ⟨b,o+i*2,none⟩=some (.string (l[i]).s)/\w.cell? ⟨b,o+i*2+1,none⟩=some (.string (l[i]).t):=by
 have hr:=h i l[i] (by simp);exact⟨hr 0 _ rfl,hr 1 _ rfl⟩
theorem SlAt.up {w w':World} {b o B:Nat} {l:List Sl} (h:SlAt w b o l) (hb:Below B w w') (hB:b<B):SlAt w' b o l:=λi x hx j v hv=>by
 rw[hb.cell (p:=⟨b,o+i*2+j,none⟩) hB];exact h i x hx j v hv
def slDat (x:Sl):DataW Unit:=.agg [.lit (.string x.s.data.toList),.lit (.string x.t.data.toList)]
def slElem (v:Value):Option (DataW Unit×List MemPlace):=match v with
 | .agg a=>match a.toList with
  | [.string s,.string t]=>some (slDat ⟨s,t⟩,[])
  | _=>none
 | _=>none
theorem Afd (s t:ByteArray):slElem (.agg #[.string s,.string t])=some (slDat ⟨s,t⟩,[]):=rfl
theorem AiT {v:Value} {z:DataW Unit×List MemPlace} (h:slElem v=some z):∃s t,v=.agg #[.string s,.string t]/\z=(slDat ⟨s,t⟩,[]):=by
 unfold slElem at h;split at h
 ·rename_i a
  split at h
  ·rename_i s t hl
   refine⟨s,t,?_,(A5 h).symm⟩;rw[← Array.toArray_toList (xs:=a),hl]
  ·cases h
 ·cases h
abbrev MapS (w:World) (M n:Nat) (D:DataW Unit):Prop:=w.ownsMap Tryz.prog 9 slElem M n D
theorem Ak5:Keyed Tryz.prog 9:=string_keyed Tryz.underlying9
theorem zeroSl (w:World):(zeroValue 81).run Tryz.prog w=.ok (.agg #[.string ⟨#[]⟩,.string ⟨#[]⟩]) w:=by kernel_rfl
def SlM (D:DataW Unit) (l:List Sl):Prop:=IsMap D/\∀(s:ByteArray) (z:Sl),z.t=⟨#[]⟩->∃x:Sl,D.atKey (kl s) (slDat z)=slDat x/\x.t=lastT l s
theorem SlM.start:SlM (.map []) []:=⟨⟨[],rfl⟩,λs z hz=>⟨z,rfl,by rw[hz];rfl⟩⟩
theorem SlM.step {D:DataW Unit} {l:List Sl} (h:SlM D l) (x:Sl):SlM (D.put (kl x.s) (slDat x)) (l++[x]):=by
 refine⟨h.1.put _ _,λs z hz=>?_⟩;rw[AiD];by_cases e:kl s=kl x.s
 ·obtain rfl:=AjS e
  exact⟨x,atKey_put_same h.1 (AfJ _) _ _,by simp⟩
 ·obtain⟨y,h1,h2⟩:=h.2 s z hz
  have hne:¬(x.s.toList==s.toList)=true:=λh=>e (by rw[N0 (beq_iff_eq.1 h)]);exact⟨y,by rw[atKey_put_other e];exact h1,by rw[if_neg hne];exact h2⟩
theorem Ak6 {x y:Sl} (h:slDat x=slDat y):x.t=y.t:=by
 unfold slDat at h;simp only[DataW.agg.injEq,List.cons.injEq,DataW.lit.injEq,Lit.string.injEq] at h;have:=h.2.1;cases hx:x.t;cases hy:y.t
 rw[hx,hy] at this;simpa using this
theorem AcF (w:World) {ops:Array Oper} {rest:List Oper} {o:Oper} {a:Act} {Q:Exit->Act->World->Prop}
  (hg:o.guard=none) (m x:Operand) (hop:o.op=Op.lookup 175 m x false) (M n:Nat) (D:DataW Unit) (l:List Sl)
  (hm:a.eval m=.map (some M)) (hown:MapS w M n D) (hD:SlM D l) (s:ByteArray) (hx:a.eval x=.string s) (hs:s.size<=maxLen)
  (hK:∀c:ByteArray,wpList Tryz.prog ops Q rest (a.put o.dst (.agg #[.string c,.string (lastT l s)])) w) :
  wpList Tryz.prog ops Q (o::rest) a w:=by
 refine wpList_plain hg λK' hK'=>?_;obtain⟨v,ps,hrun,hv⟩:=hown.lookup Ak5 Tryz.underlying175 (zeroSl w) (Afd _ _) (WideMaps.keyOf_string_mk Tryz.underlying9 hs);obtain⟨c,t,rfl,hz⟩:=AiT hv;obtain⟨y,h1,h2⟩:=hD.2 s ⟨⟨#[]⟩,⟨#[]⟩⟩ rfl;have h3:D.atKey (kl s) (slDat ⟨⟨#[]⟩,⟨#[]⟩⟩)=slDat ⟨c,t⟩:=congrArg Prod.fst hz;have ht:t=lastT l s:=by rw[← h2,← Ak6 (x:=⟨c,t⟩) (y:=y) (by rw[← h3,h1])]
 subst ht;unfold Oper.wp;simp[execOp,hop,hm,hx,hrun,Result.andThen];exact hK' _ _ (hK c)
theorem Abt (l:List Sl) (b o c:Nat) (w:World) (h:SlAt w b o l) (hb:b<w.heap.size) (hn:l.length<=1048576) (hz:∀x∈l,x.s.size<=maxLen) :
  Calls Tryz.prog 122 #[.slice (some ⟨b,o,none⟩) l.length c] w λe w' =>
   (∃M D,e=.returned (.map (some M))/\MapS w' M l.length D/\SlM D l/\w.heap.size<=M)/\Below w.heap.size w w':=by
 have hmm:=@run_makeMap Tryz.prog;go_enter Tryz.func122,Tryz.ntmps122
 go_wp2_with fail
 go_loopw [5,9] (λ_ i w'=>∃(k:Nat) (D:DataW Unit),k<=l.length/\i=.int .i64 k/\MapS w' w.heap.size k D/\SlM D (l.take k)/\Below w.heap.size w w') (λ_ i _=>l.length-(intOf i).toNat)
 case atStart=>exact⟨0,_,by omega,rfl,World.ownsMap_made _ _ _ _,SlM.start,(A4 _ _).alloc (A3 _) _⟩
 case round =>
  obtain⟨k,D,hk,rfl,hmap,hD,hB⟩:=hrel;have HD:Hid (SlM D (l.take k)):=hD;clear hD;by_cases hp:k<l.length
  ·obtain⟨c0,c1⟩:=(h.up hB hb).cells k hp
   have z0:=hz l[k] (by simp)
   have HS:Hid (SlM (D.put (kl (l[k]).s) (slDat l[k])) (l.take (k+1))):=by
    show _
    rw[A7 hp];exact HD.out.step _
   have hkey:keyOf Tryz.prog 9 (.string (l[k]).s)=some (kl (l[k]).s):=WideMaps.keyOf_string_mk Tryz.underlying9 z0;generalize l[k]=x0 at *;clear HD z0;have hB1:=hB.alloc hB.size (.cells #[.string (x0).s,.string (x0).t] 81);have hmap1:=hmap.alloc (.cells #[.string (x0).s,.string (x0).t] 81);have hC:CB (wr.alloc (.cells #[.string (x0).s,.string (x0).t] 81)) wr.heap.size [.string x0.s,.string x0.t]:=E8 wr _ _;go_upto_region 5 with fail
   generalize wr.alloc (.cells #[.string (x0).s,.string (x0).t] 81)=W1 at *;obtain⟨⟨e0,e1⟩,-⟩:=hC.c2;clear c0 c1 hmap hB;go_wp2_with (at_mapUpdate;refine wpList_mapUpdate_own _ rfl _ _ _ 175 rfl 9 81 Ak5 Tryz.underlying175 _ w.heap.size k D rfl hmap1 (by unfold maxLen;omega) _ _ _ rfl rfl hkey _ [] (Afd _ _) ?_;intro w1 hown1 hgrow1)
   have hB2:=S7 hB1 hgrow1 (A3 _);clear hgrow1 hmap1 hB1 e0 e1 hC hkey;go_wp2_with fail
   go_roundw
   case rel=>exact⟨k+1,_,by omega,by go_num,hown1,HS.out,hB2⟩
   case measure=>simp[intOf];omega
  ·have HK:Hid (SlM D l):=by
    have:=HD.out;rw[D2 (by omega)] at this;exact this
   go_wp2_with fail
   go_ret
   exact⟨⟨_,D,rfl,hmap.mono hk,HK.out,A3 _⟩,hB⟩
theorem AiU (l:List Sl) (n b o c:Nat) (w:World) (hl:l.length=n) (h:SlAt w b o l) (hb:b<w.heap.size) (hn:n<=1048576) (hz:∀x∈l,x.s.size<=maxLen) :
  Calls Tryz.prog 122 #[.slice (some ⟨b,o,none⟩) n c] w λe w' =>
   (∃M D,e=.returned (.map (some M))/\MapS w' M n D/\SlM D l/\w.heap.size<=M)/\Below w.heap.size w w':=by
 subst hl;exact Abt l b o c w h hb hn hz
theorem AiV (c t:ByteArray) (w:World):(Instr.field 81 (.agg #[.string c,.string t]) 1).run Tryz.prog w=.ok (.string t) w:=by kernel_rfl
theorem Aei {w:World} {base e size n:Nat} {v:Value} {xs:List Value} (h:w.ownsRow base e size v n xs):∃a c,v=.slice a n c:=by
 rcases h.2 with⟨h1,h2⟩|⟨g,cap,_,hv,_⟩
 ·exact⟨_,_,by rw[h1,h2]⟩
 ·exact⟨_,_,hv⟩
theorem Abu (l:List Sl) (ss:List ByteArray) (M n:Nat) (D:DataW Unit) (v:Value) (w:World) (hmap:MapS w M n D) (hD:SlM D l) (h:Lst w v ss) (hz:∀s∈ss,s.size<=maxLen) (hn:ss.length<=800) :
  Calls Tryz.prog 123 #[.map (some M),v] w λe w'=>(∃u,e=.returned u/\OwnT w' w.heap.size u (namesOf (thI l ss)))/\Below w.heap.size w w':=by
 obtain⟨a,c,rfl⟩:=h.shape;have hML:=hmap.lt;obtain⟨ii,hi,iz0,iz1,iz2⟩:=info_parts L9;have HD:Hid (SlM D l):=hD;clear hD;have hfd:=AiV;go_enter Tryz.func123,Tryz.ntmps123
 go_wp2_with fail
 go_loopw [5,7,10] (λu _ i w'=>∃k:Nat,k<=ss.length/\i=.int .i64 k/\w'.ownsRow w.heap.size 9 1 u k (((ss.take k).map (lastT l)).map Value.string)/\Below w.heap.size w w') (λ_ _ i _=>ss.length-(intOf i).toNat)
 case atStart=>exact⟨0,by omega,rfl,⟨by simp,.inl ⟨rfl,rfl⟩⟩,A4 _ _⟩
 case round =>
  obtain⟨k,hk,rfl,hown,hB⟩:=hrel;by_cases hp:k<ss.length
  ·obtain⟨g,hc0⟩:∃g,w.cell? ⟨g,k,none⟩=some (.string ss[k])/\g<w.heap.size/\a=some ⟨g,0,none⟩:=by
    rcases h with⟨h1,h2⟩|⟨g,c',h1,hS,hg,-⟩
    ·subst h2;simp at hp
    ·simp only[Value.slice.injEq] at h1
     exact⟨g,by have:=hS k ss[k] (by simp);simpa using this,hg,h1.1⟩
   obtain⟨hc0,hg,rfl⟩:=hc0;have c0:=(hB.cell (p:=⟨g,k,none⟩) hg).trans hc0;have z0:=hz ss[k] (by simp);have hmap1:MapS wr M n D:=hmap.kept (row:=none) ⟨hB.os,hB.tape,hB.output,hB.size,λi hi _=>hB.block i hi⟩ (by simp)
   have Hs:Hid ((((ss.take (k+1)).map (lastT l)).map Value.string)=((ss.take k).map (lastT l)).map Value.string++[.string (lastT l ss[k])]):=by
    show _=_
    rw[A7 hp,List.map_append,List.map_append];rfl
   generalize ss[k]=s0 at *;have hz1:=hB.size
   go_wp2_with (first
    | (at_lookup;refine AcF _ rfl _ _ rfl M n D l rfl hmap1 HD.out s0 rfl z0 ?_;intro cc)
    | (at_builtin;refine wpList_append_own _ rfl _ _ 22 rfl w.heap.size 9 ii _ 1 16 Tryz.underlying22 hi iz0 iz1 iz2 rfl (by decide) _ _ _ rfl (E0 hown ((A4 wr.heap.size wr).alloc (A3 _) (.cells #[.string (lastT l s0)] 9))) ⟨wr.heap.size,0,none⟩ 1 1 [.string (lastT l s0)] rfl rfl (S1 _ _ _) (Abp _) (by unfold maxLen;omega) (by omega) (by simp;omega) ?_;intro v1 w1 hown3 hgrow3 _))
   rw[← Hs.out] at hown3;have hB3:=G4 (hB.alloc hB.size (.cells #[.string (lastT l s0)] 9)) (E0 hown ((A4 wr.heap.size wr).alloc (A3 _) (.cells #[.string (lastT l s0)] 9))) hgrow3 (A3 _);clear hown hgrow3 hB c0 hmap1;go_wp2_with fail
   go_roundw
   case rel=>exact⟨k+1,by omega,by go_num,hown3,hB3⟩
   case measure=>simp[intOf];omega
  ·have hkl:k=ss.length:=by omega
   rw[hkl,List.take_length] at hown;clear hkl;have HT:Hid (thI l ss=uniq (keys (ss.map (lastT l)))):=rfl;have Hl:Hid ((keys (ss.map (lastT l))).length=ss.length):=by show _=_;simp[keys]
   by_cases h0:ss.length=0
   ·have H0:Hid (ss=[]):=C4.1 h0
    rw[h0] at hown;obtain⟨ua,uc,hu⟩:=Aei hown;subst hu
    have HO:Hid (OwnT wr w.heap.size (.slice ua 0 uc) (namesOf (thI l ss))):=by
     show OwnT _ _ _ _
     have e:namesOf (thI l ss)=[]:=by
      have:=Aie l ss;rw[h0] at this;rw[C4.1 (Nat.le_zero.1 this)];rfl
     rw[e];rw[H0.out] at hown;exact hown
    clear hown h0;go_wp2_with fail
    refine (Tryz.slices_Sort_string_none _ _ _).mono ?_;rintro e w' ⟨rfl,hw⟩;obtain rfl:=hw.symm;clear hw;go_wp2_with fail
    refine (Tryz.slices_Compact_string_empty _ _ _).mono ?_;rintro e w' ⟨rfl,hw⟩;obtain rfl:=hw.symm;clear hw;go_wp2_with fail
    go_ret
    exact⟨⟨_,rfl,HO.out⟩,hB⟩
   ·rw[Acd] at hown
    generalize keys (ss.map (lastT l))=ks at *;obtain⟨n',hN⟩:∃n,n=ss.length:=⟨_,rfl⟩;have hlen:ks.length=n':=by rw[Hl.out,hN]
    rw[← hN] at hown;have hnp:0<n':=by omega
    have hn9:n'<=900:=by omega
    clear hN Hl h0;obtain⟨g,cap,hug⟩:=F2 hown hnp;subst hug;obtain⟨g',cap',hv,hbg,hgl,hncap,hcm,_,hH⟩:=Lib.holds_of_ownsRow hown (by simp);cases hv
    unfold maxLen at hcm;have hsort:=Tryz.slices_Sort_string g 0 cap ks wr hH hgl (by omega);rw[hlen] at hsort;go_wp2_with fail
    refine hsort.mono ?_;rintro e w3 ⟨rfl,nn,os,rfl⟩;clear hsort;have hl2:(ks.mergeSort λx y=>decide (x<=y)).length=n':=by rw[List.length_mergeSort];exact hlen
    have hH2:Holds encStr (grow (putRow encStr (Sort.ahead wr nn) g 0 (ks.mergeSort λx y=>decide (x<=y)).toArray) os) g 0 (ks.mergeSort λx y=>decide (x<=y)).toArray :=
     holds_grow encStr _ os g 0 _ (by simpa [putRow,mapBlock,Sort.ahead] using hgl) (holds_putRow encStr _ g 0 _ _ (holds_ahead encStr wr nn g 0 _ hH) (by simp))
    have hcomp:=Tryz.slices_Compact_string g 0 cap (ks.mergeSort λx y=>decide (x<=y)) _ hH2 (by omega) (by omega);rw[hl2] at hcomp;clear hH2 hH;go_wp2_with fail
    refine hcomp.mono ?_;rintro e w4 ⟨rfl,q,rfl⟩;obtain⟨ho,hB4⟩:=Aik (nn:=nn) (q:=q) (os:=os) hown hB hbg hlen;rw[← HT.out,AcA] at ho;clear hcomp;go_wp2_with fail
    go_ret
    refine⟨⟨_,rfl,?_⟩,hB4⟩;have hT:=HT.out;unfold uniq at hT;rw[← hT] at ho ⊢
    have hll:(namesOf (thI l ss)).length=(thI l ss).length:=by simp[namesOf]
    unfold OwnT;rw[hll];exact ho
end Go.Proofs.YtgecdacgmehmbaaGreatDoor
namespace Go.Proofs.YtgecdacgmehmbaaGreatDoor
open Go.RowKit Go.Shelf
theorem Ak7 (sa sb:List ByteArray) (n m:Nat) (a1 a2:Option Addr) (c1 c2:Nat) (w:World) (Hn:Hid (sa.length=n)) (Hm:Hid (sb.length=m)) (hn9:n<=maxLen) (hpa:0<n->∃b o,a1=some ⟨b,o,none⟩/\StrsAt w b o sa/\b<w.heap.size) (hpb:0<m->∃b o,a2=some ⟨b,o,none⟩/\StrsAt w b o sb/\b<w.heap.size) :
  Calls Tryz.prog 161 #[.slice a1 n c1,.slice a2 m c2] w λe w'=>e=.returned (.bool (pB (sa=sb)))/\Below w.heap.size w w':=by
 unfold maxLen at hn9;by_cases hll:n=m
 case neg =>
  have HN:Hid (pB (sa=sb)=false):=F1 λe=>hll (by rw[← Hn.out,← Hm.out,e]);go_enter Tryz.func161,Tryz.ntmps161
  go_wp2_with fail
  go_ret
  exact⟨D6 HN.out.symm,A4 _ _⟩
 subst hll;go_enter Tryz.func161,Tryz.ntmps161
 go_wp2_with fail
 go_loopw [5,13] (λ_ i w'=>∃k:Nat,k<=n/\i=.int .i64 k/\(∀i,i<k->sa[i]?=sb[i]?)/\Below w.heap.size w w') (λ_ i _=>n-(intOf i).toNat)
 case atStart=>exact⟨0,by omega,rfl,λi hi=>by omega,A4 _ _⟩
 case round =>
  obtain⟨k,hk,rfl,hal,hB⟩:=hrel;have Hal:Hid (∀i,i<k->sa[i]?=sb[i]?):=hal;clear hal;by_cases hp:k<n
  ·obtain⟨b1,o1,rfl,hS1,hb1⟩:=hpa (by omega)
   obtain⟨b2,o2,rfl,hS2,hb2⟩:=hpb (by omega);have h1:k<sa.length:=by have:=Hn.out;omega
   have h2:k<sb.length:=by have:=Hm.out;omega
   have e1:=(hB.cell (p:=⟨b1,o1+k,none⟩) hb1).trans (hS1 k sa[k] (A0 h1));have e2:=(hB.cell (p:=⟨b2,o2+k,none⟩) hb2).trans (hS2 k sb[k] (A0 h2))
   have N1:Hid (((sa[k]).toList==(sb[k]).toList)=false->¬sa=sb):=λhq e=>by
    subst e;simp at hq
   have N2:Hid (((sa[k]).toList==(sb[k]).toList)=true->∀i,i<k+1->sa[i]?=sb[i]?):=λhq i hi=>by
    rcases Nat.lt_or_ge i k with h'|h'
    ·exact Hal.out i h'
    ·obtain rfl:i=k:=by omega
     have e:sa[i]=sb[i]:=Z5 (by simpa using hq);rw[A0 h1,A0 h2,e]
   generalize sa[k]=s1 at *;generalize sb[k]=s2 at *;clear hS1 hS2;cases hq:(s1.toList==s2.toList)
   ·have HN:Hid (pB (sa=sb)=false):=F1 (N1.out hq)
    go_wp2_with fail
    go_quiet (fail)
    go_wp2_with fail
    go_ret
    exact⟨D6 HN.out.symm,E7 hB _⟩
   ·have HY:Hid (∀i,i<k+1->sa[i]?=sb[i]?):=N2.out hq
    go_wp2_with fail
    go_quiet (fail)
    go_wp2_with fail
    go_roundw
    case rel=>exact⟨k+1,by omega,by go_num,HY.out,E7 hB _⟩
    case measure=>simp[intOf];omega
  ·have HY:Hid (pB (sa=sb)=true):=G9 (List.ext_getElem? λi=>by
    by_cases hi:i<k
    ·exact Hal.out i hi
    ·rw[C6 (by have:=Hn.out;omega),C6 (by have:=Hm.out;omega)])
   go_wp2_with fail
   go_ret
   exact⟨D6 HY.out.symm,hB⟩
theorem Aej (sa sb:List ByteArray) (va vb:Value) (w:World) (ha:Ls w va sa) (hb:Ls w vb sb) :
  Calls Tryz.prog 161 #[va,vb] w λe w'=>e=.returned (.bool (pB (sa=sb)))/\Below w.heap.size w w':=by
 obtain⟨a1,c1,rfl,hn1,-,hp1⟩:=ha;obtain⟨a2,c2,rfl,-,-,hp2⟩:=hb;exact Ak7 sa sb _ _ a1 a2 c1 c2 w rfl rfl hn1 hp1 hp2
theorem Ak8 (sa sb:List ByteArray) (n m:Nat) (a1 a2:Option Addr) (c1 c2:Nat) (w:World) (Hn:Hid (sa.length=n)) (Hm:Hid (sb.length=m)) (hn9:n<=maxLen) (hpa:0<n->∃b o,a1=some ⟨b,o,none⟩/\StrsAt w b o sa/\b<w.heap.size) (hpb:0<m->∃b o,a2=some ⟨b,o,none⟩/\StrsAt w b o sb/\b<w.heap.size) :
  Calls Tryz.prog 163 #[.slice a1 n c1,.slice a2 m c2] w λe w'=>e=.returned (.bool (pB (sa=sb)))/\Below w.heap.size w w':=by
 unfold maxLen at hn9;by_cases hll:n=m
 case neg =>
  have HN:Hid (pB (sa=sb)=false):=F1 λe=>hll (by rw[← Hn.out,← Hm.out,e]);go_enter Tryz.func163,Tryz.ntmps163
  go_wp2_with fail
  go_ret
  exact⟨D6 HN.out.symm,A4 _ _⟩
 subst hll;go_enter Tryz.func163,Tryz.ntmps163
 go_wp2_with fail
 go_loopw [5,13] (λ_ i w'=>∃k:Nat,k<=n/\i=.int .i64 k/\(∀i,i<k->sa[i]?=sb[i]?)/\Below w.heap.size w w') (λ_ i _=>n-(intOf i).toNat)
 case atStart=>exact⟨0,by omega,rfl,λi hi=>by omega,A4 _ _⟩
 case round =>
  obtain⟨k,hk,rfl,hal,hB⟩:=hrel;have Hal:Hid (∀i,i<k->sa[i]?=sb[i]?):=hal;clear hal;by_cases hp:k<n
  ·obtain⟨b1,o1,rfl,hS1,hb1⟩:=hpa (by omega)
   obtain⟨b2,o2,rfl,hS2,hb2⟩:=hpb (by omega);have h1:k<sa.length:=by have:=Hn.out;omega
   have h2:k<sb.length:=by have:=Hm.out;omega
   have e1:=(hB.cell (p:=⟨b1,o1+k,none⟩) hb1).trans (hS1 k sa[k] (A0 h1));have e2:=(hB.cell (p:=⟨b2,o2+k,none⟩) hb2).trans (hS2 k sb[k] (A0 h2))
   have N1:Hid (((sa[k]).toList==(sb[k]).toList)=false->¬sa=sb):=λhq e=>by
    subst e;simp at hq
   have N2:Hid (((sa[k]).toList==(sb[k]).toList)=true->∀i,i<k+1->sa[i]?=sb[i]?):=λhq i hi=>by
    rcases Nat.lt_or_ge i k with h'|h'
    ·exact Hal.out i h'
    ·obtain rfl:i=k:=by omega
     have e:sa[i]=sb[i]:=Z5 (by simpa using hq);rw[A0 h1,A0 h2,e]
   generalize sa[k]=s1 at *;generalize sb[k]=s2 at *;clear hS1 hS2;cases hq:(s1.toList==s2.toList)
   ·have HN:Hid (pB (sa=sb)=false):=F1 (N1.out hq)
    go_wp2_with fail
    go_quiet (fail)
    go_wp2_with fail
    go_ret
    exact⟨D6 HN.out.symm,E7 hB _⟩
   ·have HY:Hid (∀i,i<k+1->sa[i]?=sb[i]?):=N2.out hq
    go_wp2_with fail
    go_quiet (fail)
    go_wp2_with fail
    go_roundw
    case rel=>exact⟨k+1,by omega,by go_num,HY.out,E7 hB _⟩
    case measure=>simp[intOf];omega
  ·have HY:Hid (pB (sa=sb)=true):=G9 (List.ext_getElem? λi=>by
    by_cases hi:i<k
    ·exact Hal.out i hi
    ·rw[C6 (by have:=Hn.out;omega),C6 (by have:=Hm.out;omega)])
   go_wp2_with fail
   go_ret
   exact⟨D6 HY.out.symm,hB⟩
theorem AiW (sa sb:List ByteArray) (va vb:Value) (w:World) (ha:Ls w va sa) (hb:Ls w vb sb) :
  Calls Tryz.prog 163 #[va,vb] w λe w'=>e=.returned (.bool (pB (sa=sb)))/\Below w.heap.size w w':=by
 obtain⟨a1,c1,rfl,hn1,-,hp1⟩:=ha;obtain⟨a2,c2,rfl,-,-,hp2⟩:=hb;exact Ak8 sa sb _ _ a1 a2 c1 c2 w rfl rfl hn1 hp1 hp2
section
open Go.Sort
theorem Agy (n:Nat) (w:World) (hn:n<4611686018427387904):Calls Tryz.prog 174 #[.int .u64 (n:Int)] w λe w'=>e=.returned (.int .i64 (bitsLen n:Nat))/\w'=w :=
 calls_of_every_depth λD=>Any.lenWalkInSAll (ρ:=Tryz.lays190_ren) {Tryz.lays190 with} D n w hn
theorem AlS (g cap:Nat) (ks:List Key) (w:World) (hH:Holds encStr w g 0 ks.toArray) (hg:g<w.heap.size) (hn:ks.length<=1000) :
  Calls Tryz.prog 173 #[.slice (some ⟨g,0,none⟩) ks.length cap,.int .i64 0,.int .i64 (ks.length:Nat),.int .i64 (bitsLen ks.length:Nat)] w λe w'=>e=.returned (.tuple #[])/\∃n os,w'=grow (putRow encStr (Sort.ahead w n) g 0 (ks.mergeSort λx y=>decide (x<=y)).toArray) os:=by
 have hk:bitsLen ks.length<=62:=(bitsLen_le_iff ks.length 62).2 (by omega);have hdp:=pdqDepth_le_59 ltStr ks.toArray 0 ks.length (bitsLen ks.length) true true (by omega);have h:=calls_of_every_depth λD=>(Any.pdqWalkInStr (ρ:=Tryz.lays190_ren) {Tryz.lays190 with} D) 65 g 0 cap 0 ks.length (bitsLen ks.length) ks.toArray w (by omega) hH hg (Nat.zero_le _) (by simp) (by simp;omega) (by omega) (Or.inl rfl)
 have e:Sort.pdq ltStr ks.toArray 0 ks.length (bitsLen ks.length) true true=(ks.mergeSort λx y=>decide (x<=y)).toArray:=by
  rw[← Any.sort_str_eqD];simp[Sort.sort]
 rw[e] at h;have h3:Calls Tryz.prog 173 _ _ _:=h;simpa using h3
theorem Ak9 (g cap:Nat) (ks:List Key) (w:World) (hH:Holds encStr w g 0 ks.toArray) (hg:g<w.heap.size) (hn:ks.length<=1000) :
  Calls Tryz.prog 160 #[.slice (some ⟨g,0,none⟩) ks.length cap] w λe w'=>e=.returned (.tuple #[])/\∃n os,w'=grow (putRow encStr (Sort.ahead w n) g 0 (ks.mergeSort λx y=>decide (x<=y)).toArray) os:=by
 have HH:Hid (Holds encStr w g 0 ks.toArray):=hH;clear hH;go_enter Tryz.func160,Tryz.ntmps160
 go_wp2_with (first
  | (go_at_call 174;refine (Agy ks.length _ (by omega)).mono ?_;rintro e w' ⟨rfl,hw⟩;obtain rfl:=hw.symm;clear hw)
  | (go_at_call 173;refine (AlS g cap ks _ HH.out hg hn).mono ?_;rintro e w' ⟨rfl,n,os,rfl⟩))
 go_end0
 exact⟨rfl,n,os,rfl⟩
theorem AiX (p:Option Addr) (cap:Nat) (w:World) :
  Calls Tryz.prog 160 #[.slice p 0 cap] w λe w'=>e=.returned (.tuple #[])/\w'=w:=by
 have hl:=λw=>Agy 0 w (by omega);have e0:bitsLen 0=0:=by decide
 rw[e0] at hl;go_enter Tryz.func160,Tryz.ntmps160
 go_wp2_with (first
  | (go_at_call 174;refine (hl _).mono ?_;rintro e w' ⟨rfl,hw⟩;obtain rfl:=hw.symm;clear hw)
  | (go_at_call 173;refine (calls_of_every_depth λD=>AnyS.pdqsort_string_none_in (ρ:=Tryz.lays190_ren) {Tryz.lays190 with} D p cap w).mono ?_;rintro e w' ⟨rfl,hw⟩;obtain rfl:=hw.symm;clear hw))
 go_end0
 exact⟨rfl,rfl⟩
end
end Go.Proofs.YtgecdacgmehmbaaGreatDoor
namespace Go.Proofs.YtgecdacgmehmbaaGreatDoor
open Go.RowKit
theorem Ah0 (x:Ba) (hv nv:Value) (l:Int) (w:World) (h1:Ls w hv x.has) (h2:Ls w nv x.needs) (hz:x.nm.size<=maxLen) (hl:0<=l) (hl':l<=1048576) :
  Calls Tryz.prog 97 #[.agg #[.string x.nm,hv,nv],.int .i64 l] w λe w'=>(∃y:Int,e=.returned (.int .i64 y)/\y<=l/\(0<=y->x.has.length<=1048576/\x.needs.length<=1048576))/\Below w.heap.size w w':=by
 obtain⟨a1,c1,rfl,-⟩:=id h1;obtain⟨a2,c2,rfl,-⟩:=id h2;unfold maxLen at hz;have hB0:=(A4 w.heap.size w).alloc (A3 _) (.cells #[.string x.nm,.slice a1 x.has.length c1,.slice a2 x.needs.length c2] 142);by_cases h0:l-x.nm.size<0
 ·go_enter Tryz.func97,Tryz.ntmps97
  go_wp2
  go_ret
  exact⟨⟨_,rfl,by omega,by omega⟩,hB0⟩
 go_enter Tryz.func97,Tryz.ntmps97
 go_wp2_with fail
 refine (AcC x.has _ _ _ (h1.up hB0) (by omega) (by omega)).mono ?_;rintro e w' ⟨⟨y1,rfl,hy1,hy1'⟩,hw⟩;obtain rfl:=hw.symm;by_cases g1:y1<0
 ·go_wp2_with fail
  go_ret
  exact⟨⟨_,rfl,by omega,by omega⟩,hB0⟩
 go_wp2_with fail
 refine (AcC x.needs _ _ _ (h2.up hB0) (by omega) (by omega)).mono ?_;rintro e w' ⟨⟨y2,rfl,hy2,hy2'⟩,hw⟩;obtain rfl:=hw.symm;by_cases g2:y2<0
 ·go_wp2_with fail
  go_ret
  exact⟨⟨_,rfl,by omega,by omega⟩,hB0⟩
 go_wp2_with fail
 go_ret
 exact⟨⟨_,rfl,by omega,λ_=>⟨by omega,by omega⟩⟩,hB0⟩
def Small (b:Bk):Prop:=b.things.length<=1048576/\b.bs.length<=1048576/\∀x∈b.bs,x.has.length<=1048576/\x.needs.length<=1048576
theorem Agz (bs:List Ba) (v:Value) (l:Int) (w:World) (h:Bs w v bs) (hl:0<=l) (hl':l<=1048576) :
  Calls Tryz.prog 54 #[v,.int .i64 l] w λe w'=>(∃x:Int,e=.returned (.int .i64 x)/\x<=l/\(0<=x->bs.length<=1048576/\∀y∈bs,y.has.length<=1048576/\y.needs.length<=1048576))/\Below w.heap.size w w':=by
 obtain⟨a,c,rfl,hn,hpos⟩:=h;unfold maxLen at hn;by_cases h0:l-bs.length<0
 ·go_enter Tryz.func54,Tryz.ntmps54
  go_wp2
  go_ret
  exact⟨⟨_,rfl,by omega,by omega⟩,A4 _ _⟩
 have H0:Hid ((bs.length:Int)<=l):=by show _<=_;omega
 go_enter Tryz.func54,Tryz.ntmps54
 go_wp2
 go_loopw [1,5] (λx i w'=>∃(k:Nat) (y:Int),k<=bs.length/\i=.int .i64 k/\x=.int .i64 y/\0<=y/\y<=l/\(∀(j:Nat) (z:Ba),j<k->bs[j]?=some z->z.has.length<=1048576/\z.needs.length<=1048576)/\Below w.heap.size w w') (λ_ i _=>bs.length-(intOf i).toNat)
 case atStart=>exact⟨0,_,by omega,rfl,rfl,by omega,by omega,λj z hj=>by omega,A4 _ _⟩
 case round =>
  obtain⟨k,y,hk,rfl,rfl,hy,hy',hall,hB⟩:=hrel;have Hall:Hid (∀(j:Nat) (z:Ba),j<k->bs[j]?=some z->z.has.length<=1048576/\z.needs.length<=1048576):=hall;clear hall;by_cases hp:k<bs.length
  ·obtain⟨b,o,rfl,hS,hb⟩:=hpos (by omega)
   obtain⟨a1,d1,a2,d2,c0,c1,c2,l1,l2,z0⟩:=((hS.at hp).up hB hb).cells;have Hx:Hid (bs[k]?=some bs[k]):=A0 hp;generalize bs[k]=x0 at *;go_wp2_with fail
   refine (Ah0 x0 _ _ _ _ l1 l2 z0 hy (by omega)).mono ?_;rintro e w1 ⟨⟨y1,rfl,hy1,hy1'⟩,hb1⟩;have hB1:=D5 hB hb1;clear c0 c1 c2 l1 l2 hS;by_cases g1:y1<0
   ·go_wp2_with fail
    go_ret
    exact⟨⟨_,rfl,by omega,by omega⟩,hB1⟩
   ·have H1:Hid (x0.has.length<=1048576/\x0.needs.length<=1048576):=hy1' (by omega)
    clear hy1';go_wp2_with fail
    go_roundw
    case rel =>
     refine⟨k+1,y1,by omega,by go_num,rfl,by omega,by omega,λj z hj hz=>?_,hB1⟩;by_cases e:j=k
     ·subst e
      rw[Hx.out] at hz;obtain rfl:=A5 hz;exact H1.out
     ·exact Hall.out j z (by omega) hz
    case measure=>simp[intOf];omega
  ·go_wp2_with fail
   go_ret
   refine⟨⟨_,rfl,by omega,λ_=>⟨by have:=H0.out;omega,λz hz=>?_⟩⟩,hB⟩;obtain⟨j,hj,rfl⟩:=B5 hz;exact Hall.out j _ (by omega) (by rw[A0])
theorem AiY (b:Bk) (v:Value) (l:Int) (w:World) (h:BkV w v b) (hl:0<=l) (hl':l<=1048576) :
  Calls Tryz.prog 19 #[v,.int .i64 l] w λe w'=>(∃x:Int,e=.returned (.int .i64 x)/\x<=l/\(0<=x->Small b))/\Below w.heap.size w w':=by
 obtain⟨a1,c1,a2,c2,rfl,h1,h2⟩:=h.parts;have hB0:=(A4 w.heap.size w).alloc (A3 _) (.cells #[.slice a1 b.things.length c1,.slice a2 b.bs.length c2] 25);go_enter Tryz.func19,Tryz.ntmps19
 go_wp2_with fail
 refine (AcC b.things _ _ _ (h1.up hB0) hl hl').mono ?_;rintro e w' ⟨⟨y1,rfl,hy1,hy1'⟩,hw⟩;obtain rfl:=hw.symm;by_cases g1:y1<0
 ·go_wp2_with fail
  go_ret
  exact⟨⟨_,rfl,by omega,by omega⟩,hB0⟩
 go_wp2_with fail
 refine (Agz b.bs _ _ _ (h2.up hB0) (by omega) (by omega)).mono ?_;rintro e w1 ⟨⟨y2,rfl,hy2,hy2'⟩,hb1⟩;have hB1:=D5 hB0 hb1;by_cases g2:y2<0
 ·go_wp2_with fail
  go_ret
  exact⟨⟨_,rfl,by omega,by omega⟩,hB1⟩
 have H2:=hy2' (by omega);clear hy2';go_wp2_with fail
 go_ret
 exact⟨⟨_,rfl,by omega,λ_=>⟨by omega,H2.1,H2.2⟩⟩,hB1⟩
theorem Air:(Tryz.prog.info? 118).map (·.size)=some 3:=by kernel_rfl
theorem sizeBk:(Tryz.prog.info? 37).map (·.size)=some 2:=by kernel_rfl
theorem Ah1 (x:Ba) (hv nv:Value) (w:World) (h1:Ls w hv x.has) (h2:Ls w nv x.needs) (hn:x.has.length<=1048576) (hn2:x.needs.length<=1048576) :
  Calls Tryz.prog 113 #[.agg #[.string x.nm,hv,nv]] w λe w'=>(∃hu nu,e=.returned (.agg #[.string x.nm,hu,nu])/\LsO w' w.heap.size hu x.has/\LsO w' w.heap.size nu x.needs)/\Below w.heap.size w w':=by
 obtain⟨a1,c1,rfl,-⟩:=id h1;obtain⟨a2,c2,rfl,-⟩:=id h2;go_enter Tryz.func113,Tryz.ntmps113
 go_upto_region 2 with fail
 obtain⟨W1,hW1,kP,kR,kO,hB1,hs1⟩:=Adv w [.string x.nm,.slice a1 x.has.length c1,.slice a2 x.needs.length c2] 142 [.string ⟨#[]⟩,.slice none 0 0,.slice none 0 0] 118 [.string ⟨#[]⟩,.slice none 0 0,.slice none 0 0] 118;rw[hW1];clear hW1;obtain⟨W2,hW2,kP2,kR2,kO2,hB2,hs2⟩:∃W2,W1.setCell ⟨w.heap.size+2,0,none⟩ (.string x.nm)=W2/\CB W2 w.heap.size [.string x.nm,.slice a1 x.has.length c1,.slice a2 x.needs.length c2]/\CB W2 (w.heap.size+1) [.string ⟨#[]⟩,.slice none 0 0,.slice none 0 0]/\CB W2 (w.heap.size+2) [.string x.nm,.slice none 0 0,.slice none 0 0]/\Below w.heap.size w W2/\W2.heap.size=w.heap.size+3:=⟨_,rfl,kP.other (by omega),kR.other (by omega),kO.set (j:=0) (by simp),I7 hB1 (by omega) _,by simpa using hs1⟩;obtain⟨⟨p0,p1,p2⟩,-⟩:=kP.c3;obtain⟨⟨o0,o1,o2⟩,f0,f1,f2⟩:=kO.c3;go_upto_region 3 with fail
 try rw[hW2]
 clear hW2 p0 p1 p2 o0 o1 o2 f0 f1 f2 kP kR kO hB1 hs1;obtain⟨⟨p0,p1,p2⟩,-⟩:=kP2.c3;go_wp2_with fail
 refine (AcD x.has _ _ (h1.up hB2) hn).mono ?_;rintro e w3 ⟨⟨hu,rfl,ho1⟩,hb3⟩;rw[hs2] at ho1;have hz3:=hb3.size;have kP3:=kP2.up hb3 (by omega);have kR3:=kR2.up hb3 (by omega);have kO3:=kO2.up hb3 (by omega);have hB3:=D5 hB2 hb3;obtain⟨b1,hb1⟩:=ho1.shape;subst hb1;clear p0 p1 p2 kP2 kR2 kO2 hB2 hb3;obtain⟨W4,hW4,kP4,kR4,kO4,ho4,hB4,hs4⟩:∃W4,w3.setCell ⟨w.heap.size+2,1,none⟩ (.slice (some ⟨b1,0,none⟩) x.has.length x.has.length)=W4/\CB W4 w.heap.size [.string x.nm,.slice a1 x.has.length c1,.slice a2 x.needs.length c2]/\CB W4 (w.heap.size+1) [.string ⟨#[]⟩,.slice none 0 0,.slice none 0 0]/\CB W4 (w.heap.size+2) [.string x.nm,.slice (some ⟨b1,0,none⟩) x.has.length x.has.length,.slice none 0 0]/\LsO W4 (w.heap.size+3) (.slice (some ⟨b1,0,none⟩) x.has.length x.has.length) x.has/\Below w.heap.size w W4/\W4.heap.size=w3.heap.size:=⟨_,rfl,kP3.other (by omega),kR3.other (by omega),kO3.set (j:=1) (by simp),ho1.set (by omega),I7 hB3 (by omega) _,by simp⟩;obtain⟨⟨o0,o1,o2⟩,f0,f1,f2⟩:=kO3.c3;go_upto_region 4 with fail
 try rw[hW4]
 clear hW4 o0 o1 o2 f0 f1 f2 kP3 kR3 kO3 ho1 hB3;obtain⟨⟨p0,p1,p2⟩,-⟩:=kP4.c3;go_wp2_with fail
 refine (AcD x.needs _ _ (h2.up hB4) hn2).mono ?_;rintro e w5 ⟨⟨nu,rfl,ho2⟩,hb5⟩;have hz5:=hb5.size;have kR5:=kR4.up hb5 (by omega);have kO5:=kO4.up hb5 (by omega);have ho5:=ho4.up hb5;have ho6:=ho2.low (base':=w.heap.size+3) (by omega);have hB5:=D5 hB4 hb5;obtain⟨b2,hb2⟩:=ho2.shape;subst hb2;clear p0 p1 p2 kP4 kR4 kO4 hB4 hb5 ho4 ho2;obtain⟨⟨o0,o1,o2⟩,f0,f1,f2⟩:=kO5.c3;obtain⟨⟨r0,r1,r2⟩,g0,g1,g2⟩:=kR5.c3;have hR6:=kR5.other (q:=w.heap.size+2) (j:=2) (u:=.slice (some ⟨b2,0,none⟩) x.needs.length x.needs.length) (by omega);go_wp2_with fail
 refine AhW Tryz.results113 Tryz.underlying118 rfl Air hR6 rfl ?_;refine⟨⟨_,_,rfl,?_,?_⟩,AdN (I7 hB5 (by omega) _) (by omega) _ _ _⟩
 ·exact ((((ho5.set (by omega)).set (by omega)).set (by omega)).set (by omega)).low (by omega)
 ·exact ((((ho6.set (by omega)).set (by omega)).set (by omega)).set (by omega)).low (by omega)
theorem AmW:(Tryz.prog.info? 118).map (λi=>(i.zero,i.size,i.bytes))=some (some (.agg #[.string ⟨#[]⟩,.slice none 0 0,.slice none 0 0]),3,64):=by kernel_rfl
theorem Ag0 (n:Nat) (hn:n<=1048576):∃C:Array Value,C.size=n*3/\∀w,(Instr.makeSlice 35 (.int .i64 (n:Int)) (.int .i64 (n:Int))).run Tryz.prog w=.ok (.slice (some ⟨w.heap.size,0,none⟩) n n) (w.alloc (.cells C 118)):=by
 obtain⟨i,hi,hz⟩:=B4.1 AmW;simp only[Prod.mk.injEq] at hz;obtain⟨hz,hs,hb⟩:=hz;refine⟨madeCells (Value.agg #[.string ⟨#[]⟩,.slice none 0 0,.slice none 0 0]).cells (n*3),size_madeCells _ _,λw=>?_⟩;have:=run_make (P:=Tryz.prog) w 35 118 i _ Tryz.underlying35 hi hz .i64 .i64 (n:Int) (n:Int) (by omega) (by omega) (by rw[hb];omega) (by omega);simp only[Int.toNat_natCast,hs] at this;exact this
theorem Ag1 (bs:List Ba) (v:Value) (w:World) (h:Bs w v bs) (hn:bs.length<=1048576) (hsm:∀y∈bs,y.has.length<=1048576/\y.needs.length<=1048576) :
  Calls Tryz.prog 77 #[v] w λe w'=>(∃u,e=.returned u/\BsO w' w.heap.size u bs)/\Below w.heap.size w w':=by
 obtain⟨a,c,rfl,hm,hpos⟩:=h;obtain⟨C,hC,hmk⟩:=Ag0 bs.length hn;have HC:Hid (C.size=bs.length*3):=hC;have Hm:Hid (bs.length<=maxLen):=hm;clear hC hm;go_enter Tryz.func77,Tryz.ntmps77
 go_wp2
 go_loopw [4] (λi w'=>∃k:Nat,k<=bs.length/\i=.int .i64 k/\BsOAt w' w.heap.size (bs.take k)/\w'.there w.heap.size 0 (bs.length*3)/\w.heap.size<w'.heap.size/\Below w.heap.size w w') (λi _=>bs.length-(intOf i).toNat)
 case atStart=>exact⟨0,by omega,rfl,λi p hp=>by simp at hp,by rw[← HC.out];exact S2 _ _ _,by simp,by go_grown⟩
 case round =>
  obtain⟨k,hk,rfl,hra,hth,hlt,hB⟩:=hrel;have Hra:Hid (BsOAt wr w.heap.size (bs.take k)):=hra;have Hth:Hid (wr.there w.heap.size 0 (bs.length*3)):=hth;clear hra hth;by_cases hp:k<bs.length
  ·obtain⟨b,o,rfl,hS,hb⟩:=hpos (by omega)
   obtain⟨a1,d1,a2,d2,c0,c1,c2,l1,l2,z0⟩:=((hS.at hp).up hB hb).cells;obtain⟨s1,s2⟩:=hsm bs[k] (by simp);have HS:Hid (∀(w1:World) (hu nu:Value),BsOAt w1 w.heap.size (bs.take k)->w1.there w.heap.size 0 (bs.length*3)->LsO w1 (w.heap.size+1) hu (bs[k]).has->LsO w1 (w.heap.size+1) nu (bs[k]).needs->BsOAt (w1.setCells w.heap.size (k*3) [.string (bs[k]).nm,hu,nu]) w.heap.size (bs.take (k+1))):=λw1 hu nu g1 g2 g3 g4=>AjT hp g1 g2 g3 g4 z0;generalize bs[k]=x0 at *;go_wp2_with fail
   refine (Ah1 x0 _ _ _ l1 l2 s1 s2).mono ?_;rintro e w1 ⟨⟨hu,nu,rfl,ho1,ho2⟩,hb1⟩;have HS1:Hid (BsOAt (w1.setCells w.heap.size (k*3) [.string x0.nm,hu,nu]) w.heap.size (bs.take (k+1))):=HS.out w1 hu nu (Hra.out.up hb1 hlt) (I3 Hth.out hb1 hlt) (ho1.low (by omega)) (ho2.low (by omega));have hB1:=D5 hB hb1;have hlt1:=A1 hlt hb1.size;have Hth1:Hid (w1.there w.heap.size 0 (bs.length*3)):=I3 Hth.out hb1 hlt;obtain⟨b1,rfl⟩:=ho1.shape;obtain⟨b2,rfl⟩:=ho2.shape;clear c0 c1 c2 l1 l2 hS HS ho1 ho2 hb1 hB Hra Hth
   go_wp2_with (refine wpList_store_mid rfl 118 _ _ rfl w.heap.size (k*3) _ rfl rfl (λj hj=>by
     have:=Hth1.out (k*3+j) (by simp at hj;omega);simpa using this) Air (by simp[Value.oneCell']) ?_)
   go_roundw
   case rel=>exact⟨k+1,by omega,by go_num,HS1.out,World.there_setCells Hth1.out _ _ _,A1 hlt1 (R8 _ _ _ _),M0 _ _ _ _ _ _ hB1 (A3 _)⟩
   case measure=>simp[intOf];omega
  ·go_wp2_with fail
   go_ret
   exact⟨⟨_,rfl,w.heap.size,rfl,by have:=Hra.out;rwa [D2 (by omega)] at this,Hth.out,A3 _,hlt,Hm.out⟩,hB⟩
theorem BsO.shape {w:World} {base:Nat} {v:Value} {bs:List Ba} (h:BsO w base v bs):∃b,v=.slice (some ⟨b,0,none⟩) bs.length bs.length:=by
 obtain⟨b,rfl,-⟩:=h;exact⟨b,rfl⟩
theorem BaO.set {w:World} {b o r j:Nat} {u:Value} {x:Ba} (h:BaO w b o x) (hr:r<b):BaO (w.setCell ⟨r,j,none⟩ u) b o x:=by
 obtain⟨hv,nv,hg,h1,h2,h3⟩:=h;refine⟨hv,nv,λi v hi=>?_,h1.set (by omega),h2.set (by omega),h3⟩;rw[B9 _ _ _ _ (by simp<;>omega)];exact hg i v hi
theorem BsO.set {w:World} {base r j:Nat} {v u:Value} {bs:List Ba} (h:BsO w base v bs) (hr:r<base):BsO (w.setCell ⟨r,j,none⟩ u) base v bs:=by
 obtain⟨b,rfl,h1,ht,h0,h2,h3⟩:=h;exact⟨b,rfl,λi x hx=>(h1 i x hx).set (by omega),AdQ ht (D9 (E1 _ (some r)) u) h2 (by simp;omega),h0,by simpa using h2,h3⟩
theorem BsO.low {w:World} {base base':Nat} {v:Value} {bs:List Ba} (h:BsO w base v bs) (hb:base'<=base):BsO w base' v bs:=by
 obtain⟨b,rfl,h1,ht,h0,h2⟩:=h;exact⟨b,rfl,h1,ht,by omega,h2⟩
theorem AiZ (b:Bk) (v:Value) (w:World) (h:BkV w v b) (hs:Small b) :
  Calls Tryz.prog 33 #[v] w λe w'=>(∃u,e=.returned u/\BkO w' w.heap.size u b)/\Below w.heap.size w w':=by
 obtain⟨a1,c1,a2,c2,rfl,h1,h2⟩:=h.parts;obtain⟨g1,g2,g3⟩:=hs;go_enter Tryz.func33,Tryz.ntmps33
 go_upto_region 2 with fail
 obtain⟨W1,hW1,kP,kR,kO,hB1,hs1⟩:=Adv w [.slice a1 b.things.length c1,.slice a2 b.bs.length c2] 25 [.slice none 0 0,.slice none 0 0] 37 [.slice none 0 0,.slice none 0 0] 37;try rw[hW1]
 clear hW1;obtain⟨⟨p0,p1⟩,-⟩:=kP.c2;go_wp2_with fail
 refine (AcD b.things _ _ (h1.up hB1) g1).mono ?_;rintro e w3 ⟨⟨tu,rfl,ho1⟩,hb3⟩;rw[hs1] at ho1;have hz3:=hb3.size;have kP3:=kP.up hb3 (by omega);have kR3:=kR.up hb3 (by omega);have kO3:=kO.up hb3 (by omega);have hB3:=D5 hB1 hb3;obtain⟨b1,hb1⟩:=ho1.shape;subst hb1;clear p0 p1 kP kR kO hB1 hb3;obtain⟨W4,hW4,kP4,kR4,kO4,ho4,hB4,hs4⟩:∃W4,w3.setCell ⟨w.heap.size+2,0,none⟩ (.slice (some ⟨b1,0,none⟩) b.things.length b.things.length)=W4/\CB W4 w.heap.size [.slice a1 b.things.length c1,.slice a2 b.bs.length c2]/\CB W4 (w.heap.size+1) [.slice none 0 0,.slice none 0 0]/\CB W4 (w.heap.size+2) [.slice (some ⟨b1,0,none⟩) b.things.length b.things.length,.slice none 0 0]/\LsO W4 (w.heap.size+3) (.slice (some ⟨b1,0,none⟩) b.things.length b.things.length) b.things/\Below w.heap.size w W4/\W4.heap.size=w3.heap.size:=⟨_,rfl,kP3.other (by omega),kR3.other (by omega),kO3.set (j:=0) (by simp),ho1.set (by omega),I7 hB3 (by omega) _,by simp⟩;obtain⟨⟨o0,o1⟩,f0,f1⟩:=kO3.c2;go_upto_region 3 with fail
 try rw[hW4]
 clear hW4 o0 o1 f0 f1 kP3 kR3 kO3 ho1 hB3;obtain⟨⟨p0,p1⟩,-⟩:=kP4.c2;go_wp2_with fail
 refine (Ag1 b.bs _ _ (h2.up hB4) g2 g3).mono ?_;rintro e w5 ⟨⟨nu,rfl,ho2⟩,hb5⟩;have hz5:=hb5.size;have kR5:=kR4.up hb5 (by omega);have kO5:=kO4.up hb5 (by omega);have ho5:=ho4.up hb5
 have hb1m:b1<W4.heap.size:=by
  obtain⟨b',e,-,-,-,hlt,-⟩:=ho4;have:b1=b':=by simpa using e
  omega
 have hB5:=D5 hB4 hb5;obtain⟨b2,hb2⟩:=ho2.shape;subst hb2;clear p0 p1 kP4 kR4 kO4 hB4 hb5 ho4;obtain⟨⟨o0,o1⟩,f0,f1⟩:=kO5.c2;obtain⟨⟨r0,r1⟩,g0,g1⟩:=kR5.c2;have hR6:=kR5.other (q:=w.heap.size+2) (j:=1) (u:=.slice (some ⟨b2,0,none⟩) b.bs.length b.bs.length) (by omega);go_wp2_with fail
 refine Aby Tryz.results33 Tryz.underlying37 rfl sizeBk hR6 rfl ?_;refine⟨⟨_,rfl,_,_,W4.heap.size,rfl,?_,?_,by omega,λg hg=>?_⟩,G3 (I7 hB5 (by omega) _) (by omega) _ _⟩
 ·exact (((ho5.set (by omega)).set (by omega)).set (by omega)).low (by omega)
 ·exact (((ho2.set (by omega)).set (by omega)).set (by omega))
 ·simp[Value.ownBlock] at hg
  omega
theorem Ah2 (x:Ba) (hv nv hu nu:Value) (w:World) (h1:Ls w hv x.has) (h2:Ls w nv x.needs) (h3:Ls w hu x.has) (h4:Ls w nu x.needs) :
  Calls Tryz.prog 130 #[.agg #[.string x.nm,hv,nv],.agg #[.string x.nm,hu,nu]] w λe w'=>e=.returned (.bool true)/\Below w.heap.size w w':=by
 obtain⟨a1,c1,rfl,-⟩:=id h1;obtain⟨a2,c2,rfl,-⟩:=id h2;obtain⟨a3,c3,rfl,-⟩:=id h3;obtain⟨a4,c4,rfl,-⟩:=id h4;go_enter Tryz.func130,Tryz.ntmps130
 go_upto_region 1 with fail
 obtain⟨W1,hW1,kP,kR,hB1,hs1⟩:=L8 w [.string x.nm,.slice a1 x.has.length c1,.slice a2 x.needs.length c2] 118 [.string x.nm,.slice a3 x.has.length c3,.slice a4 x.needs.length c4] 118;try rw[hW1]
 clear hW1;obtain⟨⟨p0,p1,p2⟩,-⟩:=kP.c3;obtain⟨⟨r0,r1,r2⟩,-⟩:=kR.c3;go_wp2_with fail
 refine (Ad8 x.has _ _ _ (h1.up hB1) (h3.up hB1)).mono ?_;rintro e w2 ⟨rfl,hb2⟩;have kP2:=kP.up hb2 (by omega);have kR2:=kR.up hb2 (by omega);have hB2:=D5 hB1 hb2;clear p0 p1 p2 r0 r1 r2 kP kR;obtain⟨⟨p0,p1,p2⟩,-⟩:=kP2.c3;obtain⟨⟨r0,r1,r2⟩,-⟩:=kR2.c3;go_wp2_with fail
 refine (Ad8 x.needs _ _ _ (h2.up hB2) (h4.up hB2)).mono ?_;rintro e w3 ⟨rfl,hb3⟩;have hB3:=D5 hB2 hb3;clear p0 p1 p2 r0 r1 r2;go_wp2_with fail
 go_ret
 exact⟨rfl,hB3⟩
theorem Ag2 (bs:List Ba) (va vb:Value) (w:World) (ha:Bs w va bs) (hb:Bs w vb bs) :
  Calls Tryz.prog 88 #[va,vb] w λe w'=>e=.returned (.bool true)/\Below w.heap.size w w':=by
 obtain⟨a1,c1,rfl,hn,hp1⟩:=ha;obtain⟨a2,c2,rfl,-,hp2⟩:=hb;unfold maxLen at hn;go_enter Tryz.func88,Tryz.ntmps88
 go_wp2
 go_loopw [5] (λi w'=>∃k:Nat,k<=bs.length/\i=.int .i64 k/\Below w.heap.size w w') (λi _=>bs.length-(intOf i).toNat)
 case atStart=>exact⟨0,by omega,rfl,A4 _ _⟩
 case round =>
  obtain⟨k,hk,rfl,hB⟩:=hrel;by_cases hp:k<bs.length
  ·obtain⟨g1,o1,rfl,hS1,hg1⟩:=hp1 (by omega)
   obtain⟨g2,o2,rfl,hS2,hg2⟩:=hp2 (by omega);obtain⟨a3,d3,a4,d4,c3,c4,c5,l3,l4,-⟩:=((hS1.at hp).up hB hg1).cells;obtain⟨a5,d5,a6,d6,e3,e4,e5,l5,l6,-⟩:=((hS2.at hp).up hB hg2).cells;have HQ:Hid (∀W,Ls W (.slice a3 (bs[k]).has.length d3) (bs[k]).has->Ls W (.slice a4 (bs[k]).needs.length d4) (bs[k]).needs->Ls W (.slice a5 (bs[k]).has.length d5) (bs[k]).has->Ls W (.slice a6 (bs[k]).needs.length d6) (bs[k]).needs->Calls Tryz.prog 130 #[.agg #[.string (bs[k]).nm,.slice a3 (bs[k]).has.length d3,.slice a4 (bs[k]).needs.length d4],.agg #[.string (bs[k]).nm,.slice a5 (bs[k]).has.length d5,.slice a6 (bs[k]).needs.length d6]] W λe w'=>e=.returned (.bool true)/\Below W.heap.size W w'):=λW q1 q2 q3 q4=>Ah2 bs[k] _ _ _ _ W q1 q2 q3 q4;generalize bs[k]=x0 at *;go_wp2_with fail
   go_region_with (go_at_call 130;refine (HQ.out _ (by exact l3) (by exact l4) (by exact l5) (by exact l6)).mono ?_;rintro e w1 ⟨rfl,hb1⟩)
   all_goals
    have hB1:=D5 hB.drew hb1;clear c3 c4 c5 e3 e4 e5;go_wp2_with fail
    go_roundw
    case rel=>exact⟨k+1,by omega,by go_num,hB1⟩
    case measure=>simp[intOf];omega
  ·go_wp2_with fail
   go_ret
   exact⟨rfl,hB⟩
theorem Aja (b:Bk) (va vb:Value) (w:World) (ha:BkV w va b) (hb:BkV w vb b) :
  Calls Tryz.prog 41 #[va,vb] w λe w'=>e=.returned (.bool true)/\Below w.heap.size w w':=by
 obtain⟨a1,c1,a2,c2,rfl,h1,h2⟩:=ha.parts;obtain⟨a3,c3,a4,c4,rfl,h3,h4⟩:=hb.parts;go_enter Tryz.func41,Tryz.ntmps41
 go_upto_region 1 with fail
 obtain⟨W1,hW1,kP,kR,hB1,hs1⟩:=L8 w [.slice a1 b.things.length c1,.slice a2 b.bs.length c2] 37 [.slice a3 b.things.length c3,.slice a4 b.bs.length c4] 37;try rw[hW1]
 clear hW1;obtain⟨⟨p0,p1⟩,-⟩:=kP.c2;obtain⟨⟨r0,r1⟩,-⟩:=kR.c2;go_wp2_with fail
 refine (Ad8 b.things _ _ _ (h1.up hB1) (h3.up hB1)).mono ?_;rintro e w2 ⟨rfl,hb2⟩;have kP2:=kP.up hb2 (by omega);have kR2:=kR.up hb2 (by omega);have hB2:=D5 hB1 hb2;clear p0 p1 r0 r1 kP kR;obtain⟨⟨p0,p1⟩,-⟩:=kP2.c2;obtain⟨⟨r0,r1⟩,-⟩:=kR2.c2;go_wp2_with fail
 refine (Ag2 b.bs _ _ _ (h2.up hB2) (h4.up hB2)).mono ?_;rintro e w3 ⟨rfl,hb3⟩;have hB3:=D5 hB2 hb3;clear p0 p1 r0 r1;go_wp2_with fail
 go_ret
 exact⟨rfl,hB3⟩
theorem Ace (b:Bk) (v:Value) (s:ByteArray) (w:World) (h:BkV w v b) :
  Calls Tryz.prog 71 #[v,.string s] w λe w'=>e=.returned (.int .i64 (idxI (nms b.bs) s))/\Below w.heap.size w w':=by
 obtain⟨a1,c1,a2,c2,rfl,h1,h2⟩:=h.parts;have hC:CB (w.alloc (.cells #[.slice a1 (b).things.length c1,.slice a2 (b).bs.length c2] 37)) w.heap.size [.slice a1 b.things.length c1,.slice a2 b.bs.length c2]:=E8 w _ _;have hB0:=(A4 w.heap.size w).alloc (A3 _) (.cells #[.slice a1 (b).things.length c1,.slice a2 (b).bs.length c2] 37);have g2:=h2.at.1;unfold maxLen at g2;go_enter Tryz.func71,Tryz.ntmps71
 go_upto_region 1 with fail
 generalize w.alloc (.cells #[.slice a1 (b).things.length c1,.slice a2 (b).bs.length c2] 37)=W1 at *;have l2:=h2.up hB0;clear h h1 h2;obtain⟨e0,e1⟩:=hC.c2';obtain⟨-,hpos⟩:=l2.at;go_wp2_with fail
 go_loop [5] (λi=>∃k:Nat,k<=b.bs.length/\i=.int .i64 k/\memS ((nms b.bs).take k) s=false) (λi=>b.bs.length-(intOf i).toNat)
 case atStart=>exact⟨0,by omega,rfl,rfl⟩
 case round =>
  obtain⟨k,hk,rfl,hal⟩:=hrel;have Hal:Hid (memS ((nms b.bs).take k) s=false):=hal;clear hal;by_cases hp:k<b.bs.length
  ·obtain⟨bb,o,rfl,hS,hb⟩:=hpos (by omega)
   obtain⟨a3,d3,a4,d4,c3,c4,c5,-,-,-⟩:=(hS.at hp).cells;have hp':k<(nms b.bs).length:=by rw[I0];exact hp
   have Hn:Hid ((nms b.bs)[k]=(b.bs[k]).nm):=Q8 b.bs k hp;cases hq:((b.bs[k]).nm.toList==s.toList)
   ·have Hq:Hid (memS ((nms b.bs).take (k+1)) s=false):=Aay hp' Hal.out (by rw[Hn.out];exact hq)
    generalize b.bs[k]=x0 at *;go_wp2_with fail
    go_round
    case rel=>exact⟨k+1,by omega,by go_num,Hq.out⟩
    case measure=>simp[intOf];omega
   ·have Hq:Hid (idxI (nms b.bs) s=(k:Int)):=U0 hp' Hal.out (by rw[Hn.out];exact hq)
    generalize b.bs[k]=x0 at *;go_wp2_with fail
    go_ret
    exact⟨O3 Hq.out.symm,hB0⟩
  ·have Hq:Hid (idxI (nms b.bs) s=-1):=R3 (AaJ (by rw[I0];exact hp) Hal.out)
   go_wp2_with fail
   go_ret
   exact⟨O3 Hq.out.symm,hB0⟩
theorem AkA (b:Bk) (v gv:Value) (at':Nat) (gone:List ByteArray) (w:World) (h:BkV w v b) (hg:Ls w gv gone) (hat:at'<b.bs.length) :
  Calls Tryz.prog 158 #[v,.int .i64 at',gv] w λe w'=>e=.returned (.bool (pB (Can b.bs at' gone)))/\Below w.heap.size w w':=by
 obtain⟨a1,c1,a2,c2,rfl,h1,h2⟩:=h.parts;have hC:CB (w.alloc (.cells #[.slice a1 (b).things.length c1,.slice a2 (b).bs.length c2] 37)) w.heap.size [.slice a1 b.things.length c1,.slice a2 b.bs.length c2]:=E8 w _ _;have hB0:=(A4 w.heap.size w).alloc (A3 _) (.cells #[.slice a1 (b).things.length c1,.slice a2 (b).bs.length c2] 37);have g2:=h2.at.1;unfold maxLen at g2;go_enter Tryz.func158,Tryz.ntmps158
 go_upto_region 1 with fail
 generalize w.alloc (.cells #[.slice a1 (b).things.length c1,.slice a2 (b).bs.length c2] 37)=W1 at *;have l2:=h2.up hB0;have lg:=hg.up hB0;clear h h1 h2 hg;obtain⟨e0,e1⟩:=hC.c2';obtain⟨-,hpos⟩:=l2.at;obtain⟨bb,o,rfl,hS,hb⟩:=hpos (by omega);obtain⟨a5,d5,a6,d6,-,-,c8,-,l6,-⟩:=(hS.at hat).cells;go_wp2_with fail
 go_loopw [7] (λi w'=>∃k m:Nat,k<=b.bs.length/\i=.int .i64 k/\CanTo b.bs at' gone k/\w'=W1.drewN m) (λi _=>b.bs.length-(intOf i).toNat)
 case atStart=>exact⟨0,0,by omega,rfl,CanTo.zero _ _ _,rfl⟩
 case round =>
  obtain⟨k,m,hk,rfl,hal,hw⟩:=hrel;have Hw:Hid (wr=W1.drewN m):=hw;have Hal:Hid (CanTo b.bs at' gone k):=hal;have hBw:Below W1.heap.size W1 wr:=by rw[hw];exact E7 (A4 _ _) _
  clear hw hal;have f1:wr.cell? ⟨w.heap.size,1,none⟩=some (.slice (some ⟨bb,o,none⟩) b.bs.length c2):=by rw[Hw.out];exact e1
  by_cases hp:k<b.bs.length
  ·by_cases hka:k=at'
   ·subst hka
    have Hs:Hid (CanTo b.bs k gone (k+1)):=Hal.out.step hp hat (.inl rfl);go_wp2_with fail
    go_quiet (fail)
    go_wp2_with fail
    go_roundw
    case rel =>
     obtain⟨m',hm'⟩:=L6 (n:=nq) Hw.out;exact⟨k+1,m',by omega,by go_num,Hs.out,hm'⟩
    case measure=>simp[intOf];omega
   have hkb:((k:Int) != (at':Int))=true:=by rw[bne_iff_ne];omega
   obtain⟨a3,d3,a4,d4,c3,c4,-,l3,-,-⟩:=(hS.at hp).cells;have c3':wr.cell? ⟨bb,o+k*3,none⟩=some (.string (b.bs[k]).nm):=by rw[Hw.out];exact c3
   have c4':wr.cell? ⟨bb,o+k*3+1,none⟩=some (.slice a3 (b.bs[k]).has.length d3):=by rw[Hw.out];exact c4
   have c8':wr.cell? ⟨bb,o+at'*3+2,none⟩=some (.slice a6 (b.bs[at']).needs.length d6):=by rw[Hw.out];exact c8
   have HY:Hid (memS gone (b.bs[k]).nm=true∨shareB (b.bs[k]).has (b.bs[at']).needs=false->CanTo b.bs at' gone (k+1)):=λh=>Hal.out.step hp hat (.inr h);have HN:Hid (memS gone (b.bs[k]).nm=false->shareB (b.bs[k]).has (b.bs[at']).needs=true->¬Can b.bs at' gone):=λh1 h2=>can_no hp hat hka h1 h2;have R1:Hid (∀n,Calls Tryz.prog 108 #[gv,.string (b.bs[k]).nm] (wr.drewN n) λe w''=>e=.returned (.bool (memS gone (b.bs[k]).nm))/\∃m,w''=wr.drewN m):=λn=>Calls.quiet_of_same (N9 gone gv _ _ (by have e:=Hw.out;subst e;exact lg));have R2:Hid (∀n,Calls Tryz.prog 106 #[.slice a3 (b.bs[k]).has.length d3,.slice a6 (b.bs[at']).needs.length d6] (wr.drewN n) λe w''=>e=.returned (.bool (shareB (b.bs[k]).has (b.bs[at']).needs))/\∃m,w''=wr.drewN m):=λn=>Calls.quiet_of_same (Aat _ _ _ _ _ (by have e:=Hw.out;subst e;exact l3) (by have e:=Hw.out;subst e;exact l6));clear c3 c4 l3;generalize b.bs[k]=x0 at *;generalize b.bs[at']=y0 at *;obtain⟨hv,hhv⟩:∃hv,Value.slice a3 x0.has.length d3=hv:=⟨_,rfl⟩;obtain⟨nv,hnv⟩:∃nv,Value.slice a6 y0.needs.length d6=nv:=⟨_,rfl⟩;rw[hhv] at c4' R2;rw[hnv] at c8' R2;clear hhv hnv;cases hm:memS gone x0.nm
   case true =>
    have Hs:Hid (CanTo b.bs at' gone (k+1)):=HY.out (.inl hm);have Q1:Hid (∀n,Calls Tryz.prog 108 #[gv,.string x0.nm] (wr.drewN n) λe w''=>e=.returned (.bool true)/\∃m,w''=wr.drewN m):=by have:=R1.out;rw[hm] at this;exact this
    have q1:=Q1.out;clear Q1 R1 R2 HY HN;go_wp2_with fail
    go_quiet ((go_at_call 108;exact q1 _))
    go_wp2_with fail
    go_roundw
    case rel =>
     obtain⟨m',hm'⟩:=L6 (n:=nq) Hw.out;exact⟨k+1,m',by omega,by go_num,Hs.out,hm'⟩
    case measure=>simp[intOf];omega
   have Q1:Hid (∀n,Calls Tryz.prog 108 #[gv,.string x0.nm] (wr.drewN n) λe w''=>e=.returned (.bool false)/\∃m,w''=wr.drewN m):=by have:=R1.out;rw[hm] at this;exact this
   cases hs:shareB x0.has y0.needs
   ·have Hs:Hid (CanTo b.bs at' gone (k+1)):=HY.out (.inr hs)
    have Q2:Hid (∀n,Calls Tryz.prog 106 #[hv,nv] (wr.drewN n) λe w''=>e=.returned (.bool false)/\∃m,w''=wr.drewN m):=by have:=R2.out;rw[hs] at this;exact this
    have q1:=Q1.out;have q2:=Q2.out;clear Q1 Q2 R1 R2 HY HN;go_wp2_with fail
    go_quiet ((first|(go_at_call 108;exact q1 _)|(go_at_call 106;exact q2 _)))
    go_wp2_with fail
    go_roundw
    case rel =>
     obtain⟨m',hm'⟩:=L6 (n:=nq) Hw.out;exact⟨k+1,m',by omega,by go_num,Hs.out,hm'⟩
    case measure=>simp[intOf];omega
   ·have Hs:Hid (¬Can b.bs at' gone):=HN.out hm hs
    have Q2:Hid (∀n,Calls Tryz.prog 106 #[hv,nv] (wr.drewN n) λe w''=>e=.returned (.bool true)/\∃m,w''=wr.drewN m):=by have:=R2.out;rw[hs] at this;exact this
    have q1:=Q1.out;have q2:=Q2.out;clear Q1 Q2 R1 R2 HY HN;go_wp2_with fail
    go_quiet ((first|(go_at_call 108;exact q1 _)|(go_at_call 106;exact q2 _)))
    go_wp2_with fail
    go_ret
    exact⟨D6 (F1 Hs.out).symm,D5 hB0 (E7 hBw _)⟩
  ·have Hs:Hid (Can b.bs at' gone):=AmB Hal.out hp
   go_wp2_with fail
   go_ret
   exact⟨D6 (G9 Hs.out).symm,D5 hB0 hBw⟩
def Marked (ys:List ByteArray) (m:Int) (k:Nat):Prop:=∀i:Nat,i<k->ys[i]?=some (mkB (m+i))
theorem Marked.set {ys:List ByteArray} {m:Int} {k:Nat} (h:Marked ys m k) (hk:k<ys.length):Marked (ys.set k (mkB (m+k))) m (k+1):=λi hi=>by
 rw[List.getElem?_set];by_cases e:k=i
 ·subst e;rw[if_pos rfl,if_pos hk]
 ·rw[if_neg e];exact h i (by omega)
theorem AcG (ss:List ByteArray) (base:Nat) (u:Value) (m:Int) (w:World) (h:OwnT w base u ss) (hn:ss.length<=1000) (hm:1<=m) (hm9:m<=1000000) :
  Calls Tryz.prog 91 #[u,.int .i64 m] w λe w'=>e=.returned (.int .i64 (m+ss.length))/\(∃ys,ys.length=ss.length/\Marked ys m ss.length/\OwnT w' base u ys)/\w.grownBy w' u.ownBlock:=by
 by_cases h0:ss=[]
 ·subst h0
  obtain⟨a1,c1,rfl⟩:=h.lst.shape;simp only[List.length_nil];have HO:Hid (OwnT w base (.slice a1 0 c1) []):=h;clear h;go_enter Tryz.func91,Tryz.ntmps91
  go_wp2
  go_rounds 1
  go_ret
  exact⟨by simp,⟨[],rfl,λi hi=>by omega,HO.out⟩,E1 _ _⟩
 have hpos:0<ss.length:=by
  rcases C3 ss.length with h1|h1
  ·exact absurd (C4.1 h1) h0
  ·exact h1
 obtain⟨g,cap,rfl⟩:=F2 h hpos;go_enter Tryz.func91,Tryz.ntmps91
 go_wp2
 go_loopw [1,5] (λkk i w'=>∃(k:Nat) (ys:List ByteArray),k<=ss.length/\i=.int .i64 k/\kk=.int .i64 (m+k)/\ys.length=ss.length/\Marked ys m k/\w'.ownsRow base 9 1 (.slice (some ⟨g,0,none⟩) ss.length cap) ss.length (ys.map Value.string)/\w.grownBy w' (some g)) (λ_ i _=>ss.length-(intOf i).toNat)
 case atStart=>exact⟨0,ss,by omega,rfl,by simp,rfl,λi hi=>by omega,h,E1 _ _⟩
 case round =>
  obtain⟨k,ys,hk,rfl,rfl,hyl,hM,hown,hG⟩:=hrel;by_cases hp:k<ss.length
  ·go_wp2_with fail
   refine (F8 (m+k) wr (by omega)).mono ?_;rintro e w1 ⟨rfl,hB1⟩;have hown1:=E0 hown hB1;have hG1:=E3 hG (K1 (r:=some g) hB1);have c0:=hown1.cellAt k (by omega);rw[B0,A0 (by omega)] at c0;have f0:=hown1.frozenAt k;have hst:=hown1.stored k (.string (mkB (m+k)));have hM':=hM.set (by omega)
   have Hst:Hid ((w1.setCell ⟨g,k,none⟩ (.string (mkB (m+k)))).ownsRow base 9 1 (.slice (some ⟨g,0,none⟩) ss.length cap) ss.length ((ys.set k (mkB (m+k))).map Value.string)/\w.grownBy (w1.setCell ⟨g,k,none⟩ (.string (mkB (m+k)))) (some g)):=by
    refine⟨?_,E3 hG1 hst.2⟩;rw[List.map_set];exact hst.1
   have HM:Hid (Marked (ys.set k (mkB (m+k))) m (k+1)):=hM';have hyl':(ys.set k (mkB (m+k))).length=ss.length:=by rw[List.length_set];exact hyl
   have Hyl:Hid ((ys.set k (mkB (m+k))).length=ss.length):=hyl';clear hown hB1 hG hown1 hG1 hst hM' hM hyl';simp only[Option.map_some] at c0;generalize mkB (m+k)=mb at *;go_wp2_with fail
   go_roundw
   case rel=>exact⟨k+1,ys.set k mb,by omega,by go_num,by go_num,Hyl.out,HM.out,Hst.out.1,Hst.out.2⟩
   case measure=>simp[intOf];omega
  ·obtain rfl:k=ss.length:=by omega
   go_wp2_with fail
   go_ret
   exact⟨rfl,⟨ys,hyl,hM,by unfold OwnT;rw[hyl];exact hown⟩,hG⟩
theorem AcH (ys:List ByteArray) (base:Nat) (u:Value) (m:Int) (w:World) (h:OwnT w base u ys) (hM:Marked ys m ys.length) (hn:ys.length<=1000) (hm:1<=m) (hm9:m<=1000000) :
  Calls Tryz.prog 93 #[u,.int .i64 m] w λe w'=>e=.returned (.int .i64 (m+ys.length))/\Below w.heap.size w w':=by
 by_cases h0:ys=[]
 ·subst h0
  obtain⟨a1,c1,rfl⟩:=h.lst.shape;simp only[List.length_nil];clear h hM;go_enter Tryz.func93,Tryz.ntmps93
  go_wp2
  go_rounds 1
  go_ret
  exact⟨by simp,A4 _ _⟩
 have hpos:0<ys.length:=by
  rcases C3 ys.length with h1|h1
  ·exact absurd (C4.1 h1) h0
  ·exact h1
 obtain⟨g,cap,rfl⟩:=F2 h hpos;have hg:=(h.lt g rfl).2
 have hcell:∀k,k<ys.length->w.cell? ⟨g,k,none⟩=some (.string (mkB (m+k))):=λk hk=>by
  rw[h.cellAt k (by omega),B0,hM k hk];rfl
 have Hcell:Hid (∀k,k<ys.length->w.cell? ⟨g,k,none⟩=some (.string (mkB (m+k)))):=hcell;clear hcell h hM;go_enter Tryz.func93,Tryz.ntmps93
 go_wp2
 go_loopw [1,5] (λkk i w'=>∃k:Nat,k<=ys.length/\i=.int .i64 k/\kk=.int .i64 (m+k)/\Below w.heap.size w w') (λ_ i _=>ys.length-(intOf i).toNat)
 case atStart=>exact⟨0,by omega,rfl,by simp,A4 _ _⟩
 case round =>
  obtain⟨k,hk,rfl,rfl,hB⟩:=hrel;by_cases hp:k<ys.length
  ·have c0:=(hB.cell (p:=⟨g,k,none⟩) hg).trans (Hcell.out k hp)
   go_wp2_with fail
   have hS:Below w.heap.size w wr/\wr.cell? ⟨g,k,none⟩=some (.string (mkB (m+k))):=⟨hB,c0⟩;clear c0
   go_region_held (λw'=>Below w.heap.size w w'/\w'.cell? ⟨g,k,none⟩=some (.string (mkB (m+k)))) (first|exact⟨hS.1.drew,hS.2⟩|exact Z4 hg (by assumption) (by assumption))
    (first|(go_at_call 49;refine (F8 (m+k) _ (by omega)).mono ?_;rintro e w1 ⟨rfl,hB1⟩))
   rename_i hHeld;have hB3:=hHeld.1;clear hHeld hS hB;generalize mkB (m+k)=mb at *;go_wp2_with fail
   go_roundw
   case rel=>exact⟨k+1,by omega,by go_num,by go_num,hB3⟩
   case measure=>simp[intOf];omega
  ·obtain rfl:k=ys.length:=by omega
   go_wp2_with fail
   go_ret
   exact⟨rfl,hB⟩
end Go.Proofs.YtgecdacgmehmbaaGreatDoor
