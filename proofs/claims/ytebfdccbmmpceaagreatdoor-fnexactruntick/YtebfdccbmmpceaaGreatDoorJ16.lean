/- The program's slots of a batch: a map while a call lasts, the things of slots (chapter 21). -/
import Derived.Test.YtebfdccbmmpceaaGreatDoorJ12
import Derived.Test.YtebfdccbmmpceaaGreatDoorJ15
import Derived.Maps.OwnSet
import Derived.Maps.OwnOps
import Derived.Test.YtebfdccbmmpceaaGreatDoorJ9
import Derived.Test.YtebfdccbmmpceaaGreatDoorJ4
import Derived.Deep.RegionHeld
import Derived.Test.YtebfdccbmmpceaaGreatDoorJ14
set_option maxRecDepth 100000
set_option maxHeartbeats 4000000
namespace Go.Proofs.YtebfdccbmmpceaaGreatDoor
open Go.RowKit Go.Maps Go.Shelf Go.Sort
def Sl.cells (x:Sl):List Value:=[.string x.s,.string x.t]
def SlAt (w:World) (b o:Nat) (l:List Sl):Prop:=∀(i:Nat) (x:Sl),l[i]?=some x->w.rangeAt b (o+i*2) x.cells
theorem SlAt.cells {w:World} {b o:Nat} {l:List Sl} (h:SlAt w b o l) (i:Nat) (hi:i<l.length):w.cell? ⟨b,o+i*2,none⟩=some (.string (l[i]).s)/\w.cell? ⟨b,o+i*2+1,none⟩=some (.string (l[i]).t):=by
 have hr:=h i l[i] (by simp);exact⟨hr 0 _ rfl,hr 1 _ rfl⟩
theorem SlAt.up {w w':World} {b o B:Nat} {l:List Sl} (h:SlAt w b o l) (hb:Below B w w') (hB:b<B):SlAt w' b o l:=λi x hx j v hv=>by
 rw[hb.cell (p:=⟨b,o+i*2+j,none⟩) hB];exact h i x hx j v hv
def slDat (x:Sl):DataW Unit:=.agg [.lit (.string x.s.data.toList),.lit (.string x.t.data.toList)]
def slElem (v:Value):Option (DataW Unit×List MemPlace):=match v with
 | .agg a=>match a.toList with
  | [.string s,.string t]=>some (slDat ⟨s,t⟩,[])
  | _=>none
 | _=>none
theorem Afu (s t:ByteArray):slElem (.agg #[.string s,.string t])=some (slDat ⟨s,t⟩,[]):=rfl
theorem Ajq {v:Value} {z:DataW Unit×List MemPlace} (h:slElem v=some z):∃s t,v=.agg #[.string s,.string t]/\z=(slDat ⟨s,t⟩,[]):=by
 unfold slElem at h;split at h
 ·rename_i a
  split at h
  ·rename_i s t hl
   refine⟨s,t,?_,(A5 h).symm⟩;rw[← Array.toArray_toList (xs:=a),hl]
  ·cases h
 ·cases h
abbrev MapS (w:World) (M n:Nat) (D:DataW Unit):Prop:=w.ownsMap Tryz.prog 9 slElem M n D
theorem AkZ:Keyed Tryz.prog 9:=string_keyed Tryz.underlying9
theorem zeroSl (w:World):(zeroValue 169).run Tryz.prog w=.ok (.agg #[.string ⟨#[]⟩,.string ⟨#[]⟩]) w:=by kernel_rfl
def SlM (D:DataW Unit) (l:List Sl):Prop:=IsMap D/\∀(s:ByteArray) (z:Sl),z.t=⟨#[]⟩->∃x:Sl,D.atKey (kl s) (slDat z)=slDat x/\x.t=lastT l s
theorem SlM.start:SlM (.map []) []:=⟨⟨[],rfl⟩,λs z hz=>⟨z,rfl,by rw[hz];rfl⟩⟩
theorem SlM.step {D:DataW Unit} {l:List Sl} (h:SlM D l) (x:Sl):SlM (D.put (kl x.s) (slDat x)) (l++[x]):=by
 refine⟨h.1.put _ _,λs z hz=>?_⟩;rw[Ajo];by_cases e:kl s=kl x.s
 ·obtain rfl:=Ak2 e
  exact⟨x,atKey_put_same h.1 (Agi _) _ _,by simp⟩
 ·obtain⟨y,h1,h2⟩:=h.2 s z hz
  have hne:¬(x.s.toList==s.toList)=true:=λh=>e (by rw[M6 (beq_iff_eq.1 h)]);exact⟨y,by rw[atKey_put_other e];exact h1,by rw[if_neg hne];exact h2⟩
theorem Ala {x y:Sl} (h:slDat x=slDat y):x.t=y.t:=by
 unfold slDat at h;simp only[DataW.agg.injEq,List.cons.injEq,DataW.lit.injEq,Lit.string.injEq] at h;have:=h.2.1;cases hx:x.t;cases hy:y.t
 rw[hx,hy] at this;simpa using this
theorem Ade (w:World) {ops:Array Oper} {rest:List Oper} {o:Oper} {a:Act} {Q:Exit->Act->World->Prop}
  (hg:o.guard=none) (m x:Operand) (hop:o.op=Op.lookup 205 m x false) (M n:Nat) (D:DataW Unit) (l:List Sl)
  (hm:a.eval m=.map (some M)) (hown:MapS w M n D) (hD:SlM D l) (s:ByteArray) (hx:a.eval x=.string s) (hs:s.size<=maxLen)
  (hK:∀c:ByteArray,wpList Tryz.prog ops Q rest (a.put o.dst (.agg #[.string c,.string (lastT l s)])) w) :
  wpList Tryz.prog ops Q (o::rest) a w:=by
 refine wpList_plain hg λK' hK'=>?_;obtain⟨v,ps,hrun,hv⟩:=hown.lookup AkZ Tryz.underlying205 (zeroSl w) (Afu _ _) (WideMaps.keyOf_string_mk Tryz.underlying9 hs);obtain⟨c,t,rfl,hz⟩:=Ajq hv;obtain⟨y,h1,h2⟩:=hD.2 s ⟨⟨#[]⟩,⟨#[]⟩⟩ rfl;have h3:D.atKey (kl s) (slDat ⟨⟨#[]⟩,⟨#[]⟩⟩)=slDat ⟨c,t⟩:=congrArg Prod.fst hz;have ht:t=lastT l s:=by rw[← h2,← Ala (x:=⟨c,t⟩) (y:=y) (by rw[← h3,h1])]
 subst ht;unfold Oper.wp;simp[execOp,hop,hm,hx,hrun,Result.andThen];exact hK' _ _ (hK c)
theorem AbF (l:List Sl) (b o c:Nat) (w:World) (h:SlAt w b o l) (hb:b<w.heap.size) (hn:l.length<=1048576) (hz:∀x∈l,x.s.size<=maxLen) :
  Calls Tryz.prog 142 #[.slice (some ⟨b,o,none⟩) l.length c] w λe w' =>
   (∃M D,e=.returned (.map (some M))/\MapS w' M l.length D/\SlM D l/\w.heap.size<=M)/\Below w.heap.size w w':=by
 have hmm:=@run_makeMap Tryz.prog;go_enter Tryz.func142,Tryz.ntmps142
 go_wp2_with fail
 go_loopw [5,9] (λ_ i w'=>∃(k:Nat) (D:DataW Unit),k<=l.length/\i=.int .i64 k/\MapS w' w.heap.size k D/\SlM D (l.take k)/\Below w.heap.size w w') (λ_ i _=>l.length-(intOf i).toNat)
 case atStart=>exact⟨0,_,by omega,rfl,World.ownsMap_made _ _ _ _,SlM.start,(A4 _ _).alloc (A3 _) _⟩
 case round =>
  obtain⟨k,D,hk,rfl,hmap,hD,hB⟩:=hrel;have HD:Hid (SlM D (l.take k)):=hD;clear hD;by_cases hp:k<l.length
  ·obtain⟨c0,c1⟩:=(h.up hB hb).cells k hp
   have z0:=hz l[k] (by simp)
   have HS:Hid (SlM (D.put (kl (l[k]).s) (slDat l[k])) (l.take (k+1))):=by
    show _
    rw[A7 hp];exact HD.out.step _
   have hkey:keyOf Tryz.prog 9 (.string (l[k]).s)=some (kl (l[k]).s):=WideMaps.keyOf_string_mk Tryz.underlying9 z0;generalize l[k]=x0 at *;clear HD z0;have hB1:=hB.alloc hB.size (.cells #[.string (x0).s,.string (x0).t] 169);have hmap1:=hmap.alloc (.cells #[.string (x0).s,.string (x0).t] 169);have hC:CB (wr.alloc (.cells #[.string (x0).s,.string (x0).t] 169)) wr.heap.size [.string x0.s,.string x0.t]:=E7 wr _ _;go_upto_region 5 with fail
   generalize wr.alloc (.cells #[.string (x0).s,.string (x0).t] 169)=W1 at *;obtain⟨⟨e0,e1⟩,-⟩:=hC.c2;clear c0 c1 hmap hB;go_wp2_with (at_mapUpdate;refine wpList_mapUpdate_own _ rfl _ _ _ 205 rfl 9 169 AkZ Tryz.underlying205 _ w.heap.size k D rfl hmap1 (by unfold maxLen;omega) _ _ _ rfl rfl hkey _ [] (Afu _ _) ?_;intro w1 hown1 hgrow1)
   have hB2:=S9 hB1 hgrow1 (A3 _);clear hgrow1 hmap1 hB1 e0 e1 hC hkey;go_wp2_with fail
   go_roundw
   case rel=>exact⟨k+1,_,by omega,by go_num,hown1,HS.out,hB2⟩
   case measure=>simp[intOf];omega
  ·have HK:Hid (SlM D l):=by
    have:=HD.out;rw[D3 (by omega)] at this;exact this
   go_wp2_with fail
   go_ret
   exact⟨⟨_,D,rfl,hmap.mono hk,HK.out,A3 _⟩,hB⟩
theorem Ajr (l:List Sl) (n b o c:Nat) (w:World) (hl:l.length=n) (h:SlAt w b o l) (hb:b<w.heap.size) (hn:n<=1048576) (hz:∀x∈l,x.s.size<=maxLen) :
  Calls Tryz.prog 142 #[.slice (some ⟨b,o,none⟩) n c] w λe w' =>
   (∃M D,e=.returned (.map (some M))/\MapS w' M n D/\SlM D l/\w.heap.size<=M)/\Below w.heap.size w w':=by
 subst hl;exact AbF l b o c w h hb hn hz
theorem Ajs (c t:ByteArray) (w:World):(Instr.field 169 (.agg #[.string c,.string t]) 1).run Tryz.prog w=.ok (.string t) w:=by kernel_rfl
theorem Ae4 {w:World} {base e size n:Nat} {v:Value} {xs:List Value} (h:w.ownsRow base e size v n xs):∃a c,v=.slice a n c:=by
 rcases h.2 with⟨h1,h2⟩|⟨g,cap,_,hv,_⟩
 ·exact⟨_,_,by rw[h1,h2]⟩
 ·exact⟨_,_,hv⟩
theorem AbG (l:List Sl) (ss:List ByteArray) (M n:Nat) (D:DataW Unit) (v:Value) (w:World) (hmap:MapS w M n D) (hD:SlM D l) (h:Lst w v ss) (hz:∀s∈ss,s.size<=maxLen) (hn:ss.length<=800) :
  Calls Tryz.prog 143 #[.map (some M),v] w λe w'=>(∃u,e=.returned u/\OwnT w' w.heap.size u (namesOf (thI l ss)))/\Below w.heap.size w w':=by
 obtain⟨a,c,rfl⟩:=h.shape;have hML:=hmap.lt;obtain⟨ii,hi,iz0,iz1,iz2⟩:=info_parts M1;have HD:Hid (SlM D l):=hD;clear hD;have hfd:=Ajs;go_enter Tryz.func143,Tryz.ntmps143
 go_wp2_with fail
 go_loopw [5,7,10] (λu _ i w'=>∃k:Nat,k<=ss.length/\i=.int .i64 k/\w'.ownsRow w.heap.size 9 1 u k (((ss.take k).map (lastT l)).map Value.string)/\Below w.heap.size w w') (λ_ _ i _=>ss.length-(intOf i).toNat)
 case atStart=>exact⟨0,by omega,rfl,⟨by simp,.inl ⟨rfl,rfl⟩⟩,A4 _ _⟩
 case round =>
  obtain⟨k,hk,rfl,hown,hB⟩:=hrel;by_cases hp:k<ss.length
  ·obtain⟨g,hc0⟩:∃g,w.cell? ⟨g,k,none⟩=some (.string ss[k])/\g<w.heap.size/\a=some ⟨g,0,none⟩:=by
    rcases h with⟨h1,h2⟩|⟨g,c',h1,hS,hg,-⟩
    ·subst h2;simp at hp
    ·simp only[Value.slice.injEq] at h1
     exact⟨g,by have:=hS k ss[k] (by simp);simpa using this,hg,h1.1⟩
   obtain⟨hc0,hg,rfl⟩:=hc0;have c0:=(hB.cell (p:=⟨g,k,none⟩) hg).trans hc0;have z0:=hz ss[k] (by simp);have hmap1:MapS wr M n D:=hmap.kept (row:=none) ⟨hB.os,hB.tape,hB.output,hB.size,λi hi _=>hB.block i hi⟩ (by simp)
   have Hs:Hid ((((ss.take (k+1)).map (lastT l)).map Value.string)=((ss.take k).map (lastT l)).map Value.string++[.string (lastT l ss[k])]):=by
    show _=_
    rw[A7 hp,List.map_append,List.map_append];rfl
   generalize ss[k]=s0 at *;have hz1:=hB.size
   go_wp2_with (first
    | (at_lookup;refine Ade _ rfl _ _ rfl M n D l rfl hmap1 HD.out s0 rfl z0 ?_;intro cc)
    | (at_builtin;refine wpList_append_own _ rfl _ _ 22 rfl w.heap.size 9 ii _ 1 16 Tryz.underlying22 hi iz0 iz1 iz2 rfl (by decide) _ _ _ rfl (E1 hown ((A4 wr.heap.size wr).alloc (A3 _) (.cells #[.string (lastT l s0)] 9))) ⟨wr.heap.size,0,none⟩ 1 1 [.string (lastT l s0)] rfl rfl (Q8 _ _ _) (AaY _) (by unfold maxLen;omega) (by omega) (by simp;omega) ?_;intro v1 w1 hown3 hgrow3 _))
   rw[← Hs.out] at hown3;have hB3:=I3 (hB.alloc hB.size (.cells #[.string (lastT l s0)] 9)) (E1 hown ((A4 wr.heap.size wr).alloc (A3 _) (.cells #[.string (lastT l s0)] 9))) hgrow3 (A3 _);clear hown hgrow3 hB c0 hmap1;go_wp2_with fail
   go_roundw
   case rel=>exact⟨k+1,by omega,by go_num,hown3,hB3⟩
   case measure=>simp[intOf];omega
  ·have hkl:k=ss.length:=by omega
   rw[hkl,List.take_length] at hown;clear hkl;have HT:Hid (thI l ss=uniq (keys (ss.map (lastT l)))):=rfl;have Hl:Hid ((keys (ss.map (lastT l))).length=ss.length):=by show _=_;simp[keys]
   by_cases h0:ss.length=0
   ·have H0:Hid (ss=[]):=C5.1 h0
    rw[h0] at hown;obtain⟨ua,uc,hu⟩:=Ae4 hown;subst hu
    have HO:Hid (OwnT wr w.heap.size (.slice ua 0 uc) (namesOf (thI l ss))):=by
     show OwnT _ _ _ _
     have e:namesOf (thI l ss)=[]:=by
      have:=AiG l ss;rw[h0] at this;rw[C5.1 (Nat.le_zero.1 this)];rfl
     rw[e];rw[H0.out] at hown;exact hown
    clear hown h0;go_wp2_with fail
    refine (Tryz.slices_Sort_string_none _ _ _).mono ?_;rintro e w' ⟨rfl,hw⟩;obtain rfl:=hw.symm;clear hw;go_wp2_with fail
    refine (Tryz.slices_Compact_string_empty _ _ _).mono ?_;rintro e w' ⟨rfl,hw⟩;obtain rfl:=hw.symm;clear hw;go_wp2_with fail
    go_ret
    exact⟨⟨_,rfl,HO.out⟩,hB⟩
   ·rw[Acy] at hown
    generalize keys (ss.map (lastT l))=ks at *;obtain⟨n',hN⟩:∃n,n=ss.length:=⟨_,rfl⟩;have hlen:ks.length=n':=by rw[Hl.out,hN]
    rw[← hN] at hown;have hnp:0<n':=by omega
    have hn9:n'<=900:=by omega
    clear hN Hl h0;obtain⟨g,cap,hug⟩:=F4 hown hnp;subst hug;obtain⟨g',cap',hv,hbg,hgl,hncap,hcm,_,hH⟩:=Lib.holds_of_ownsRow hown (by simp);cases hv
    unfold maxLen at hcm;have hsort:=Tryz.slices_Sort_string g 0 cap ks wr hH hgl (by omega);rw[hlen] at hsort;go_wp2_with fail
    refine hsort.mono ?_;rintro e w3 ⟨rfl,nn,os,rfl⟩;clear hsort;have hl2:(ks.mergeSort λx y=>decide (x<=y)).length=n':=by rw[List.length_mergeSort];exact hlen
    have hH2:Holds encStr (grow (putRow encStr (Sort.ahead wr nn) g 0 (ks.mergeSort λx y=>decide (x<=y)).toArray) os) g 0 (ks.mergeSort λx y=>decide (x<=y)).toArray :=
     holds_grow encStr _ os g 0 _ (by simpa [putRow,mapBlock,Sort.ahead] using hgl) (holds_putRow encStr _ g 0 _ _ (holds_ahead encStr wr nn g 0 _ hH) (by simp))
    have hcomp:=Tryz.slices_Compact_string g 0 cap (ks.mergeSort λx y=>decide (x<=y)) _ hH2 (by omega) (by omega);rw[hl2] at hcomp;clear hH2 hH;go_wp2_with fail
    refine hcomp.mono ?_;rintro e w4 ⟨rfl,q,rfl⟩;obtain⟨ho,hB4⟩:=AiH (nn:=nn) (q:=q) (os:=os) hown hB hbg hlen;rw[← HT.out,Add] at ho;clear hcomp;go_wp2_with fail
    go_ret
    refine⟨⟨_,rfl,?_⟩,hB4⟩;have hT:=HT.out;unfold uniq at hT;rw[← hT] at ho ⊢
    have hll:(namesOf (thI l ss)).length=(thI l ss).length:=by simp[namesOf]
    unfold OwnT;rw[hll];exact ho
end Go.Proofs.YtebfdccbmmpceaaGreatDoor
namespace Go.Proofs.YtebfdccbmmpceaaGreatDoor
open Go.RowKit
def SlSrc (w:World) (v:Value) (l:List Sl):Prop:=(∃a c,v=.slice a 0 c/\l=[])∨∃b o c,v=.slice (some ⟨b,o,none⟩) l.length c/\SlAt w b o l/\b<w.heap.size/\l.length<=maxLen
theorem SlSrc.up {w w':World} {v:Value} {l:List Sl} (h:SlSrc w v l) (hb:Below w.heap.size w w'):SlSrc w' v l:=by
 rcases h with h|⟨b,o,c,rfl,hr,hlt,hl⟩
 ·exact .inl h
 ·exact .inr ⟨b,o,c,rfl,hr.up hb hlt,A1 hlt hb.size,hl⟩
theorem SlSrc.shape {w:World} {v:Value} {l:List Sl} (h:SlSrc w v l):∃a c,v=.slice a l.length c:=by
 rcases h with⟨a,c,rfl,rfl⟩|⟨b,o,c,rfl,_⟩
 ·exact⟨a,c,rfl⟩
 ·exact⟨_,_,rfl⟩
theorem Src.shape {w:World} {v:Value} {ps:List Ph} (h:Src w v ps):∃a c,v=.slice a ps.length c:=by
 rcases h with⟨a,c,rfl,rfl⟩|⟨b,o,c,rfl,_⟩
 ·exact⟨a,c,rfl⟩
 ·exact⟨_,_,rfl⟩
def SlZ (l:List Sl):Prop:=∀y∈l,y.s.size<=maxLen/\y.t.size<=maxLen
def OwnSl (w:World) (b:Nat) (l:List Sl):Prop:=SlAt w b 0 l/\w.there b 0 (l.length*2)/\b<w.heap.size
theorem OwnSl.up {w w':World} {b:Nat} {l:List Sl} (h:OwnSl w b l) (hb:Below w.heap.size w w'):OwnSl w' b l :=
 ⟨h.1.up hb h.2.2,I8 h.2.1 hb h.2.2,A1 h.2.2 hb.size⟩
theorem Ajt (x:Sl) (l:Int) (w:World) (hl:0<=l) (hl':l<=1048576) (hs:x.s.size<=maxLen) (ht:x.t.size<=maxLen) :
  Calls Tryz.prog 115 #[.agg #[.string x.s,.string x.t],.int .i64 l] w λe' w'=>(∃y:Int,e'=.returned (.int .i64 y)/\y<=l/\-1<=y)/\Below w.heap.size w w':=by
 unfold maxLen at *;go_enter Tryz.func115,Tryz.ntmps115
 go_wp2
 all_goals
  go_ret
  exact⟨⟨_,rfl,by omega,by omega⟩,(A4 _ _).alloc (A3 _) _⟩
theorem AhE (a:Option Addr) (c:Nat) (l:Int) (w:World) (hl:0<=l) (hl':l<=1048576) :
  Calls Tryz.prog 74 #[.slice a 0 c,.int .i64 l] w λe' w'=>e'=.returned (.int .i64 l)/\w'=w:=by
 go_enter Tryz.func74,Tryz.ntmps74
 go_wp2
 go_rounds 1
 go_ret
 exact⟨rfl,rfl⟩
theorem AhF (ls:List Sl) (b o c:Nat) (l:Int) (w:World) (hl:0<=l) (hl':l<=1048576) (hr:SlAt w b o ls) (hb:b<w.heap.size) (hs:SlZ ls) (hn:ls.length<=maxLen) :
  Calls Tryz.prog 74 #[.slice (some ⟨b,o,none⟩) ls.length c,.int .i64 l] w
   λe' w'=>(∃x:Int,e'=.returned (.int .i64 x)/\(0<=x->(ls.length:Int)<=l)/\x<=1048576)/\Below w.heap.size w w':=by
 unfold maxLen at hn;by_cases h0:l-ls.length<0
 ·go_enter Tryz.func74,Tryz.ntmps74
  go_wp2
  go_ret
  exact⟨⟨_,rfl,by omega,by omega⟩,A4 _ _⟩
 have H0:Hid ((ls.length:Int)<=l):=by show _<=_;omega
 go_enter Tryz.func74,Tryz.ntmps74
 go_wp2
 go_loopw [1,5] (λx i w'=>∃(k:Nat) (y:Int),k<=ls.length/\i=.int .i64 k/\x=.int .i64 y/\0<=y/\y<=1048576/\Below w.heap.size w w') (λ_ i _=>ls.length-(intOf i).toNat)
 case atStart=>exact⟨0,_,by omega,rfl,rfl,by omega,by omega,A4 _ _⟩
 case round =>
  obtain⟨k,y,hk,rfl,rfl,hy,hy',hB⟩:=hrel;by_cases hp:k<ls.length
  ·obtain⟨c0,c1⟩:=hr.cells k hp
   obtain⟨z0,z1⟩:=hs ls[k] (by simp);obtain⟨hc,hf⟩:=E6 hB;generalize ls[k]=s0 at *;go_wp2_with fail
   refine (Ajt s0 _ _ hy hy' z0 z1).mono ?_;rintro e' w1 ⟨⟨x,rfl,hx1,-⟩,hb1⟩;have hB1:=D6 hB hb1;by_cases hx:x<0
   ·go_wp2_with fail
    go_ret
    exact⟨⟨_,rfl,by omega,by omega⟩,hB1⟩
   ·go_wp2_with fail
    go_roundw
    case rel=>exact⟨k+1,x,by omega,by go_num,rfl,by omega,by omega,hB1⟩
    case measure=>simp[intOf];omega
  ·go_wp2_with fail
   go_ret
   exact⟨⟨_,rfl,λ_=>H0.out,hy'⟩,hB⟩
theorem AhG (ls:List Sl) (v:Value) (l:Int) (w:World) (hl:0<=l) (hl':l<=1048576) (h:SlSrc w v ls) (hs:SlZ ls) :
  Calls Tryz.prog 74 #[v,.int .i64 l] w λe' w'=>(∃x:Int,e'=.returned (.int .i64 x)/\(0<=x->(ls.length:Int)<=l)/\x<=1048576)/\Below w.heap.size w w':=by
 rcases h with⟨a,c,rfl,rfl⟩|⟨b,o,c,rfl,hr,hb,hn⟩
 ·refine (AhE a c _ w hl hl').mono λe w' ⟨he,hw⟩=>?_
  subst hw;exact⟨⟨_,he,λ_=>by simpa using hl,hl'⟩,A4 _ _⟩
 ·exact AhF ls b o c l w hl hl' hr hb hs hn
theorem Am1 (ps:List Ph) (v:Value) (l:Int) (w:World) (hl:0<=l) (hl':l<=1048576) (h:Src w v ps) (hs:Sized ps) :
  Calls Tryz.prog 73 #[v,.int .i64 l] w λe' w'=>(∃x:Int,e'=.returned (.int .i64 x)/\(0<=x->(ps.length:Int)<=l)/\x<=1048576)/\Below w.heap.size w w':=by
 rcases h with⟨a,c,rfl,rfl⟩|⟨b,o,c,rfl,hr,hb,hn⟩
 ·refine (AnF a c _ w hl hl').mono λe w' ⟨he,hw⟩=>?_
  subst hw;exact⟨⟨_,he,λ_=>by simpa using hl,hl'⟩,A4 _ _⟩
 ·exact AnG ps b o c l w hl hl' hr hb hs hn
theorem Am2:(Tryz.prog.info? 169).map (λi=>(i.zero,i.size,i.bytes))=some (some (.agg #[.string ⟨#[]⟩,.string ⟨#[]⟩]),2,32):=by kernel_rfl
theorem Am3:(Tryz.prog.info? 169).map (·.size)=some 2:=by kernel_rfl
theorem AcK (n:Nat) (hn:n<=1048576):∃C:Array Value,C.size=n*2/\∀w,(Instr.makeSlice 50 (.int .i64 (n:Int)) (.int .i64 (n:Int))).run Tryz.prog w=.ok (.slice (some ⟨w.heap.size,0,none⟩) n n) (w.alloc (.cells C 169)):=by
 obtain⟨i,hi,hz⟩:=B5.1 Am2;simp only[Prod.mk.injEq] at hz;obtain⟨hz,hs,hb⟩:=hz;refine⟨madeCells (Value.agg #[.string ⟨#[]⟩,.string ⟨#[]⟩]).cells (n*2),size_madeCells _ _,λw=>?_⟩;have:=run_make (P:=Tryz.prog) w 50 169 i _ Tryz.underlying50 hi hz .i64 .i64 (n:Int) (n:Int) (by omega) (by omega) (by rw[hb];omega) (by omega);simp only[Int.toNat_natCast,hs] at this;exact this
theorem Aju {w1:World} {b k:Nat} {l:List Sl} (hk:k<l.length) (h:SlAt w1 b 0 (l.take k)) (ht:w1.there b 0 (l.length*2)):SlAt (w1.setCells b (k*2) (l[k]).cells) b 0 (l.take (k+1)):=by
 intro i p hp;by_cases hi:i<k
 ·refine World.rangeAt_setCells_apart (h i p ?_) b (k*2) _ (.inr (.inl ?_))
  ·rw[List.getElem?_take] at hp ⊢;rw[if_pos (by omega)] at hp;rw[if_pos hi];exact hp
  ·simp[Sl.cells];omega
 ·have hik:i=k:=by
   rw[List.getElem?_take] at hp;split at hp
   ·omega
   ·cases hp
  subst hik;rw[List.getElem?_take,if_pos (by omega),A0 hk] at hp;obtain rfl:=A5 hp;rw[Nat.zero_add];refine World.rangeAt_setCells_same _ _ _ _ (λj hj=>?_);have:=ht (i*2+j) (by simp[Sl.cells] at hj;omega);simpa using this
theorem Ajv (x:Sl) (w:World):Calls Tryz.prog 126 #[.agg #[.string x.s,.string x.t]] w λe' w'=>e'=.returned (.agg #[.string x.s,.string x.t])/\Below w.heap.size w w':=by
 go_enter Tryz.func126,Tryz.ntmps126
 go_wp2
 go_returns
 exact⟨rfl,by go_grown⟩
theorem AhH (a:Option Addr) (c:Nat) (w:World) :
  Calls Tryz.prog 96 #[.slice a 0 c] w λe w'=>e=.returned (.slice (some ⟨w.heap.size,0,none⟩) 0 0)/\OwnSl w' w.heap.size []/\Below w.heap.size w w':=by
 obtain⟨C,hC,hmk⟩:=AcK 0 (by omega);have HC:Hid (C.size=0*2):=hC;clear hC;simp only[Int.natCast_zero] at hmk;go_enter Tryz.func96,Tryz.ntmps96
 go_wp2
 go_rounds 1
 go_ret
 exact⟨rfl,⟨λi p hp=>by simp at hp,λj hj=>by simp at hj,by simp⟩,by go_grown⟩
theorem AhI (l:List Sl) (b o c:Nat) (w:World) (hr:SlAt w b o l) (hb:b<w.heap.size) (hn:l.length<=1048576) :
  Calls Tryz.prog 96 #[.slice (some ⟨b,o,none⟩) l.length c] w λe w'=>e=.returned (.slice (some ⟨w.heap.size,0,none⟩) l.length l.length)/\OwnSl w' w.heap.size l/\Below w.heap.size w w':=by
 obtain⟨C,hC,hmk⟩:=AcK l.length hn;have HC:Hid (C.size=l.length*2):=hC;clear hC;go_enter Tryz.func96,Tryz.ntmps96
 go_wp2
 go_loopw [4] (λi w'=>∃k:Nat,k<=l.length/\i=.int .i64 k/\SlAt w' w.heap.size 0 (l.take k)/\w'.there w.heap.size 0 (l.length*2)/\w.heap.size<w'.heap.size/\Below w.heap.size w w') (λi _=>l.length-(intOf i).toNat)
 case atStart=>exact⟨0,by omega,rfl,λi p hp=>by simp at hp,by rw[← HC.out];exact S2 _ _ _,by simp,by go_grown⟩
 case round =>
  obtain⟨k,hk,rfl,hra,hth,hlt,hB⟩:=hrel;have Hra:Hid (SlAt wr w.heap.size 0 (l.take k)):=hra;have Hth:Hid (wr.there w.heap.size 0 (l.length*2)):=hth;clear hra hth;by_cases hp:k<l.length
  ·obtain⟨c0,c1⟩:=hr.cells k hp
   obtain⟨hc,hf⟩:=E6 hB;have Hst:Hid (∀w1,Below wr.heap.size wr w1->SlAt (w1.setCells w.heap.size (k*2) (l[k]).cells) w.heap.size 0 (l.take (k+1))):=λw1 hb1=>Aju hp (Hra.out.up hb1 hlt) (I8 Hth.out hb1 hlt);generalize l[k]=s0 at *;go_wp2_with fail
   refine (Ajv s0 _).mono ?_;rintro e' w1 ⟨rfl,hb1⟩;clear hc hf c0 c1
   go_wp2_with (refine wpList_store_mid rfl 169 _ _ rfl w.heap.size (k*2) _ rfl rfl (λj hj=>by
     have:=I8 Hth.out hb1 hlt (k*2+j) (by simp at hj;omega);simpa using this) Am3 (by simp[Value.oneCell']) ?_)
   go_roundw
   case rel=>exact⟨k+1,by omega,by go_num,Hst.out w1 hb1,World.there_setCells (I8 Hth.out hb1 hlt) _ _ _,A1 (A1 hlt hb1.size) (R9 _ _ _ _),M4 _ _ _ _ _ _ (D6 hB hb1) (A3 _)⟩
   case measure=>simp[intOf];omega
  ·go_wp2_with fail
   go_ret
   exact⟨rfl,⟨by have:=Hra.out;rwa [D3 (by omega)] at this,Hth.out,hlt⟩,hB⟩
theorem AhJ (l:List Sl) (v:Value) (w:World) (h:SlSrc w v l) (hn:l.length<=1048576) :
  Calls Tryz.prog 96 #[v] w λe w'=>(∃b,e=.returned (.slice (some ⟨b,0,none⟩) l.length l.length)/\OwnSl w' b l/\w.heap.size<=b)/\Below w.heap.size w w':=by
 rcases h with⟨a,c,rfl,rfl⟩|⟨b,o,c,rfl,hr,hb,hl⟩
 ·exact (AhH a c w).mono λe w' ⟨he,ho,hB⟩=>⟨⟨_,he,ho,A3 _⟩,hB⟩
 ·exact (AhI l b o c w hr hb hn).mono λe w' ⟨he,ho,hB⟩=>⟨⟨_,he,ho,A3 _⟩,hB⟩
theorem Ae5 (x:Sl) (w:World):Calls Tryz.prog 150 #[.agg #[.string x.s,.string x.t],.agg #[.string x.s,.string x.t]] w λe w'=>e=.returned (.bool true)/\Below w.heap.size w w':=by
 go_enter Tryz.func150,Tryz.ntmps150
 go_wp2
 go_ret
 exact⟨rfl,by go_grown⟩
theorem AhK (l:List Sl) (b b2 cA cB:Nat) (w:World) (hr:SlAt w b 0 l) (hb:b<w.heap.size) (hr2:SlAt w b2 0 l) (hb2:b2<w.heap.size) (hn:l.length<=1048576) :
  Calls Tryz.prog 113 #[.slice (some ⟨b,0,none⟩) l.length cA,.slice (some ⟨b2,0,none⟩) l.length cB] w λe w'=>e=.returned (.bool true)/\Below w.heap.size w w':=by
 go_enter Tryz.func113,Tryz.ntmps113
 go_wp2
 go_loopw [5] (λi w'=>∃k:Nat,k<=l.length/\i=.int .i64 k/\Below w.heap.size w w') (λi _=>l.length-(intOf i).toNat)
 case atStart=>exact⟨0,by omega,rfl,A4 _ _⟩
 case round =>
  obtain⟨k,hk,rfl,hB⟩:=hrel;by_cases hp:k<l.length
  ·obtain⟨c0,c1⟩:=hr.cells k hp
   obtain⟨d0,d1⟩:=hr2.cells k hp;simp only[Nat.zero_add] at c0 c1 d0 d1;obtain⟨hc,hf⟩:=E6 hB;generalize l[k]=s0 at *;go_wp2_with fail
   go_region_with (go_at_call 150;refine (Ae5 s0 _).mono ?_;rintro e w1 ⟨rfl,hb1⟩)
   all_goals
    have hB1:=D6 hB.drew hb1;clear hc hf c0 c1 d0 d1;go_wp2_with fail
    go_roundw
    case rel=>exact⟨k+1,by omega,by go_num,hB1⟩
    case measure=>simp[intOf];omega
  ·go_wp2_with fail
   go_ret
   exact⟨rfl,hB⟩
end Go.Proofs.YtebfdccbmmpceaaGreatDoor
namespace Go.Proofs.YtebfdccbmmpceaaGreatDoor
structure Done where
 nm:ByteArray
 e:Int
 t:Int
structure House where
 now:Int
 last:Int
 sh:Bk
 bs:List Rb
 ds:List Done
def TimesOk (h:House):Prop:=0<=h.now/\h.now<=100000/\0<=h.last/\h.last<=1000000
def DoneOk (ds:List Done) (now:Int) (i:Nat) (d:Done):Prop:=nameB d.nm=true/\1<=d.e/\d.e<=3/\0<=d.t/\d.t<=now/\∀(j:Nat) (p:Done),j+1=i->ds[j]?=some p->p.t<=d.t
def DonesTo (ds:List Done) (now:Int) (k:Nat):Prop:=∀(i:Nat) (d:Done),i<k->ds[i]?=some d->DoneOk ds now i d
def DonesOk (h:House):Prop:=h.ds.length<=20/\DonesTo h.ds h.now h.ds.length
def SafeP (b:Bk):Prop:=∃ss,OrderIs b ss true
def BatOk (bs:List Rb) (last:Int) (i:Nat) (b:Rb):Prop:=RbOk b/\b.st<=last/\∀(j:Nat) (p:Rb),j+1=i->bs[j]?=some p->p.st<b.st
def BatsTo (bs:List Rb) (last:Int) (k:Nat):Prop:=∀(i:Nat) (b:Rb),i<k->bs[i]?=some b->BatOk bs last i b
def BatsOk (h:House):Prop:=BatsTo h.bs h.last h.bs.length
def rnms (bs:List Rb):List ByteArray:=bs.map (·.nm)
def NamesOk (h:House):Prop:=h.bs.length=h.sh.bs.length/\(rnms h.bs).Nodup/\∀s∈rnms h.bs,s∈nms h.sh.bs
def shOf (b:Bk) (nm:ByteArray):Ba:=(b.bs.find? λx=>x.nm.toList==nm.toList).getD ⟨⟨#[]⟩,[],[]⟩
def NeedTo (h:House) (k:Nat):Prop:=∀(i:Nat) (b:Rb),i<k->h.bs[i]?=some b->(shOf h.sh b.nm).needs=rbThings b b.ad
def HaveTo (h:House) (k:Nat):Prop:=∀(i:Nat) (b:Rb),i<k->h.bs[i]?=some b->0<=b.si->Part (rbOwn b) (shOf h.sh b.nm).has
def HouseOk (h:House):Prop:=TimesOk h/\DonesOk h/\SafeP h.sh/\NamesOk h/\BatsOk h/\NeedTo h h.bs.length/\HaveTo h h.bs.length
theorem AiI {b:Bk} {ss:List ByteArray} {ok:Bool} (h:OrderIs b ss ok):ok=pB (SafeP b):=by
 cases ok with
 | true=>exact (I7 ⟨ss,h⟩).symm
 | false=>exact (F3 λ⟨ss',h'⟩=>by have:=(h.uniq h').2;cases this).symm
theorem SafeP.book {b:Bk} (h:SafeP b):BookOk b:=by
 obtain⟨ss,⟨_,hb,_⟩|⟨h0,_⟩⟩:=h
 ·exact hb
 ·cases h0
theorem Ad8 (bs:List Rb):(rnms bs).length=bs.length:=by simp[rnms]
theorem Z7 {α:Type} {P:Nat->α->Prop} {l:List α} {k:Nat} (h:∀(i:Nat) (a:α),i<k->l[i]?=some a->P i a) (hk:k<l.length) (hl:P k l[k]):∀(i:Nat) (a:α),i<k+1->l[i]?=some a->P i a:=λi a hi ha=>by
 by_cases e:i=k
 ·subst e
  rw[A0 hk] at ha;obtain rfl:=A5 ha;exact hl
 ·exact h i a (by omega) ha
theorem AiJ {b:Bk} {nm:ByteArray} {k:Nat} (ha:Asc (nms b.bs)) (hk:k<b.bs.length) (e:(b.bs[k]).nm=nm):shOf b nm=b.bs[k]:=by
 have:(b.bs.find? λx=>x.nm.toList==nm.toList)=some b.bs[k]:=by
  rw[List.find?_eq_some_iff_getElem];refine⟨by rw[e];simp,k,hk,rfl,λj hj=>?_⟩;have hj':j<b.bs.length:=by omega
  cases hq:((b.bs[j]).nm.toList==nm.toList)
  ·simp
  ·have e2:(b.bs[j]).nm=nm:=Aac (by simpa using hq)
   have h1:(nms b.bs)[j]?=some nm:=by rw[A0 (by rw[I6];exact hj'),Q9 _ _ hj',e2]
   have h2:(nms b.bs)[k]?=some nm:=by rw[A0 (by rw[I6];exact hk),Q9 _ _ hk,e]
   have:=AbN ha h1 h2;omega
 rw[shOf,this];rfl
theorem Alb {b:Bk} {nm:ByteArray} (h:nm∈nms b.bs):∃k,∃hk:k<b.bs.length,(b.bs[k]).nm=nm:=by
 obtain⟨x,hx,rfl⟩:=List.mem_map.1 h;obtain⟨i,hi,rfl⟩:=B6 hx;exact⟨i,hi,rfl⟩
theorem Ae6 {l:List ByteArray}:(keys l).Nodup↔l.Nodup:=by
 unfold List.Nodup keys;rw[List.pairwise_map];constructor
 ·exact λh=>h.imp λh e=>h (by rw[e])
 ·exact λh=>h.imp λh e=>h (M6 e)
theorem Am4 {l:List ByteArray} (h:Asc l):(keys l).Pairwise (· < ·):=by
 rw[List.pairwise_iff_getElem];intro i j hi hj hij;have hi':i<l.length:=by simpa [keys] using hi
 have hj':j<l.length:=by simpa [keys] using hj
 have:=S0 h (j-i-1) i _ _ (A0 hi') (by rw[show i+1+(j-i-1)=j by omega];exact A0 hj');unfold ltS at this;rw[AbQ] at this;simpa [keys] using this
theorem Am5 {l:List ByteArray} (h:(keys l).Pairwise (· < ·)):Asc l:=λi a b _ ha hb=>by
 obtain⟨h1,rfl⟩:=A2.1 ha;obtain⟨h2,rfl⟩:=A2.1 hb;have:=List.pairwise_iff_getElem.1 h i (i+1) (by simpa [keys] using h1) (by simpa [keys] using h2) (by omega);unfold ltS;rw[AbQ];simpa [keys] using this
theorem U6 {l:List ByteArray} {s:ByteArray}:s.toList∈keys l↔s∈l:=by
 simp only[keys,List.mem_map];exact⟨λ⟨x,hx,e⟩=>by rwa [← M6 e],λh=>⟨s,h,rfl⟩⟩
theorem AnP (l:List Sl) (ss:List ByteArray):Asc (thE l ss):=Am5 (Abf l ss).1
theorem Alc (x:Rb):Asc (rbOwn x):=by
 unfold rbOwn;split
 ·exact AnP _ _
 ·exact λi a b hi ha=>by simp at ha
def sorted (l:List Key):List Key:=l.mergeSort λx y=>decide (x<=y)
theorem AgA {h:House} (ha:Asc (nms h.sh.bs)) (hl:h.bs.length=h.sh.bs.length):sorted (keys (rnms h.bs))=keys (nms h.sh.bs)↔NamesOk h:=by
 have hm:∀x,x∈sorted (keys (rnms h.bs))↔x∈keys (rnms h.bs):=λx=>List.mem_mergeSort;have hp:(sorted (keys (rnms h.bs))).Perm (keys (rnms h.bs)):=List.mergeSort_perm _ _;have hs:=Am4 ha;constructor
 ·intro e
  rw[e] at hp hm;refine⟨hl,Ae6.1 (hp.nodup_iff.1 (Z5 hs)),λs hs'=>U6.1 ((hm _).2 (U6.2 hs'))⟩
 ·rintro⟨-,hn,hmem⟩
  have hn':=Ae6.2 hn
  have hsub:∀x∈keys (rnms h.bs),x∈keys (nms h.sh.bs):=λx hx=>by
   simp only[keys,List.mem_map] at hx;obtain⟨s,hs',rfl⟩:=hx;exact U6.2 (hmem s hs')
  have hlen:(keys (rnms h.bs)).length=(keys (nms h.sh.bs)).length:=by simp[keys,rnms,nms,hl]
  have hsup:∀x∈keys (nms h.sh.bs),x∈keys (rnms h.bs):=λx hx=>by
   by_cases hxx:x∈keys (rnms h.bs)
   ·exact hxx
   ·have:=Aax ((keys (nms h.sh.bs)).erase x) (keys (rnms h.bs)) hn' λy hy=>by
     rw[(Z5 hs).mem_erase_iff];exact⟨λe=>hxx (by rw[← e];exact hy),hsub y hy⟩
    rw[List.length_erase_of_mem hx] at this;have:=List.length_pos_of_mem hx;omega
  have hsn:(sorted (keys (rnms h.bs))).Nodup:=hp.nodup_iff.2 hn'
  have hle:(sorted (keys (rnms h.bs))).Pairwise (·<=·):=by
   have:=List.pairwise_mergeSort (le:=λ(x y:Key)=>decide (x<=y)) (λa b c h k=>by
    simp only[decide_eq_true_eq] at *;exact List.le_trans h k) (λa b=>by
    simp only[Bool.or_eq_true,decide_eq_true_eq];exact List.le_total a b) (keys (rnms h.bs))
   simpa [sorted] using this
  have hlt:(sorted (keys (rnms h.bs))).Pairwise (· < ·):=by
   refine (hle.and hsn).imp λ⟨h1,h2⟩=>?_;rcases Ae0.1 h1 with k|k
   ·exact k
   ·exact absurd k h2
  exact V9 _ _ hlt hs λx=>by rw[hm];exact⟨hsub x,hsup x⟩
end Go.Proofs.YtebfdccbmmpceaaGreatDoor
namespace Go.Proofs.YtebfdccbmmpceaaGreatDoor
open Go.RowKit
abbrev VK:=Value×List Key
def nilR:VK:=(.slice none 0 0,[])
def rowSS:List (ByteArray×VK)->List Value
 | []=>[]
 | r::rest=>.string r.1::r.2.1::rowSS rest
theorem AgB (a b:List (ByteArray×VK)):rowSS (a++b)=rowSS a++rowSS b:=by
 induction a with
 | nil=>rfl
 | cons r rest ih=>simp[rowSS,ih]
theorem AgC (a:List (ByteArray×VK)):(rowSS a).length=a.length*2:=by
 induction a with
 | nil=>rfl
 | cons r rest ih=>simp[rowSS,ih];omega
theorem AgD:∀(a:List (ByteArray×VK)) (i:Nat) (h:i<a.length),(rowSS a)[i*2]?=some (.string (a[i]).1)/\(rowSS a)[i*2+1]?=some ((a[i]).2.1)
 | r::rest,0,_=>⟨rfl,rfl⟩
 | r::rest,i+1,h=>by
  have:=AgD rest i (by simpa using h);rw[show (i+1)*2=i*2+1+1 by omega];simpa [rowSS] using this
def OwnV (w:World) (base:Nat) (x:VK):Prop:=w.ownsRow base 9 1 x.1 x.2.length ((namesOf x.2).map Value.string)
theorem OwnV.shape {w:World} {base:Nat} {x:VK} (h:OwnV w base x):∃a n c,x.1=.slice a n c:=by
 rcases h.2 with⟨h0,_⟩|⟨g,cap,_,hv,_⟩
 ·exact⟨_,_,_,h0⟩
 ·exact⟨_,_,_,hv⟩
theorem OwnV.up {w w':World} {base:Nat} {x:VK} (h:OwnV w base x) (hb:Below w.heap.size w w'):OwnV w' base x:=E1 h hb
theorem AgE (w:World) (base:Nat):OwnV w base nilR:=B8 _ _ _ _
theorem OwnV.lst {w:World} {base:Nat} {x:VK} (h:OwnV w base x):Lst w x.1 (namesOf x.2):=by
 have hl:(namesOf x.2).length=x.2.length:=by simp[namesOf]
 rcases h.2 with⟨h0,h1⟩|⟨g,cap,cur,hv,_⟩
 ·exact .inl ⟨h0,by cases hx:x.2 with
   | nil=>rfl
   | cons a r=>rw[hx] at h1;simp at h1⟩
 ·exact .inr (Txt.own h hl ⟨g,cap,hv⟩)
def TabS (w:World) (base g:Nat) (rows:List (ByteArray×VK)):Prop:=w.rangeAt g 0 (rowSS rows)/\g<w.heap.size/\∀r∈rows,OwnV w base r.2
theorem TabS.up {w w':World} {base g:Nat} {rows:List (ByteArray×VK)} (h:TabS w base g rows) (hb:Below w.heap.size w w'):TabS w' base g rows :=
 ⟨λj v hv=>by rw[hb.cell (p:=⟨g,0+j,none⟩) h.2.1];exact h.1 j v hv,A1 h.2.1 hb.size,λr hr=>(h.2.2 r hr).up hb⟩
theorem TabS.cells {w:World} {base g:Nat} {rows:List (ByteArray×VK)} (h:TabS w base g rows) (i:Nat) (hi:i<rows.length):w.cell? ⟨g,i*2,none⟩=some (.string (rows[i]).1)/\w.cell? ⟨g,i*2+1,none⟩=some ((rows[i]).2.1):=by
 obtain⟨h1,h2⟩:=AgD rows i hi;exact⟨by simpa using h.1 _ _ h1,by simpa using h.1 _ _ h2⟩
theorem TabS.of_own {w:World} {base e g cap:Nat} {rows:List (ByteArray×VK)} (h:w.ownsRow base e 2 (.slice (some ⟨g,0,none⟩) rows.length cap) rows.length (rowSS rows)) (hv:∀r∈rows,OwnV w base r.2):TabS w base g rows:=by
 refine⟨λj v hv=>?_,(h.lt g rfl).2,hv⟩;have hj:j<rows.length*2:=by rw[← AgC];exact (A2.1 hv).1
 rw[Nat.zero_add,h.cellAt j hj];exact hv
theorem TabS.look {w:World} {base g:Nat} {rows:List (ByteArray×VK)} (h:TabS w base g rows) (nm:ByteArray):OwnV w base (look rows nm nilR):=by
 unfold Go.Proofs.YtebfdccbmmpceaaGreatDoor.look;split
 ·rename_i r hr
  exact h.2.2 r (List.mem_of_find?_eq_some hr)
 ·exact AgE _ _
def plainR (rows:List (ByteArray×VK)):List (ByteArray×List Key):=rows.map λr=>(r.1,r.2.2)
theorem AaP (rows:List (ByteArray×VK)) (nm:ByteArray):look (plainR rows) nm []=(look rows nm nilR).2:=by
 unfold look plainR;rw[List.find?_map];have e:((λr:ByteArray×List Key=>r.1.toList==nm.toList) ∘ λr:ByteArray×VK=>(r.1,r.2.2))=λr=>r.1.toList==nm.toList:=by funext r;rfl
 rw[e];cases rows.find? λr=>r.1.toList==nm.toList<;>rfl
theorem AiK (rows:List (ByteArray×VK)) (base g c:Nat) (nm:ByteArray) (w:World) (hr:TabS w base g rows) (hn:rows.length<=1048576) :
  Calls Tryz.prog 175 #[.slice (some ⟨g,0,none⟩) rows.length c,.string nm] w λe w'=>e=.returned (look rows nm nilR).1/\Below w.heap.size w w':=by
 have hg:=hr.2.1;go_enter Tryz.func175,Tryz.ntmps175
 go_wp2
 go_loopw [10] (λi w'=>∃k:Nat,k<=rows.length/\i=.int .i64 k/\noneT rows nm k/\Below w.heap.size w w') (λi _=>rows.length-(intOf i).toNat)
 case atStart=>exact⟨0,by omega,rfl,λ_ _ h=>by omega,A4 _ _⟩
 case round =>
  obtain⟨k,hk,rfl,hal,hB⟩:=hrel;have Hal:Hid (noneT rows nm k):=hal;clear hal;by_cases hp:k<rows.length
  ·obtain⟨c0,c1⟩:=hr.cells k hp
   obtain⟨a,n,cc,hsh⟩:=(hr.2.2 rows[k] (by simp)).shape;rw[hsh] at c1;obtain⟨hc,hf⟩:=E6 hB;cases hq:((rows[k]).1.toList==nm.toList)
   ·have Hq:Hid (((rows[k]).1.toList==nm.toList)=false):=hq
    go_wp2
    go_roundw
    case rel=>exact⟨k+1,by omega,by go_num,Ajm Hal.out hp Hq.out,hB.alloc hB.size _⟩
    case measure=>simp[intOf];omega
   ·have Hq:Hid (look rows nm nilR=(rows[k]).2):=Amu nilR Hal.out hp hq
    have Hsh:Hid ((rows[k]).2.1=.slice a n cc):=hsh;clear hsh;go_wp2
    go_ret
    exact⟨by rw[Hq.out,Hsh.out];rfl,hB.alloc hB.size _⟩
  ·have Hq:Hid (look rows nm nilR=nilR):=AkS nilR Hal.out hp
   go_wp2
   go_ret
   exact⟨by rw[Hq.out];rfl,hB⟩
theorem Ald {W1 w0:World} {B:Nat} {x0 x1 x2 x3 x4 x5 x6 x7:Value} (h:Below W1.heap.size W1 w0/\w0.cell? ⟨B,0,none⟩=some x0/\w0.cell? ⟨B,1,none⟩=some x1/\w0.cell? ⟨B,2,none⟩=some x2/\w0.cell? ⟨B,3,none⟩=some x3/\w0.cell? ⟨B,4,none⟩=some x4/\w0.cell? ⟨B,5,none⟩=some x5/\w0.cell? ⟨B,6,none⟩=some x6/\w0.cell? ⟨B,7,none⟩=some x7):W1.heap.size<=w0.heap.size:=h.1.size
theorem Abg (n:Int) (w:World) :
  Calls Tryz.prog 173 #[.int .i64 n] w λe w'=>e=.returned (.slice none 0 0)/\w'=w:=by
 go_enter Tryz.func173,Tryz.ntmps173
 go_wp2
 go_ret
 exact⟨rfl,rfl⟩
theorem Am6:(Tryz.prog.info? 265).map (λi=>(i.zero,i.size,i.bytes))=some (some (.agg #[.string ⟨#[]⟩,.slice none 0 0]),2,40):=by kernel_rfl
theorem Afv {W W':World} {base base' m:Nat} {x:VK} {u:Value} {ys:List Value} (h:OwnV W base x) (ht:W.ownsRow base' 265 2 u m ys) (hg:W.grownBy W' u.ownBlock):OwnV W' base x:=by
 refine World.ownsRow.kept h hg ?_;rcases h.2 with⟨h0,_⟩|⟨g,cap,cur,hv,_,hh,_⟩
 ·left;rw[h0];rfl
 ·right
  rw[hv];rcases ht.2 with⟨k0,_⟩|⟨g',cap',cur',kv,_,kh,_⟩
  ·rw[k0];simp[Value.ownBlock]
  ·rw[kv]
   intro e;obtain rfl:g=g':=by simpa [Value.ownBlock] using e
   rw[hh] at kh;have:=A5 kh;injection this with _ h2
   exact absurd h2 (by decide)
theorem AgF {ps:List Ph} (hok:recB ps=true) (p:Ph) (hp:p∈ps):1<=p.k/\p.k<=5:=by
 obtain⟨_,_,ha⟩:=(J8 ps).1 hok;obtain⟨i,hi,rfl⟩:=B6 hp;have hs:=ha i ps[i] hi (by simp[hi]);simp only[stepI,Bool.and_eq_true,Ph.okB,phaseB] at hs;have h:=hs.1.1.1.1.1.2;unfold argsB at h;split at h
 ·omega
 ·split at h
  ·omega
  ·split at h
   ·omega
   ·split at h
    ·rename_i h4;rcases h4 with h4|h4<;>omega
    ·cases h
def endsS:List (ByteArray×VK):=[(good,nilR),(saved,nilR),(scrapped,nilR)]
theorem Ajw:plainR endsS=fill feK fpK [] []:=rfl
theorem Ale (ps:List Ph) (b o c:Nat) (w:World) (hE:Ends w) (hr:RecAt w b o ps) (hb:b<w.heap.size) (hok:recB ps=true) :
  Calls Tryz.prog 172 #[.slice (some ⟨b,o,none⟩) ps.length c,.func (.func 173) #[] #[],.func (.func 174) #[] #[]] w
   λe w'=>(∃g cap rs,e=.returned (.slice (some ⟨g,0,none⟩) rs.length cap)/\plainR rs=fill feK fpK [] ps/\TabS w' w.heap.size g rs)/\Below w.heap.size w w':=by
 have HE:Hid (Ends w):=hE;obtain⟨g0,g1,g2,_⟩:=hE;have i0:∀w,(Instr.index 209 (.agg #[.string ⟨#[103,111,111,100]⟩,.string ⟨#[115,97,118,101,100]⟩,.string ⟨#[115,99,114,97,112,112,101,100]⟩]) (.int .i64 0)).run Tryz.prog w=.ok (.string ⟨#[103,111,111,100]⟩) w:=λ_=>by kernel_rfl
 have i1:∀w,(Instr.index 209 (.agg #[.string ⟨#[103,111,111,100]⟩,.string ⟨#[115,97,118,101,100]⟩,.string ⟨#[115,99,114,97,112,112,101,100]⟩]) (.int .i64 1)).run Tryz.prog w=.ok (.string ⟨#[115,97,118,101,100]⟩) w:=λ_=>by kernel_rfl
 have i2:∀w,(Instr.index 209 (.agg #[.string ⟨#[103,111,111,100]⟩,.string ⟨#[115,97,118,101,100]⟩,.string ⟨#[115,99,114,97,112,112,101,100]⟩]) (.int .i64 2)).run Tryz.prog w=.ok (.string ⟨#[115,99,114,97,112,112,101,100]⟩) w:=λ_=>by kernel_rfl
 go_enter Tryz.func172,Tryz.ntmps172
 obtain⟨ii,hi,hz0,hz1,hz2⟩:=info_parts Am6;go_wp2_with fail
 go_loopw [7,14] (λv i w'=>∃(k:Nat) (j:Int),k<=3/\j=k/\i=.int .i64 j/\w'.ownsRow w.heap.size 265 2 v (endsS.take k).length (rowSS (endsS.take k))/\Below w.heap.size w w') (λ_ i _=>3-(intOf i).toNat)
 case atStart=>exact⟨0,0,by omega,by omega,rfl,B8 _ _ _ _,A4 _ _⟩
 case round =>
  obtain⟨k,j,hk,hj,rfl,hown,hB⟩:=hrel;obtain rfl|rfl|rfl|rfl:k=0∨k=1∨k=2∨k=3:=by omega
  ·obtain rfl:j=0:=by omega
   clear hj;go_wp2_with (first|(go_at_call 107;refine (L9 _ _ (HE.out.up hB)).mono ?_;rintro e w' ⟨rfl,hw⟩;obtain rfl:=hw.symm;clear hw)|(go_at_call 173;refine (Abg _ _).mono ?_;rintro e w' ⟨rfl,hw⟩;obtain rfl:=hw.symm;clear hw)|(at_builtin;refine wpList_append_own _ rfl _ _ 238 rfl w.heap.size 265 ii _ 2 40 Tryz.underlying238 hi hz0 hz1 hz2 rfl (by decide) _ _ _ rfl (hown.alloc _) ⟨wr.heap.size,0,none⟩ 1 1 [.string ⟨#[103,111,111,100]⟩,.slice none 0 0] rfl rfl (λj u hj=>new2 _ _ _ _ hj) (λu hu=>one2 rfl hu) (by simp[maxLen,endsS]) (by simp[endsS]) (by have:=hB.size;simp;omega) ?_))
   intro v' w1 hown' hgrow _;have hB1:Below w.heap.size w w1:=(hB.alloc hB.size _).grown hgrow (by have:=hB.size;simp;omega) (λk hk=>(hown.lt k hk).1);clear hgrow hown hB;go_wp2_with fail
   go_roundw
   case rel=>exact⟨1,1,by omega,by omega,rfl,by simpa [endsS,rowSS,nilR,good,saved,scrapped] using hown',hB1⟩
   case measure=>simp[intOf]
  ·obtain rfl:j=1:=by omega
   clear hj;go_wp2_with (first|(go_at_call 107;refine (L9 _ _ (HE.out.up hB)).mono ?_;rintro e w' ⟨rfl,hw⟩;obtain rfl:=hw.symm;clear hw)|(go_at_call 173;refine (Abg _ _).mono ?_;rintro e w' ⟨rfl,hw⟩;obtain rfl:=hw.symm;clear hw)|(at_builtin;refine wpList_append_own _ rfl _ _ 238 rfl w.heap.size 265 ii _ 2 40 Tryz.underlying238 hi hz0 hz1 hz2 rfl (by decide) _ _ _ rfl (hown.alloc _) ⟨wr.heap.size,0,none⟩ 1 1 [.string ⟨#[115,97,118,101,100]⟩,.slice none 0 0] rfl rfl (λj u hj=>new2 _ _ _ _ hj) (λu hu=>one2 rfl hu) (by simp[maxLen,endsS]) (by simp[endsS]) (by have:=hB.size;simp;omega) ?_))
   intro v' w1 hown' hgrow _;have hB1:Below w.heap.size w w1:=(hB.alloc hB.size _).grown hgrow (by have:=hB.size;simp;omega) (λk hk=>(hown.lt k hk).1);clear hgrow hown hB;go_wp2_with fail
   go_roundw
   case rel=>exact⟨2,2,by omega,by omega,rfl,by simpa [endsS,rowSS,nilR,good,saved,scrapped] using hown',hB1⟩
   case measure=>simp[intOf]
  ·obtain rfl:j=2:=by omega
   clear hj;go_wp2_with (first|(go_at_call 107;refine (L9 _ _ (HE.out.up hB)).mono ?_;rintro e w' ⟨rfl,hw⟩;obtain rfl:=hw.symm;clear hw)|(go_at_call 173;refine (Abg _ _).mono ?_;rintro e w' ⟨rfl,hw⟩;obtain rfl:=hw.symm;clear hw)|(at_builtin;refine wpList_append_own _ rfl _ _ 238 rfl w.heap.size 265 ii _ 2 40 Tryz.underlying238 hi hz0 hz1 hz2 rfl (by decide) _ _ _ rfl (hown.alloc _) ⟨wr.heap.size,0,none⟩ 1 1 [.string ⟨#[115,99,114,97,112,112,101,100]⟩,.slice none 0 0] rfl rfl (λj u hj=>new2 _ _ _ _ hj) (λu hu=>one2 rfl hu) (by simp[maxLen,endsS]) (by simp[endsS]) (by have:=hB.size;simp;omega) ?_))
   intro v' w1 hown' hgrow _;have hB1:Below w.heap.size w w1:=(hB.alloc hB.size _).grown hgrow (by have:=hB.size;simp;omega) (λk hk=>(hown.lt k hk).1);clear hgrow hown hB;go_wp2_with fail
   go_roundw
   case rel=>exact⟨3,3,by omega,by omega,rfl,by simpa [endsS,rowSS,nilR,good,saved,scrapped] using hown',hB1⟩
   case measure=>simp[intOf]
  ·obtain rfl:j=3:=by omega
   clear i0 i1 i2 g0 g1 g2 hj;have h12:ps.length<=12:=((J8 ps).1 hok).2.1;have hown:wr.ownsRow w.heap.size 265 2 u7 endsS.length (rowSS endsS):=hown
   have hends:∀r∈endsS,OwnV wr w.heap.size r.2:=by
    intro r hr;simp only[endsS,List.mem_cons,List.not_mem_nil,or_false] at hr;rcases hr with rfl|rfl|rfl<;>exact AgE _ _
   go_wp2_with fail
   go_loopw [7,10] (λv i w'=>∃(k:Nat) (rs:List (ByteArray×VK)),k<=ps.length/\i=.int .i64 ((k:Int)-1)/\plainR rs=fill feK fpK [] (ps.drop k)/\w'.ownsRow w.heap.size 265 2 v rs.length (rowSS rs)/\(∀r∈rs,OwnV w' w.heap.size r.2)/\Below w.heap.size w w') (λ_ i _=>(intOf i+1).toNat)
   case atStart=>exact⟨ps.length,endsS,A3 _,rfl,by rw[List.drop_length];exact Ajw,hown,hends,hB⟩
   case round =>
    clear hown hends hB;obtain⟨k,rs,hk2,rfl,hpl,hown2,hvs,hB2⟩:=hrel
    have hrl:rs.length=(ps.drop k).length+3:=by
     have:=congrArg List.length hpl;rw[AdW] at this;simpa [plainR] using this
    obtain⟨g,cap,rfl⟩:=An4 hown2 (by omega);have hT:=TabS.of_own hown2 hvs;cases k with
    | zero =>
     simp only[List.drop_zero] at hpl;clear hrl;go_wp2_with fail
     go_ret
     exact⟨⟨g,cap,rs,rfl,hpl,hT⟩,hB2⟩
    | succ m =>
     have hm:m<ps.length:=by omega
     obtain⟨c0,c1,c2,c3,c4,c5,c6,c7⟩:=hr.cells m hm;obtain⟨hc,hf⟩:=E6 hB2;have Hrl:Hid (rs.length=(ps.drop (m+1)).length+3):=hrl;clear hrl;go_wp2_with fail
     have hkk:=AgF hok ps[m] (by simp)
     have hlk:∀nm,(look rs nm nilR).2=slI (ps.drop (m+1)) nm:=λnm=>by
      rw[← AaP,hpl,AcX _ _ _ _ (Afo hok (m+1))];rfl
     have hll:∀nm,(namesOf (look rs nm nilR).2).length<=24:=λnm=>by
      have:=Afr (ps.drop (m+1)) nm;rw[hlk,namesOf,B4];rw[A8] at this;omega
     have HF:Hid (fill feK fpK [] (ps.drop m)=plainR rs++[((ps[m]).nm,fpK ps[m] (look rs (ps[m]).t nilR).2 (look rs (ps[m]).e nilR).2)]):=by
      show _=_
      rw[AkU feK fpK [] hm,← hpl,AaP,AaP]
     generalize ps[m]=p at *;have hS:∃W1,W1=wr.alloc (.cells #[.string p.nm,.int .i64 p.k,.string p.a,.string p.b,.int .i64 p.n,.int .i64 p.wi,.string p.t,.string p.e] 84):=⟨_,rfl⟩;obtain⟨W1,hW1⟩:=hS;rw[← hW1];have hW2:wr.heap.size<W1.heap.size:=by rw[hW1];simp
     have hS:Below W1.heap.size W1 W1/\W1.cell? ⟨wr.heap.size,0,none⟩=some (.string p.nm)/\W1.cell? ⟨wr.heap.size,1,none⟩=some (.int .i64 p.k)/\W1.cell? ⟨wr.heap.size,2,none⟩=some (.string p.a)/\W1.cell? ⟨wr.heap.size,3,none⟩=some (.string p.b)/\W1.cell? ⟨wr.heap.size,4,none⟩=some (.int .i64 p.n)/\W1.cell? ⟨wr.heap.size,5,none⟩=some (.int .i64 p.wi)/\W1.cell? ⟨wr.heap.size,6,none⟩=some (.string p.t)/\W1.cell? ⟨wr.heap.size,7,none⟩=some (.string p.e):=by rw[hW1];exact⟨A4 _ _,by simp,by simp,by simp,by simp,by simp,by simp,by simp,by simp⟩
     have hup:Below wr.heap.size wr W1:=by rw[hW1];exact (A4 _ _).alloc (A3 _) _
     have hT1:=hT.up hup;have Hown:=E1 hown2 hup;have hB3:=D6 hB2 hup;have hlen:rs.length<=1048576:=by have:=Hrl.out;rw[A8] at this;omega
     have hl1:=hll p.t;have hl2:=hll p.e;clear hW1 c0 c1 c2 c3 c4 c5 c6 c7 hc hf hT hown2 hup hown hvs hlk hll hpl
     go_region_held (λw'=>Below W1.heap.size W1 w'/\w'.cell? ⟨wr.heap.size,0,none⟩=some (.string p.nm)/\w'.cell? ⟨wr.heap.size,1,none⟩=some (.int .i64 p.k)/\w'.cell? ⟨wr.heap.size,2,none⟩=some (.string p.a)/\w'.cell? ⟨wr.heap.size,3,none⟩=some (.string p.b)/\w'.cell? ⟨wr.heap.size,4,none⟩=some (.int .i64 p.n)/\w'.cell? ⟨wr.heap.size,5,none⟩=some (.int .i64 p.wi)/\w'.cell? ⟨wr.heap.size,6,none⟩=some (.string p.t)/\w'.cell? ⟨wr.heap.size,7,none⟩=some (.string p.e)) (first|exact AkY hS|exact AnM hW2 (by assumption) (by assumption))
      (first
       | (go_at_call 175;refine (AiK rs w.heap.size g _ _ _ (hT1.up (And.left (by assumption))) hlen).mono ?_;rintro e w1 ⟨rfl,hb1⟩)
       | (go_at_call 174;have hszz:=Ald (by assumption);refine (AfM p (namesOf (look rs p.t nilR).2) (namesOf (look rs p.e nilR).2) _ _ _ hkk ((hT1.up (And.left (by assumption))).look _).lst ((hT1.up (And.left (by assumption))).look _).lst (by omega)).mono ?_;rintro e w3 ⟨⟨u,rfl,hou⟩,hb3⟩;rw[Aai,Aai] at hou;obtain⟨a9,n9,c9,hu9⟩:=OwnV.shape (x:=(u,_)) hou;subst hu9))
     rename_i hHeld;obtain⟨hU,e0,-⟩:=hHeld;have hown3:=E1 Hown hU;have hB4:=D6 hB3 hU;have hT3:=hT1.up hU;have hx:OwnV w3 w.heap.size (.slice a9 n9 c9,fpK p (look rs p.t nilR).2 (look rs p.e nilR).2):=G4 hou (by have:=hB3.size;omega);have hal:Below w3.heap.size w3 (w3.alloc (.cells #[.string p.nm,.slice a9 n9 c9] 265)):=(A4 _ _).alloc (A3 _) _;have hx1:=hx.up hal;have hT4:=hT3.up hal;have Hrl':rs.length<=16:=by have:=Hrl.out;rw[A8] at this;omega
     clear hS hT1 Hown hU hB3 hou hT3 hx hal hb1 hb3;go_wp2_with (at_builtin;refine wpList_append_own _ rfl _ _ 238 rfl w.heap.size 265 ii _ 2 40 Tryz.underlying238 hi hz0 hz1 hz2 rfl (by decide) _ _ _ rfl (hown3.alloc _) ⟨w3.heap.size,0,none⟩ 1 1 [.string p.nm,.slice a9 n9 c9] rfl rfl (λj u hj=>new2 _ _ _ _ hj) (λu hu=>one2 rfl hu) (by simp only[maxLen];omega) (by omega) (by have:=hB4.size;simp;omega) ?_)
     intro v' w5 hown' hgrow _;have hB5:Below w.heap.size w w5:=(hB4.alloc hB4.size _).grown hgrow (by have:=hB4.size;simp;omega) (λk hk=>(hown3.lt k hk).1)
     have hvs':∀r∈rs++[(p.nm,((.slice a9 n9 c9,fpK p (look rs p.t nilR).2 (look rs p.e nilR).2):VK))],OwnV w5 w.heap.size r.2:=by
      intro r hr;rcases D1.1 hr with hr|hr
      ·exact Afv (hT4.2.2 r hr) (hown3.alloc _) hgrow
      ·simp only[D2] at hr
       subst hr;exact Afv hx1 (hown3.alloc _) hgrow
     clear hgrow hown3 hB4 hT4 hx1;go_wp2_with fail
     go_roundw
     case rel=>exact⟨m,rs++[(p.nm,((.slice a9 n9 c9,fpK p (look rs p.t nilR).2 (look rs p.e nilR).2):VK))],by omega,by go_num,by rw[HF.out];simp[plainR],by rw[AgB,A9];exact hown',hvs',hB5⟩
     case measure=>simp[intOf]
theorem AhL (nm a b:ByteArray) (n wi:Int) (t e:ByteArray) (w:World) (ha:a.size<=maxLen) (hb:b.size<=maxLen) :
  Calls Tryz.prog 210 #[.agg #[.string nm,.int .i64 1,.string a,.string b,.int .i64 n,.int .i64 wi,.string t,.string e]] w λe w'=>e=.returned (.bool (argsB 1 a b n wi))/\Below w.heap.size w w':=by
 have hr:Hid (argsB 1 a b n wi=(nameB a&&(nameB b)&&inB n 1 1000)):=by show _=_;simp[argsB,Bool.and_assoc]
 cases hA:nameB a<;>cases hP:(nameB b)
 all_goals
  go_enter Tryz.func210,Tryz.ntmps210
  go_wp2_with (first|(go_at_call 171;refine (Ag4 _ _ _ _ _ _ _ _).mono ?_;rintro e w1 ⟨rfl,hb1⟩;(first|(have hB':=D6 hB hb1;clear hB;have hB:=hB';clear hB')|(have hB:=hb1));clear hb1;(try clear hc hf);obtain⟨hc,hf⟩:=E6 hB)|(go_at_call 209;refine (K7 _ _ (by assumption)).mono ?_;rintro e w1 ⟨rfl,hb1⟩;(first|(have hB':=D6 hB hb1;clear hB;have hB:=hB';clear hB')|(have hB:=hb1));clear hb1;(try clear hc hf);obtain⟨hc,hf⟩:=E6 hB)|(go_at_call 226;refine (AhA _ _ _ _ (by assumption)).mono ?_;rintro e w1 ⟨rfl,hb1⟩;(first|(have hB':=D6 hB hb1;clear hB;have hB:=hB';clear hB')|(have hB:=hb1));clear hb1;(try clear hc hf);obtain⟨hc,hf⟩:=E6 hB)|(go_at_call 227;refine (AfI _ _ _ _).mono ?_;rintro e w1 ⟨rfl,hb1⟩;(first|(have hB':=D6 hB hb1;clear hB;have hB:=hB';clear hB')|(have hB:=hb1));clear hb1;(try clear hc hf);obtain⟨hc,hf⟩:=E6 hB))
  go_ret
  exact⟨D7 (by rw[hr.out];simp[hA,hP]),D6 ((A4 _ _).alloc (A3 _) _) hB⟩
theorem AhM (nm a b:ByteArray) (n wi:Int) (t e:ByteArray) (w:World) (ha:a.size<=maxLen) (hb:b.size<=maxLen) :
  Calls Tryz.prog 210 #[.agg #[.string nm,.int .i64 2,.string a,.string b,.int .i64 n,.int .i64 wi,.string t,.string e]] w λe w'=>e=.returned (.bool (argsB 2 a b n wi))/\Below w.heap.size w w':=by
 have hr:Hid (argsB 2 a b n wi=(nameB a&&(nameB b && !(a.toList==b.toList))&&inB n 1 1000)):=by show _=_;simp[argsB,Bool.and_assoc]
 cases hA:nameB a<;>cases hP:(nameB b && !(a.toList==b.toList))
 all_goals
  go_enter Tryz.func210,Tryz.ntmps210
  go_wp2_with (first|(go_at_call 171;refine (Ag5 _ _ _ _ _ _ _ _).mono ?_;rintro e w1 ⟨rfl,hb1⟩;(first|(have hB':=D6 hB hb1;clear hB;have hB:=hB';clear hB')|(have hB:=hb1));clear hb1;(try clear hc hf);obtain⟨hc,hf⟩:=E6 hB)|(go_at_call 209;refine (K7 _ _ (by assumption)).mono ?_;rintro e w1 ⟨rfl,hb1⟩;(first|(have hB':=D6 hB hb1;clear hB;have hB:=hB';clear hB')|(have hB:=hb1));clear hb1;(try clear hc hf);obtain⟨hc,hf⟩:=E6 hB)|(go_at_call 226;refine (AhB _ _ _ _ (by assumption)).mono ?_;rintro e w1 ⟨rfl,hb1⟩;(first|(have hB':=D6 hB hb1;clear hB;have hB:=hB';clear hB')|(have hB:=hb1));clear hb1;(try clear hc hf);obtain⟨hc,hf⟩:=E6 hB)|(go_at_call 227;refine (AfJ _ _ _ _).mono ?_;rintro e w1 ⟨rfl,hb1⟩;(first|(have hB':=D6 hB hb1;clear hB;have hB:=hB';clear hB')|(have hB:=hb1));clear hb1;(try clear hc hf);obtain⟨hc,hf⟩:=E6 hB))
  go_ret
  exact⟨D7 (by rw[hr.out];simp[hA,hP]),D6 ((A4 _ _).alloc (A3 _) _) hB⟩
theorem AhN (nm a b:ByteArray) (n wi:Int) (t e:ByteArray) (w:World) (ha:a.size<=maxLen) (_hb:b.size<=maxLen) :
  Calls Tryz.prog 210 #[.agg #[.string nm,.int .i64 3,.string a,.string b,.int .i64 n,.int .i64 wi,.string t,.string e]] w λe w'=>e=.returned (.bool (argsB 3 a b n wi))/\Below w.heap.size w w':=by
 have hr:Hid (argsB 3 a b n wi=(nameB a&&(b.toList.isEmpty)&&inB n 1 wi)):=by show _=_;simp[argsB,Bool.and_assoc]
 cases hA:nameB a<;>cases hP:(b.toList.isEmpty)
 all_goals
  go_enter Tryz.func210,Tryz.ntmps210
  go_wp2_with (first|(go_at_call 171;refine (Ag6 _ _ _ _ _ _ _ _).mono ?_;rintro e w1 ⟨rfl,hb1⟩;(first|(have hB':=D6 hB hb1;clear hB;have hB:=hB';clear hB')|(have hB:=hb1));clear hb1;(try clear hc hf);obtain⟨hc,hf⟩:=E6 hB)|(go_at_call 209;refine (K7 _ _ (by assumption)).mono ?_;rintro e w1 ⟨rfl,hb1⟩;(first|(have hB':=D6 hB hb1;clear hB;have hB:=hB';clear hB')|(have hB:=hb1));clear hb1;(try clear hc hf);obtain⟨hc,hf⟩:=E6 hB)|(go_at_call 226;refine (AhC _ _ _ _).mono ?_;rintro e w1 ⟨rfl,hb1⟩;(first|(have hB':=D6 hB hb1;clear hB;have hB:=hB';clear hB')|(have hB:=hb1));clear hb1;(try clear hc hf);obtain⟨hc,hf⟩:=E6 hB)|(go_at_call 227;refine (AfK _ _ _ _).mono ?_;rintro e w1 ⟨rfl,hb1⟩;(first|(have hB':=D6 hB hb1;clear hB;have hB:=hB';clear hB')|(have hB:=hb1));clear hb1;(try clear hc hf);obtain⟨hc,hf⟩:=E6 hB))
  go_ret
  exact⟨D7 (by rw[hr.out];simp[hA,hP]),D6 ((A4 _ _).alloc (A3 _) _) hB⟩
theorem AgG (nm a b:ByteArray) (n wi:Int) (t e:ByteArray) (w:World) (ha:a.size<=maxLen) (_hb:b.size<=maxLen) :
  Calls Tryz.prog 210 #[.agg #[.string nm,.int .i64 4,.string a,.string b,.int .i64 n,.int .i64 wi,.string t,.string e]] w λe w'=>e=.returned (.bool (argsB 4 a b n wi))/\Below w.heap.size w w':=by
 have hr:Hid (argsB 4 a b n wi=(nameB a&&(b.toList.isEmpty)&&n==0)):=by show _=_;simp[argsB,Bool.and_assoc]
 cases hA:nameB a<;>cases hP:(b.toList.isEmpty)
 all_goals
  go_enter Tryz.func210,Tryz.ntmps210
  go_wp2_with (first|(go_at_call 171;refine (Aft _ _ _ _ _ _ _ _).mono ?_;rintro e w1 ⟨rfl,hb1⟩;(first|(have hB':=D6 hB hb1;clear hB;have hB:=hB';clear hB')|(have hB:=hb1));clear hb1;(try clear hc hf);obtain⟨hc,hf⟩:=E6 hB)|(go_at_call 209;refine (K7 _ _ (by assumption)).mono ?_;rintro e w1 ⟨rfl,hb1⟩;(first|(have hB':=D6 hB hb1;clear hB;have hB:=hB';clear hB')|(have hB:=hb1));clear hb1;(try clear hc hf);obtain⟨hc,hf⟩:=E6 hB)|(go_at_call 226;refine (Ag8 _ _ _).mono ?_;rintro e w1 ⟨rfl,hb1⟩;(first|(have hB':=D6 hB hb1;clear hB;have hB:=hB';clear hB')|(have hB:=hb1));clear hb1;(try clear hc hf);obtain⟨hc,hf⟩:=E6 hB)|(go_at_call 227;refine (AeX _ _ _).mono ?_;rintro e w1 ⟨rfl,hb1⟩;(first|(have hB':=D6 hB hb1;clear hB;have hB:=hB';clear hB')|(have hB:=hb1));clear hb1;(try clear hc hf);obtain⟨hc,hf⟩:=E6 hB))
  go_ret
  exact⟨D7 (by rw[hr.out];simp[hA,hP]),D6 ((A4 _ _).alloc (A3 _) _) hB⟩
theorem AhO (nm a b:ByteArray) (n wi:Int) (t e:ByteArray) (w:World) (ha:a.size<=maxLen) (_hb:b.size<=maxLen) :
  Calls Tryz.prog 210 #[.agg #[.string nm,.int .i64 5,.string a,.string b,.int .i64 n,.int .i64 wi,.string t,.string e]] w λe w'=>e=.returned (.bool (argsB 5 a b n wi))/\Below w.heap.size w w':=by
 have hr:Hid (argsB 5 a b n wi=(nameB a&&(b.toList.isEmpty)&&n==0)):=by show _=_;simp[argsB,Bool.and_assoc]
 cases hA:nameB a<;>cases hP:(b.toList.isEmpty)
 all_goals
  go_enter Tryz.func210,Tryz.ntmps210
  go_wp2_with (first|(go_at_call 171;refine (Ag7 _ _ _ _ _ _ _ _).mono ?_;rintro e w1 ⟨rfl,hb1⟩;(first|(have hB':=D6 hB hb1;clear hB;have hB:=hB';clear hB')|(have hB:=hb1));clear hb1;(try clear hc hf);obtain⟨hc,hf⟩:=E6 hB)|(go_at_call 209;refine (K7 _ _ (by assumption)).mono ?_;rintro e w1 ⟨rfl,hb1⟩;(first|(have hB':=D6 hB hb1;clear hB;have hB:=hB';clear hB')|(have hB:=hb1));clear hb1;(try clear hc hf);obtain⟨hc,hf⟩:=E6 hB)|(go_at_call 226;refine (AhD _ _ _).mono ?_;rintro e w1 ⟨rfl,hb1⟩;(first|(have hB':=D6 hB hb1;clear hB;have hB:=hB';clear hB')|(have hB:=hb1));clear hb1;(try clear hc hf);obtain⟨hc,hf⟩:=E6 hB)|(go_at_call 227;refine (AfL _ _ _).mono ?_;rintro e w1 ⟨rfl,hb1⟩;(first|(have hB':=D6 hB hb1;clear hB;have hB:=hB';clear hB')|(have hB:=hb1));clear hb1;(try clear hc hf);obtain⟨hc,hf⟩:=E6 hB))
  go_ret
  exact⟨D7 (by rw[hr.out];simp[hA,hP]),D6 ((A4 _ _).alloc (A3 _) _) hB⟩
theorem AhP (nm:ByteArray) (k:Int) (a b:ByteArray) (n wi:Int) (t e:ByteArray) (w:World) (h1:(k==1)=false) (h2:(k==2)=false) (h3:(k==3)=false) (h4:(k==4)=false) (h5:(k==5)=false) :
  Calls Tryz.prog 210 #[.agg #[.string nm,.int .i64 k,.string a,.string b,.int .i64 n,.int .i64 wi,.string t,.string e]] w λe w'=>e=.returned (.bool (argsB k a b n wi))/\Below w.heap.size w w':=by
 have hr:Hid (argsB k a b n wi=false):=by show _=_;simp at h1 h2 h3 h4 h5;simp[argsB,h1,h2,h3,h4,h5]
 go_enter Tryz.func210,Tryz.ntmps210
 go_wp2_with (go_at_call 171;refine (Amz _ _ _ _ _ _ _ _ _ (by assumption) (by assumption) (by assumption) (by assumption) (by assumption)).mono ?_;rintro e w1 ⟨rfl,hb1⟩;(first|(have hB':=D6 hB hb1;clear hB;have hB:=hB';clear hB')|(have hB:=hb1));clear hb1;(try clear hc hf);obtain⟨hc,hf⟩:=E6 hB)
 go_ret
 exact⟨D7 (by rw[hr.out]),D6 ((A4 _ _).alloc (A3 _) _) hB⟩
theorem Ajx (nm:ByteArray) (k:Int) (a b:ByteArray) (n wi:Int) (t e:ByteArray) (w:World) (ha:a.size<=maxLen) (hb:b.size<=maxLen) :
  Calls Tryz.prog 210 #[.agg #[.string nm,.int .i64 k,.string a,.string b,.int .i64 n,.int .i64 wi,.string t,.string e]] w λe w'=>e=.returned (.bool (argsB k a b n wi))/\Below w.heap.size w w':=by
 by_cases h1:k=1
 ·subst h1;exact AhL nm a b n wi t e w ha hb
 by_cases h2:k=2
 ·subst h2;exact AhM nm a b n wi t e w ha hb
 by_cases h3:k=3
 ·subst h3;exact AhN nm a b n wi t e w ha hb
 by_cases h4:k=4
 ·subst h4;exact AgG nm a b n wi t e w ha hb
 by_cases h5:k=5
 ·subst h5;exact AhO nm a b n wi t e w ha hb
 exact AhP nm k a b n wi t e w (by simpa using h1) (by simpa using h2) (by simpa using h3) (by simpa using h4) (by simpa using h5)
theorem L5 (nm:ByteArray) (k:Int) (a b:ByteArray) (n wi:Int) (t e:ByteArray) (w:World) (hE:Ends w) (hnm:nm.size<=maxLen) (ha:a.size<=maxLen) (hb:b.size<=maxLen) (ht:t.size<=maxLen) (he:e.size<=maxLen) :
  Calls Tryz.prog 185 #[.agg #[.string nm,.int .i64 k,.string a,.string b,.int .i64 n,.int .i64 wi,.string t,.string e]] w λe' w'=>e'=.returned (.bool (phaseB nm k a b n wi t e))/\Below w.heap.size w w':=by
 cases h1:nameB nm
 ·go_enter Tryz.func185,Tryz.ntmps185
  go_wp2_with (go_at_call 209;refine (K7 _ _ (by assumption)).mono ?_;rintro e w1 ⟨rfl,hb1⟩;(first|(have hB':=D6 hB hb1;clear hB;have hB:=hB';clear hB')|(have hB:=hb1));clear hb1;(try clear hc hf);obtain⟨hc,hf⟩:=E6 hB)
  go_ret
  exact⟨D7 (by simp[phaseB,h1]),D6 ((A4 _ _).alloc (A3 _) _) hB⟩
 have HE:Hid (Ends w):=hE;clear hE;cases h2:(endN nm==0)
 ·have h2':(endN nm != 0)=true:=by simp[bne,h2]
  go_enter Tryz.func185,Tryz.ntmps185
  go_wp2_with (first|(go_at_call 209;refine (K7 _ _ (by assumption)).mono ?_;rintro e w1 ⟨rfl,hb1⟩;(first|(have hB':=D6 hB hb1;clear hB;have hB:=hB';clear hB')|(have hB:=hb1));clear hb1;(try clear hc hf);obtain⟨hc,hf⟩:=E6 hB)|(go_at_call 107;refine (L9 _ _ (HE.out.up (D6 ((A4 _ _).alloc (A3 _) _) hB))).mono ?_;rintro e w' ⟨rfl,hw⟩;obtain rfl:=hw.symm;clear hw))
  go_ret
  exact⟨D7 (by simp[phaseB,h2]),D6 ((A4 _ _).alloc (A3 _) _) hB⟩
 have h2':(endN nm != 0)=false:=by simp[bne,h2]
 have H2:Hid ((endN nm==0)=true):=h2;clear h2;by_cases h3:1<=wi/\wi<=1000
 case neg =>
  have h3':Hid (inB wi 1 1000=false):=(Aa5 _ _ _).2 h3;by_cases h4:1<=wi
  ·have h5:1000<wi:=by omega
   clear h3;go_enter Tryz.func185,Tryz.ntmps185
   go_wp2_with (first|(go_at_call 209;refine (K7 _ _ (by assumption)).mono ?_;rintro e w1 ⟨rfl,hb1⟩;(first|(have hB':=D6 hB hb1;clear hB;have hB:=hB';clear hB')|(have hB:=hb1));clear hb1;(try clear hc hf);obtain⟨hc,hf⟩:=E6 hB)|(go_at_call 107;refine (L9 _ _ (HE.out.up (D6 ((A4 _ _).alloc (A3 _) _) hB))).mono ?_;rintro e w' ⟨rfl,hw⟩;obtain rfl:=hw.symm;clear hw))
   go_ret
   exact⟨D7 (by simp[phaseB,h3'.out]),D6 ((A4 _ _).alloc (A3 _) _) hB⟩
  ·clear h3
   go_enter Tryz.func185,Tryz.ntmps185
   go_wp2_with (first|(go_at_call 209;refine (K7 _ _ (by assumption)).mono ?_;rintro e w1 ⟨rfl,hb1⟩;(first|(have hB':=D6 hB hb1;clear hB;have hB:=hB';clear hB')|(have hB:=hb1));clear hb1;(try clear hc hf);obtain⟨hc,hf⟩:=E6 hB)|(go_at_call 107;refine (L9 _ _ (HE.out.up (D6 ((A4 _ _).alloc (A3 _) _) hB))).mono ?_;rintro e w' ⟨rfl,hw⟩;obtain rfl:=hw.symm;clear hw))
   go_ret
   exact⟨D7 (by simp[phaseB,h3'.out]),D6 ((A4 _ _).alloc (A3 _) _) hB⟩
 have H3:Hid (inB wi 1 1000=true):=(P9 _ _ _).2 h3;obtain⟨h3a,h3b⟩:=h3;cases h4:argsB k a b n wi<;>cases h5:nameB t
 all_goals
  go_enter Tryz.func185,Tryz.ntmps185
  go_wp2_with (first|(go_at_call 209;refine (K7 _ _ (by assumption)).mono ?_;rintro e w1 ⟨rfl,hb1⟩;(first|(have hB':=D6 hB hb1;clear hB;have hB:=hB';clear hB')|(have hB:=hb1));clear hb1;(try clear hc hf);obtain⟨hc,hf⟩:=E6 hB)|(go_at_call 107;refine (L9 _ _ (HE.out.up (D6 ((A4 _ _).alloc (A3 _) _) hB))).mono ?_;rintro e w' ⟨rfl,hw⟩;obtain rfl:=hw.symm;clear hw)|(go_at_call 210;refine (Ajx _ _ _ _ _ _ _ _ _ (by assumption) (by assumption)).mono ?_;rintro e w1 ⟨rfl,hb1⟩;(first|(have hB':=D6 hB hb1;clear hB;have hB:=hB';clear hB')|(have hB:=hb1));clear hb1;(try clear hc hf);obtain⟨hc,hf⟩:=E6 hB))
  go_ret
  exact⟨D7 (by simp[phaseB,h1,H2.out,H3.out,h4,h5]),D6 ((A4 _ _).alloc (A3 _) _) hB⟩
end Go.Proofs.YtebfdccbmmpceaaGreatDoor
