/- The program's slots of a batch: a map while a call lasts, the things of slots (chapter 21). -/
import Derived.Test.YtaffjphkobhagaaGreatDoorJ8
import Derived.Test.YtaffjphkobhagaaGreatDoorJ15
import Derived.Test.YtaffjphkobhagaaGreatDoorJ10
import Derived.Test.YtaffjphkobhagaaGreatDoorKs2
set_option maxRecDepth 100000
set_option maxHeartbeats 4000000
namespace Go.Proofs.YtaffjphkobhagaaGreatDoor
open Proofs.Tryz
variable{a:Act}{K R:Act->World->Prop}{listed:Array Bool}{rest:List Oper}{ps:List Ph}{l:List Sl}{xs:List Value}{b fuel i id j:Nat}{o oi:Oper}{v:Value}{w w' w1:World}
section
open Go.RowKit Go.Maps Go.Shelf Go.Sort
def Sl.cells(x:Sl):List Value:=[.string x.s,.string x.t]
def Z9(w:World)(b o:Nat)(l:List Sl):Prop:=∀(i:Nat)(x:Sl),l[i]?=some x->w.rangeAt b (o+i*2) x.cells
theorem Z9.cells{o:Nat}(h:Z9 w b o l)(i:Nat)(hi:i<l.length):AS w b (o+i*2) (Tz (l[i]).s)/\AS w b (o+i*2+1) (Tz (l[i]).t):=by
 have hr:=h i l[i] dC;exact⟨hr 0 _ rfl,hr 1 _ rfl⟩
theorem Z9.up{o B:Nat}(h:Z9 w b o l)(hb:Below B w w')(hB:b<B):Z9 w' b o l:=λi x hx j v hv=>by
 rw[hb.cell (p:=⟨b,o+i*2+j,none⟩) hB];exact h i x hx j v hv
def CZ(x:Sl):DataW Unit:=.agg [.lit (.string x.s.data.toList),.lit (.string x.t.data.toList)]
def MW(v:Value):Option (DataW Unit×List MemPlace):=match v with
 | .agg a=>match a.toList with
  | [.string s,.string t]=>some (CZ ⟨s,t⟩,[])
  | _=>none
 | _=>none
theorem Pj(s t:BA):MW (.agg #[Tz s,Tz t])=some (CZ ⟨s,t⟩,[]):=rfl
theorem Xd{z:DataW Unit×List MemPlace}(h:MW v=some z):∃s t,v=.agg #[Tz s,Tz t]/\z=(CZ ⟨s,t⟩,[]):=by
 unfold MW at h;split at h
 .rename_i a;split at h
  .rename_i s t hl;refine⟨s,t,?_,(A5 h).symm⟩;rw[← Array.toArray_toList (xs:=a),hl]
  .cases h
 .cases h
abbrev Ju (w:World) (M n:Nat) (D:DataW Unit):Prop:=w.ownsMap prog 9 MW M n D
theorem Zy:Keyed prog 9:=string_keyed underlying9
theorem Af2(w:World):(zeroValue 173).run prog w=.ok (.agg #[Ez,Ez]) w:=sI
def FY(D:DataW Unit)(l:List Sl):Prop:=IsMap D/\∀(s:BA)(z:Sl),z.t=⟨#[]⟩->∃x:Sl,D.atKey (kl s) (CZ z)=CZ x/\x.t=R4 l s
theorem FY.start:FY (.map []) []:=⟨⟨[],rfl⟩,λs z hz=>⟨z,rfl,by rw[hz];rfl⟩⟩
theorem FY.step{D:DataW Unit}(h:FY D l)(x:Sl):FY (D.put (kl x.s) (CZ x)) (l++[x]):=by
 refine⟨h.1.put _ _,λs z hz=>?_⟩;rw[WT];by_cases e:kl s=kl x.s
 .obtain rfl:=Zi e;exact⟨x,atKey_put_same h.1 (Rt _) _ _,dC⟩
 .obtain⟨y,h1,h2⟩:=h.2 s z hz;have a0:¬(x.s.toList==s.toList)=true:=λh=>e (by rw[Aw (beq_iff_eq.1 h)]);exact⟨y,by rw[atKey_put_other e];exact h1,by rw[if_neg a0];exact h2⟩
theorem Zz{x y:Sl}(h:CZ x=CZ y):x.t=y.t:=by
 unfold CZ at h;simp only[DataW.agg.injEq,List.cons.injEq,DataW.lit.injEq,Lit.string.injEq] at h;have:=h.2.1;cases hx:x.t;cases hy:y.t
 simp_all
theorem Ko(w:World){ops:Array Oper}{Q:Exit->Act->World->Prop}
  (hg:o.guard=none) (m x:Operand) (hop:o.op=Op.lookup 190 m x false) (M n:Nat) (D:DataW Unit) (l:List Sl)
  (hm:a.eval m=.map (some M)) (hown:Ju w M n D) (hD:FY D l) (s:BA) (hx:a.eval x=Tz s) (hs:s.size<=maxLen)
  (hK:∀c:BA,wpList prog ops Q rest (a.put o.dst (.agg #[Tz c,Tz (R4 l s)])) w) :
  wpList prog ops Q (o::rest) a w:=by
 refine wpList_plain hg λK' hK'=>?_;obtain⟨v,ps,a0,hv⟩:=hown.lookup Zy underlying190 (Af2 w) (Pj _ _) (WideMaps.keyOf_string_mk underlying9 hs);obtain⟨c,t,rfl,hz⟩:=Xd hv;obtain⟨y,h1,h2⟩:=hD.2 s ⟨⟨#[]⟩,⟨#[]⟩⟩ rfl;have h3:D.atKey (kl s) (CZ ⟨⟨#[]⟩,⟨#[]⟩⟩)=CZ ⟨c,t⟩:=congrArg Prod.fst hz;have ht:t=R4 l s:=by rw[← h2,← Zz (x:=⟨c,t⟩) (y:=y) (by rw[← h3,h1])]
 subst ht;unfold Oper.wp;simp[execOp,hop,hm,hx,a0,Result.andThen];exact hK' _ _ (hK c)
theorem GX(l:List Sl)(b o c:Nat)(w:World)(h:Z9 w b o l)(hb:b<w.heap.size)(hn:l.length<=1048576)(hz:∀x∈l,x.s.size<=maxLen):
  Calls prog 139 #[Sx b o l.length c] w λe w' =>
   (∃M D,e=.returned (.map (some M))/\Ju w' M l.length D/\FY D l/\w.heap.size<=M)/\Up w w':=by
 have a5:=@run_makeMap prog;go_in;go_wp2_with fail;(try dsimp only[Iz,Sy,Sx,Nz,Vz,Tz,Ez,Pz]);go_loopw [5,9] (λ_ i w'=>∃(k:Nat)(D:DataW Unit),k<=l.length/\i=.int .i64 k/\Ju w' w.heap.size k D/\FY D (l.take k)/\Up w w') (λ_ i _=>l.length-(intOf i).toNat)
 case atStart=>exact⟨0,_,oM,rfl,World.ownsMap_made _ _ _ _,FY.start,(A4 _ _).alloc (A3 _) _⟩
 case round =>
  obtain⟨k,D,hk,rfl,a1,hD,hB⟩:=hrel;have HD:Hid (FY D (l.take k)):=hD;clear hD;by_cases hp:k<l.length
  .obtain⟨c0,c1⟩:=(h.up hB hb).cells k hp;have z0:=hz l[k] dC
   have HS:Hid (FY (D.put (kl (l[k]).s) (CZ l[k])) (l.take (k+1))):=by
    show _
    rw[A7 hp];exact HD.out.step _
   have a2:keyOf prog 9 (Tz (l[k]).s)=some (kl (l[k]).s):=WideMaps.keyOf_string_mk underlying9 z0;generalize l[k]=x0 at *;clear HD z0;have a3:=hB.alloc hB.size (Kz [Tz (x0).s,Tz (x0).t] 173);have a0:=a1.alloc (Kz [Tz (x0).s,Tz (x0).t] 173);have hC:CB (wr.alloc (Kz [Tz (x0).s,Tz (x0).t] 173)) wr.heap.size [Tz x0.s,Tz x0.t]:=E9 wr _ _;go_upto_region 5 with fail;generalize wr.alloc (Kz [Tz (x0).s,Tz (x0).t] 173)=W1 at *;obtain⟨⟨e0,e1⟩,-⟩:=hC.c2;clear c0 c1 a1 hB;go_wp2_with (at_mapUpdate;refine wpList_mapUpdate_own _ rfl _ _ _ 190 rfl 9 173 Zy underlying190 _ w.heap.size k D rfl a0 (by unfold maxLen;omega) _ _ _ rfl rfl a2 _ [] (Pj _ _) ?_;intro w1 hown1 hgrow1)
   have a4:=QJ a3 hgrow1 (A3 _);clear hgrow1 a0 a3 e0 e1 hC a2;go_wp2_with fail;go_roundw
   case rel=>exact⟨k+1,_,oM,mO,hown1,HS.out,a4⟩
   case measure=>simp[intOf];omega
  .have HK:Hid (FY D l):=by
    have:=HD.out;rw[D0 oM] at this;exact this
   go_wp2_with fail;go_ret;exact⟨⟨_,D,rfl,a1.mono hk,HK.out,A3 _⟩,hB⟩
theorem Xe(l:List Sl)(n b o c:Nat)(w:World)(hl:l.length=n)(h:Z9 w b o l)(hb:b<w.heap.size)(hn:n<=1048576)(hz:∀x∈l,x.s.size<=maxLen):
  Calls prog 139 #[Sx b o n c] w λe w' =>
   (∃M D,e=.returned (.map (some M))/\Ju w' M n D/\FY D l/\w.heap.size<=M)/\Up w w':=by
 subst hl;exact GX l b o c w h hb hn hz
theorem Xf(c t:BA)(w:World):(Instr.field 173 (.agg #[Tz c,Tz t]) 1).run prog w=.ok (Tz t) w:=sI
theorem MX{base e size n:Nat}(h:w.ownsRow base e size v n xs):∃a c,v=Vz a n c:=by
 rcases h.2 with⟨h1,h2⟩|⟨g,cap,_,hv,_⟩
 .exact⟨_,_,by rw[h1,h2]⟩
 .exact⟨_,_,hv⟩
theorem GY(l:List Sl)(ss:List BA)(M n:Nat)(D:DataW Unit)(v:Value)(w:World)(hmap:Ju w M n D)(hD:FY D l)(h:CF w v ss)(hz:∀s∈ss,s.size<=maxLen)(hn:ss.length<=800):
  Calls prog 140 #[.map (some M),v] w λe w'=>(∃u,e=.returned u/\F9 w' w.heap.size u (F8 (CQ l ss)))/\Up w w':=by
 obtain⟨a,c,rfl⟩:=h.shape;have c4:=hmap.lt;obtain⟨ii,hi,b1,b2,b3⟩:=info_parts Av;have HD:Hid (FY D l):=hD;clear hD;have c5:=Xf;go_in;go_wp2_with fail;(try dsimp only[Iz,Sy,Sx,Nz,Vz,Tz,Ez,Pz]);go_loopw [5,7,10] (λu _ i w'=>∃k:Nat,k<=ss.length/\i=.int .i64 k/\w'.ownsRow w.heap.size 9 1 u k (((ss.take k).map (R4 l)).map Value.string)/\Up w w') (λ_ _ i _=>ss.length-(intOf i).toNat)
 case atStart=>exact⟨0,oM,rfl,⟨dC,.inl ⟨rfl,rfl⟩⟩,A4 _ _⟩
 case round =>
  obtain⟨k,hk,rfl,a0,hB⟩:=hrel;by_cases hp:k<ss.length
  .obtain⟨g,a5⟩:∃g,AS w g k (Tz ss[k])/\g<w.heap.size/\a=some ⟨g,0,none⟩:=by
    rcases h with⟨h1,h2⟩|⟨g,c',h1,hS,hg,-⟩
    .subst h2;simp at hp
    .simp only[Value.slice.injEq] at h1;exact⟨g,by have:=hS k ss[k] dC;simpa using this,hg,h1.1⟩
   obtain⟨a5,hg,rfl⟩:=a5;have c0:=(hB.cell (p:=⟨g,k,none⟩) hg).trans a5;have z0:=hz ss[k] dC;have a3:Ju wr M n D:=hmap.kept (row:=none) ⟨hB.os,hB.tape,hB.output,hB.size,λi hi _=>hB.block i hi⟩ dC
   have Hs:Hid ((((ss.take (k+1)).map (R4 l)).map Value.string)=((ss.take k).map (R4 l)).map Value.string++[Tz (R4 l ss[k])]):=by
    show _=_
    rw[A7 hp,List.map_append,List.map_append];rfl
   generalize ss[k]=s0 at *;have c6:=hB.size
   go_wp2_with (first
    | (at_lookup;refine Ko _ rfl _ _ rfl M n D l rfl a3 HD.out s0 rfl z0 ?_;intro cc)
    | (at_builtin;refine wpList_append_own _ rfl _ _ 22 rfl w.heap.size 9 ii _ 1 16 underlying22 hi b1 b2 b3 rfl aS _ _ _ rfl (R8 a0 ((A4 wr.heap.size wr).alloc (A3 _) (Kz [Tz (R4 l s0)] 9))) ⟨wr.heap.size,0,none⟩ 1 1 [Tz (R4 l s0)] rfl rfl (Eb _ _ _) (LL _) (by unfold maxLen;omega) oM gG ?_;intro v1 w1 hown3 hgrow3 _))
   rw[← Hs.out] at hown3;have b9:=S0 (hB.alloc hB.size (Kz [Tz (R4 l s0)] 9)) (R8 a0 ((A4 wr.heap.size wr).alloc (A3 _) (Kz [Tz (R4 l s0)] 9))) hgrow3 (A3 _);clear a0 hgrow3 hB c0 a3;go_wp2_with fail;go_roundw
   case rel=>exact⟨k+1,oM,mO,hown3,b9⟩
   case measure=>simp[intOf];omega
  .have a9:k=ss.length:=oM
   rw[a9,List.take_length] at a0;clear a9;have HT:Hid (CQ l ss=uniq (D7 (ss.map (R4 l)))):=rfl;have Hl:Hid ((D7 (ss.map (R4 l))).length=ss.length):=by show _=_;simp[D7]
   by_cases h0:ss.length=0
   .have H0:Hid (ss=[]):=C4.1 h0;rw[h0] at a0;obtain⟨ua,uc,hu⟩:=MX a0;subst hu
    have HO:Hid (F9 wr w.heap.size (Vz ua 0 uc) (F8 (CQ l ss))):=by
     show F9 _ _ _ _
     have e:F8 (CQ l ss)=[]:=by
      have:=Vw l ss;rw[h0] at this;rw[C4.1 (Nat.le_zero.1 this)];rfl
     rw[e];rw[H0.out] at a0;exact a0
    clear a0 h0;go_wp2_with fail;refine Swz (Tryz.slices_Sort_string_none _ _ _) ?_;go_wp2_with fail;refine Swz (Tryz.slices_Compact_string_empty _ _ _) ?_;go_wp2_with fail;go_ret;exact⟨⟨_,rfl,HO.out⟩,hB⟩
   .rw[Jr] at a0;generalize D7 (ss.map (R4 l))=ks at *;obtain⟨n',hN⟩:∃n,n=ss.length:=⟨_,rfl⟩;have a4:ks.length=n':=by rw[Hl.out,hN]
    rw[← hN] at a0;have c1:0<n':=oM
    have c7:n'<=900:=oM
    clear hN Hl h0;obtain⟨g,a6,b4⟩:=AG a0 c1;subst b4;obtain⟨g',b5,hv,b6,a7,a8,b7,_,hH⟩:=Lib.holds_of_ownsRow a0 dC;cases hv
    unfold maxLen at b7;have a1:=Tryz.slices_Sort_string g 0 a6 ks wr hH a7 oM;rw[a4] at a1;go_wp2_with fail;refine a1.mono ?_;rintro e w3 ⟨rfl,nn,os,rfl⟩;clear a1;have c2:(ks.mergeSort λx y=>decide (x<=y)).length=n':=by rw[List.length_mergeSort];exact a4
    have b0:Holds encStr (grow (putRow encStr (Sort.ahead wr nn) g 0 (ks.mergeSort λx y=>decide (x<=y)).toArray) os) g 0 (ks.mergeSort λx y=>decide (x<=y)).toArray :=
     holds_grow encStr _ os g 0 _ (by simpa [putRow,mapBlock,Sort.ahead] using a7) (holds_putRow encStr _ g 0 _ _ (holds_ahead encStr wr nn g 0 _ hH) dC)
    have a2:=Tryz.slices_Compact_string g 0 a6 (ks.mergeSort λx y=>decide (x<=y)) _ b0 oM oM;rw[c2] at a2;clear b0 hH;go_wp2_with fail;refine a2.mono ?_;rintro e w4 ⟨rfl,q,rfl⟩;obtain⟨ho,b8⟩:=RM (nn:=nn) (q:=q) (os:=os) a0 hB b6 a4;rw[← HT.out,Km] at ho;clear a2;go_wp2_with fail;go_ret;refine⟨⟨_,rfl,?_⟩,b8⟩;have hT:=HT.out;unfold uniq at hT;rw[← hT] at ho ⊢
    have c3:(F8 (CQ l ss)).length=(CQ l ss).length:=by simp[F8]
    unfold F9;rw[c3];exact ho
end
section
open Go
section
variable {P:Program} {ops:Array Oper} {Q:Exit->Act->World->Prop} {md:Region.Mode} {S:World->Prop} {L:Nat}
def Ai(P:Program)(md:Region.Mode)(ops:Array Oper)(Q:Exit->Act->World->Prop)(S:World->Prop)(L:Nat):Nat->Array Bool->Act->World->Prop
 | 0,listed,a,w=>Region.ready md ops listed=[]/\Q .normal a w
 | fuel+1,listed,a,w=>(Region.ready md ops listed=[]->Q .normal a w)/\
  ∀i∈Region.ready md ops listed,wpOp P ops Q i (λa' w'=>(i≠L->S w')/\Ai P md ops Q S L fuel (listed.setIfInBounds i true) a' w') a w
theorem RR:∀(fuel:Nat)(listed:Array Bool)(a:Act)(w:World),Ai P md ops Q S L fuel listed a w->wpAny P md ops Q fuel listed a w
 | 0,_,_,_,h=>h
 | fuel+1,_,_,_,h=>⟨h.1,λi hi=>wpOp_mono (λa' w' h'=>RR fuel _ a' w' h'.2) (h.2 i hi)⟩
def FW(md:Region.Mode)(ops:Array Oper)(L i:Nat):Bool:=((ops[L]?).map λo=>o.after.any λe=>Region.binds md e&&e.on==i).getD (decide (ops.size<=L))
theorem Ab1(hw:FW md ops L i=true)(hi:i∈Region.ready md ops listed)(hj:j∈Region.ready md ops listed):j≠L:=by
 rintro rfl;obtain⟨_,oj,a1,a0⟩:=mem_ready.1 hj;simp only[FW,a1,Option.map_some,Option.getD_some,Array.any_eq_true',Bool.and_eq_true,beq_iff_eq] at hw;obtain⟨e,he,hb,a2⟩:=hw;have h1:=a0 e he hb;have h0:=(mem_ready.1 hi).1;rw[a2] at h1;rcases Nat.lt_or_ge i listed.size with h'|h'
 .simp_all
 .simp_all
theorem MU(hi:ops[i]?=some oi)(hsel:∀(j:Nat)(o:Oper) cs b,ops[j]?=some o->o.op≠.select cs b)
  (hQ:∀c a w,Q (.panic c) (a.put oi.dst v) w->Q (.panic c) a w) (hw:FW md ops L i=true) :
  ∀(fuel:Nat)(listed:Array Bool)(a:Act)(w:World),
   (∀j oj,ops[j]?=some oj->j≠i->listed.getD j true=false->(∀e∈oj.after,Region.binds md e=true->e.on≠i)->oi.apart ops oj=true)->
   i∈Region.ready md ops listed->YieldsIf P ops S oi v a->S w->Ai P md ops Q S L fuel (listed.setIfInBounds i true) (a.put oi.dst v) w->Ai P md ops Q S L (fuel+1) listed a w:=by
 intro fuel;induction fuel with
 | zero =>
  intro listed a w _ hr hy hS H;refine⟨λh=>(by rw[h] at hr;cases hr),λj hj=>?_⟩;by_cases hji:j=i
  .subst hji;exact hy.wpOp hi hS ⟨λ_=>hS,H⟩
  .have hm:=ready_mono hj hji;rw[H.1] at hm;cases hm
 | succ fuel ih =>
  intro listed a w hfree hr hy hS H;refine⟨λh=>(by rw[h] at hr;cases hr),λj hj=>?_⟩;by_cases hji:j=i
  .subst hji;exact hy.wpOp hi hS ⟨λ_=>hS,H⟩
  .have a4:j≠L:=Ab1 hw hr hj;obtain⟨a0,oj,a1,a2⟩:=mem_ready.1 hj
   have a3:∀e∈oj.after,Region.binds md e=true->e.on≠i:=λe he hb heq=>by
    have h1:=a2 e he hb;have h0:=(mem_ready.1 hr).1;rw[heq] at h1;rcases Nat.lt_or_ge i listed.size with h'|h'
    iterate 2 .simp_all
   have h2:=wpOp_putIf a1 (hfree j oj a1 hji a0 a3) (λcs b=>hsel i oi cs b hi) (λcs b=>hsel j oj cs b a1) hQ hy (H.2 j (ready_mono hj hji));refine wpOp_mono (λa' w' h3=>⟨λ_=>h3.2.1 a4,ih (listed.setIfInBounds j true) a' w' (λk ok hk hki hun hno=>?_) (ready_mono hr (Ne.symm hji)) h3.1 (h3.2.1 a4) ?_⟩) h2
   .refine hfree k ok hk hki ?_ hno;by_cases hjk:j=k
    .subst hjk;exact a0
    .simp_all
   .rw[Array.setIfInBounds_comm _ _ hji];exact h3.2.2
theorem Zq(hi:ops[i]?=some oi)
  (hs:Region.noSelect ops=true) (hf:Region.free md ops listed i=true) (hr:(Region.ready md ops listed).contains i=true) (hw:FW md ops L i=true)
  (hQ:∀c a w,Q (.panic c) (a.put oi.dst v) w->Q (.panic c) a w) (hg:Region.wanted oi (yielded ops a.tmps)=true) (hS:S w) (hy:∀w,S w->(execOp a.eval oi).run P w=.ok (.value v) w)
  (h:Ai P md ops Q S L fuel (listed.setIfInBounds i true) (a.put oi.dst v) w):Ai P md ops Q S L (fuel+1) listed a w :=
 MU hi (Region.noSelect_spec hs) hQ hw fuel listed a w (Region.free_spec hi hf) (by simpa using hr) (.inl ⟨hg,hy⟩) hS h
theorem Zr(hi:ops[i]?=some oi)
  (hs:Region.noSelect ops=true) (hf:Region.free md ops listed i=true) (hr:(Region.ready md ops listed).contains i=true) (hw:FW md ops L i=true)
  (hQ:∀c a w,Q (.panic c) (a.put oi.dst undef) w->Q (.panic c) a w) (hg:Region.wanted oi (yielded ops a.tmps)=false) (hS:S w)
  (h:Ai P md ops Q S L fuel (listed.setIfInBounds i true) (a.put oi.dst undef) w):Ai P md ops Q S L (fuel+1) listed a w :=
 MU hi (Region.noSelect_spec hs) hQ hw fuel listed a w (Region.free_spec hi hf) (by simpa using hr) (.inr ⟨hg,rfl⟩) hS h
theorem D8(i:Nat)(hi:ops[i]?=some oi)(hS:S w)
  (h:Ai P md ops Q S L fuel (listed.setIfInBounds i true) (a.put oi.dst v) w)
  (hy:∀w,S w->(execOp a.eval oi).run P w=.ok (.value v) w:=by (intro w hSw;(try dsimp only at hSw);go_simp;try with_reducible rfl))
  (hs:Region.noSelect ops=true:=by kernel_rfl) (hf:Region.free md ops listed i=true:=by kernel_rfl) (hr:(Region.ready md ops listed).contains i=true:=by kernel_rfl) (hw:FW md ops L i=true:=by kernel_rfl)
  (hQ:∀c a w,Q (.panic c) (a.put oi.dst v) w->Q (.panic c) a w:=by exact λ_ _ _ h=>h) (hg:Region.wanted oi (yielded ops a.tmps)=true:=by first|kernel_rfl|rfl):Ai P md ops Q S L (fuel+1) listed a w :=
 Zq hi hs hf hr hw hQ hg hS hy h
theorem G3(i:Nat)(hi:ops[i]?=some oi)(hS:S w)
  (h:Ai P md ops Q S L fuel (listed.setIfInBounds i true) (a.put oi.dst undef) w)
  (hs:Region.noSelect ops=true:=by kernel_rfl) (hf:Region.free md ops listed i=true:=by kernel_rfl) (hr:(Region.ready md ops listed).contains i=true:=by kernel_rfl) (hw:FW md ops L i=true:=by kernel_rfl)
  (hQ:∀c a w,Q (.panic c) (a.put oi.dst undef) w->Q (.panic c) a w:=by exact λ_ _ _ h=>h) (hg:Region.wanted oi (yielded ops a.tmps)=false:=by first|kernel_rfl|rfl):Ai P md ops Q S L (fuel+1) listed a w :=
 Zr hi hs hf hr hw hQ hg hS h
theorem Ab2(hr:Region.ready md ops listed=[i])(ho:ops[i]?=some o)
  (h:∀K':Act->World->Prop,Shut (∀a w,(i≠L->S w)->Ai P md ops Q S L fuel (listed.setIfInBounds i true) a w->K' a w)->if Region.wanted o (yielded ops a.tmps)=true then Oper.wp P o a w K' Q else K' (a.put o.dst undef) w) :
  Ai P md ops Q S L (fuel+1) listed a w:=by
 refine⟨λh0=>(by rw[hr] at h0;cases h0),λj hj=>?_⟩;rw[hr] at hj;obtain rfl:j=i:=by simpa using hj
 exact wpOp_step ho λK' hK=>h K' λa w hS hA=>hK a w ⟨hS,hA⟩
theorem W9(i:Nat)(ho:ops[i]?=some o)
  (h:∀K':Act->World->Prop,Shut (∀a w,(i≠L->S w)->Ai P md ops Q S L fuel (listed.setIfInBounds i true) a w->K' a w)->if Region.wanted o (yielded ops a.tmps)=true then Oper.wp P o a w K' Q else K' (a.put o.dst undef) w)
  (hr:Region.ready md ops listed=[i]:=by kernel_rfl):Ai P md ops Q S L (fuel+1) listed a w:=Ab2 hr ho h
theorem U4(h:Shut (∀a w,(i≠L->S w)->R a w->K a w))(hs:S w)(hr:R a w):K a w:=h a w (λ_=>hs) hr
theorem Ab3{o':Oper}(hr:Region.ready md ops listed=[i,j])(ho:ops[i]?=some o)(ho':ops[j]?=some o')
  (h:∀K':Act->World->Prop,Shut (∀a w,(i≠L->S w)->Ai P md ops Q S L fuel (listed.setIfInBounds i true) a w->K' a w)->if Region.wanted o (yielded ops a.tmps)=true then Oper.wp P o a w K' Q else K' (a.put o.dst undef) w)
  (h':∀K':Act->World->Prop,Shut (∀a w,(j≠L->S w)->Ai P md ops Q S L fuel (listed.setIfInBounds j true) a w->K' a w)->if Region.wanted o' (yielded ops a.tmps)=true then Oper.wp P o' a w K' Q else K' (a.put o'.dst undef) w) :
  Ai P md ops Q S L (fuel+1) listed a w:=by
 refine⟨λh0=>(by rw[hr] at h0;cases h0),λk hk=>?_⟩;rw[hr] at hk;rcases (by simpa using hk:k=i\/k=j) with rfl|rfl
 .exact wpOp_step ho λK' hK=>h K' λa w hS hA=>hK a w ⟨hS,hA⟩
 .exact wpOp_step ho' λK' hK=>h' K' λa w hS hA=>hK a w ⟨hS,hA⟩
theorem O1(hr:Region.ready md ops listed=[])(h:Q .normal a w):∀fuel,Ai P md ops Q S L fuel listed a w
 | 0=>⟨hr,h⟩
 | _+1=>⟨λ_=>h,by rw[hr];simp⟩
theorem L6(L:Nat)(S:World->Prop)(hm:P.follows .mixedOrders=true)(h:Ai P .any ops Q S L ops.size (Array.replicate ops.size false) a w.drew):(Code.region id ops true).wp P Q a w :=
 wp_region_any hm (RR _ _ _ _ h)
end
end
section
open Go.RowKit
theorem Aeo(a:Option Addr)(c)(l)(w)(hl:0<=l)(hl':l<=1048576):
  Calls prog 66 #[Vz a 0 c,Iz l] w λe' w'=>e'=.returned (Iz l)/\w'=w:=by
 go_in;go_wp2;go_rounds 1
 go_ret;exact⟨rfl,rfl⟩
theorem Aep(ps:List Ph)(b o c:Nat)(l:Int)(w:World)(hl:0<=l)(hl':l<=1048576)(hr:G4 w b o ps)(hb:b<w.heap.size)(hs:Dz ps)(hn:ps.length<=maxLen):
  Calls prog 66 #[Sx b o ps.length c,Iz l] w
   λe' w'=>(∃x:Int,e'=.returned (Iz x)/\(0<=x->(ps.length:Int)<=l)/\x<=1048576)/\Up w w':=by
 unfold maxLen at hn;by_cases h0:l-ps.length<0
 .go_in;go_wp2;go_ret;exact⟨⟨_,rfl,oM,oM⟩,A4 _ _⟩
 have H0:Hid ((ps.length:Int)<=l):=by show _<=_;omega
 go_in;go_wp2;go_loopw [1,5] (λx i w'=>∃(k:Nat)(y:Int),k<=ps.length/\i=.int .i64 k/\x=.int .i64 y/\0<=y/\y<=1048576/\Up w w') (λ_ i _=>ps.length-(intOf i).toNat)
 case atStart=>exact⟨0,_,oM,rfl,rfl,oM,oM,A4 _ _⟩
 case round =>
  obtain⟨k,y,hk,rfl,rfl,hy,a0,hB⟩:=hrel;by_cases hp:k<ps.length
  .obtain⟨c0,c1,c2,c3,c4,c5,c6,c7⟩:=hr.cells k hp;obtain⟨z0,z1,z2,z3,z4⟩:=hs ps[k] dC;obtain⟨hc,hf⟩:=E2 hB;go_wp2_with fail;refine (TZ _ _ _ _ _ _ _ _ _ _ hy a0 z0 z1 z2 z3 z4).mono ?_;rintro e' w1 ⟨⟨x,rfl,a3,-,-⟩,a2⟩;have a1:=D3 hB a2;by_cases hx:x<0
   .go_wp2_with fail;go_ret;exact⟨⟨_,rfl,oM,oM⟩,a1⟩
   .go_wp2_with fail;go_roundw
    case rel=>exact⟨k+1,x,oM,mO,rfl,oM,oM,a1⟩
    case measure=>simp[intOf];omega
  .go_wp2_with fail;go_ret;exact⟨⟨_,rfl,λ_=>H0.out,a0⟩,hB⟩
theorem ZW:(prog.info? 126).map (λi=>(i.zero,i.size,i.bytes))=some (some (.agg #[Ez,Iz 0,Ez,Ez,Iz 0,Iz 0,Ez,Ez]),8,104):=sI
theorem ZX:(prog.info? 126).map (·.size)=some 8:=sI
theorem ID(n:Nat)(hn:n<=1048576):∃C,C.size=n*8/\∀w,(Instr.makeSlice 49 (Iz (n)) (Iz (n))).run prog w=.ok (Sy w.heap.size n n) (w.alloc (.cells C 126)):=by
 obtain⟨i,hi,hz⟩:=B6.1 ZW;simp at hz;obtain⟨hz,hs,hb⟩:=hz;refine⟨madeCells (Value.agg #[Ez,Iz 0,Ez,Ez,Iz 0,Iz 0,Ez,Ez]).cells _,size_madeCells _ _,λw=>?_⟩;have:=run_make w 49 126 i _ underlying49 hi hz .i64 .i64 n n oM oM (by grind) oM;grind
def Nl(w:World)(v:Value)(ps:List Ph):Prop:=(∃a c,v=.slice a 0 c/\ps=[])\/∃b o c,v=.slice (some ⟨b,o,none⟩) ps.length c/\G4 w b o ps/\b<w.heap.size/\ps.length<=maxLen
theorem Nl.up(h:Nl w v ps)(hb:Up w w'):Nl w' v ps:=by
 rcases h with h|⟨b,o,c,rfl,hr,hlt,hl⟩
 .exact .inl h
 .exact .inr ⟨b,o,c,rfl,hr.up hb hlt,A1 hlt hb.size,hl⟩
def Own(w:World)(b:Nat)(ps:List Ph):Prop:=G4 w b 0 ps/\P7 w b 0 (ps.length*8)/\b<w.heap.size
theorem Uo{k:Nat}(hk:k<ps.length)(h:G4 w1 b 0 (ps.take k))(ht:P7 w1 b 0 (ps.length*8)):G4 (w1.setCells b (k*8) (ps[k]).cells) b 0 (ps.take (k+1)):=by
 intro i p hp;by_cases hi:i<k
 .refine World.rangeAt_setCells_apart (h i p ?_) b (k*8) _ (.inr (.inl ?_))
  .rw[List.getElem?_take] at hp ⊢;rw[if_pos oM] at hp;rw[if_pos hi];exact hp
  .simp[Ph.cells];omega
 .have a0:i=k:=by
   rw[List.getElem?_take] at hp;split at hp
   .omega
   .cases hp
  subst a0;rw[List.getElem?_take,if_pos oM,A0 hk] at hp;obtain rfl:=A5 hp;rw[Nat.zero_add];refine World.rangeAt_setCells_same _ _ _ _ (λj hj=>?_);have:=ht.1 (i*8+j) (by simp[Ph.cells] at hj;omega);simpa using this
theorem Aeq(a:Option Addr)(c)(w):
  Calls prog 78 #[Vz a 0 c] w λe w'=>e=.returned (Sy w.heap.size 0 0)/\Own w' w.heap.size []/\Up w w':=by
 obtain⟨C,hC,a0⟩:=ID 0 oM;have HC:Hid _:=hC;simp only[Int.natCast_zero] at a0;go_wp2;go_rounds 1
 go_ret;exact⟨rfl,⟨λi p hp=>by simp at hp,by have:=Bt w C 126;rw[HC.out] at this;exact this,dC⟩,by go_grown⟩
theorem Aer(ps:List Ph)(b o c:Nat)(w:World)(hr:G4 w b o ps)(hb:b<w.heap.size)(hn:ps.length<=1048576):
  Calls prog 78 #[Sx b o ps.length c] w λe w'=>e=.returned (Sy w.heap.size ps.length ps.length)/\Own w' w.heap.size ps/\Up w w':=by
 obtain⟨C,hC,a4⟩:=ID ps.length hn;have HC:Hid (C.size=ps.length*8):=hC;clear hC;go_in;go_wp2;(try dsimp only[Iz,Sy,Sx,Nz,Vz,Tz,Ez,Pz]);go_loopw [4] (λi w'=>∃k:Nat,k<=ps.length/\i=.int .i64 k/\G4 w' w.heap.size 0 (ps.take k)/\P7 w' w.heap.size 0 (ps.length*8)/\w.heap.size<w'.heap.size/\Up w w') (λi _=>ps.length-(intOf i).toNat)
 case atStart=>exact⟨0,oM,rfl,λi p hp=>by simp at hp,by rw[← HC.out];exact Bt _ _ _,dC,by go_grown⟩
 case round =>
  obtain⟨k,hk,rfl,a2,a3,a0,hB⟩:=hrel;have Hra:Hid (G4 wr w.heap.size 0 (ps.take k)):=a2;have Hth:Hid (P7 wr w.heap.size 0 (ps.length*8)):=a3;clear a2 a3;by_cases hp:k<ps.length
  .obtain⟨c0,c1,c2,c3,c4,c5,c6,c7⟩:=hr.cells k hp;obtain⟨hc,hf⟩:=E2 hB;go_wp2_with fail;refine (TY _ _ _ _ _ _ _ _ _).mono ?_;rintro e' w1 ⟨rfl,a1⟩;clear hc hf c0 c1 c2 c3 c4 c5 c6 c7
   go_wp2_with (refine wpList_store_mid rfl 126 _ _ rfl w.heap.size (k*8) _ rfl rfl (λj hj=>by
     have:=(P8 Hth.out a1 a0).1 (k*8+j) (by simp at hj;omega);simpa using this) ZX (by simp[Value.oneCell']) ?_)
   go_roundw
   case rel=>exact⟨k+1,oM,mO,Uo hp (Hra.out.up a1 a0) (P8 Hth.out a1 a0),Bc (P8 Hth.out a1 a0) _ _ _,A1 (A1 a0 a1.size) (BK _ _ _ _),X7 _ _ _ _ _ _ (D3 hB a1) (A3 _)⟩
   case measure=>simp[intOf];omega
  .go_wp2_with fail;go_ret;exact⟨rfl,⟨by have:=Hra.out;rwa [D0 oM] at this,Hth.out,a0⟩,hB⟩
theorem Uq(nm:BA)(k:Int)(a b:BA)(n wi:Int)(t e:BA)(w:World):
  cU prog 156 #[.agg #[Tz nm,Iz k,Tz a,Tz b,Iz n,Iz wi,Tz t,Tz e],.agg #[Tz nm,Iz k,Tz a,Tz b,Iz n,Iz wi,Tz t,Tz e]] w (.bool true):=by
 delta cU;go_in;go_wp2;go_ret;exact⟨rfl,by go_grown⟩
theorem Aes(ps:List Ph)(b b2 cA cB:Nat)(w:World)(hr:G4 w b 0 ps)(hb:b<w.heap.size)(hr2:G4 w b2 0 ps)(hb2:b2<w.heap.size)(hn:ps.length<=1048576):
  cU prog 117 #[Sy b ps.length cA,Sy b2 ps.length cB] w (.bool true):=by
 delta cU;go_in;go_wp2;(try dsimp only[Iz,Sy,Sx,Nz,Vz,Tz,Ez,Pz]);go_loopw [5] (λi w'=>∃k:Nat,k<=ps.length/\i=.int .i64 k/\Up w w') (λi _=>ps.length-(intOf i).toNat)
 case atStart=>exact⟨0,oM,rfl,A4 _ _⟩
 case round =>
  obtain⟨k,hk,rfl,hB⟩:=hrel;by_cases hp:k<ps.length
  .obtain⟨c0,c1,c2,c3,c4,c5,c6,c7⟩:=hr.cells k hp;obtain⟨d0,d1,d2,d3,d4,d5,d6,d7⟩:=hr2.cells k hp;simp only[Nat.zero_add] at c0 c1 c2 c3 c4 c5 c6 c7 d0 d1 d2 d3 d4 d5 d6 d7;obtain⟨hc,hf⟩:=E2 hB;go_wp2_with fail;go_region_with (go_at_call 156;refine (Uq _ _ _ _ _ _ _ _ _).mono ?_;rintro e w1 ⟨rfl,a1⟩)
   all_goals
    have a0:=D3 hB.drew a1;clear hc hf c0 c1 c2 c3 c4 c5 c6 c7 d0 d1 d2 d3 d4 d5 d6 d7;go_wp2_with fail;go_roundw
    case rel=>exact⟨k+1,oM,mO,a0⟩
    case measure=>simp[intOf];omega
  .go_wp2_with fail;go_ret;exact⟨rfl,hB⟩
theorem Mf(b:Bk)(v:Value)(s:BA)(w:World)(h:Z5 w v b):
  cU prog 38 #[v,Tz s] w (Iz (Ar (G9 b.bs) s)):=by
 obtain⟨a1,c1,a2,c2,rfl,h1,h2⟩:=h.parts;have hC:CB (w.alloc (Kz [Vz a1 (b).tg.length c1,Vz a2 (b).bs.length c2] 34)) w.heap.size [Vz a1 b.tg.length c1,Vz a2 b.bs.length c2]:=E9 w _ _;have a5:=(A4 w.heap.size w).alloc (A3 _) (Kz [Vz a1 (b).tg.length c1,Vz a2 (b).bs.length c2] 34);have g2:=h2.at.1;unfold maxLen at g2;delta cU;go_in;go_upto_region 1 with fail;generalize w.alloc (Kz [Vz a1 (b).tg.length c1,Vz a2 (b).bs.length c2] 34)=W1 at *;have l2:=h2.up a5;clear h h1 h2;obtain⟨e0,e1⟩:=hC.c2';obtain⟨-,a0⟩:=l2.at;go_wp2_with fail;go_loop [5] (λi=>∃k:Nat,k<=b.bs.length/\i=.int .i64 k/\E1 ((G9 b.bs).take k) s=false) (λi=>b.bs.length-(intOf i).toNat)
 case atStart=>exact⟨0,oM,rfl,rfl⟩
 case round =>
  obtain⟨k,hk,rfl,a6⟩:=hrel;have Hal:Hid (E1 ((G9 b.bs).take k) s=false):=a6;clear a6;by_cases hp:k<b.bs.length
  .obtain⟨bb,o,rfl,hS,hb⟩:=a0 oM;obtain⟨a3,d3,a4,d4,c3,c4,c5,-,-,-⟩:=(hS.at hp).cells;have a7:k<(G9 b.bs).length:=by rw[K0];exact hp
   have Hn:Hid ((G9 b.bs)[k]=(b.bs[k]).nm):=Cs b.bs k hp;cases hq:((b.bs[k]).nm.toList==s.toList)
   .have Hq:Hid (E1 ((G9 b.bs).take (k+1)) s=false):=ED a7 Hal.out (by rw[Hn.out];exact hq);generalize b.bs[k]=x0 at *;go_wp2_with fail;go_round
    case rel=>exact⟨k+1,oM,mO,Hq.out⟩
    case measure=>simp[intOf];omega
   .have Hq:Hid (Ar (G9 b.bs) s=(k:Int)):=Bz a7 Hal.out (by rw[Hn.out];exact hq);generalize b.bs[k]=x0 at *;go_wp2_with fail;go_ret;exact⟨K8 Hq.out.symm,a5⟩
  .have Hq:Hid (Ar (G9 b.bs) s=-1):=Dq (FO (by rw[K0];exact hp) Hal.out);go_wp2_with fail;go_ret;exact⟨K8 Hq.out.symm,a5⟩
end
end Go.Proofs.YtaffjphkobhagaaGreatDoor
