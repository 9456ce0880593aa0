/- The program's chapter 13: what is asked is done, or refused. -/
import Derived.Test.YtmfjakieahkacaaGreatDoorJ21
import Derived.Test.YtmfjakieahkacaaGreatDoorEa2
import Derived.Test.YtmfjakieahkacaaGreatDoorJ22
import Derived.Test.YtmfjakieahkacaaGreatDoorShelf
import Derived.Test.YtmfjakieahkacaaGreatDoorJ11
import Derived.Laws.AppendOwnNone
import Derived.Test.YtmfjakieahkacaaGreatDoorJ8
import Derived.Test.YtmfjakieahkacaaGreatDoorKt9
import Derived.Test.YtmfjakieahkacaaGreatDoorDn0
set_option maxRecDepth 100000
set_option maxHeartbeats 4000000
namespace Go.Proofs.YtmfjakieahkacaaGreatDoor
open Go.RowKit
theorem U0.up{w w':World}{base:Nat}{v:Value}{b:Bk}(h:U0 w base v b)(hb:Below w.heap.size w w'):U0 w' base v b:=by
 obtain⟨a1,c1,a2,c2,ps,e,h1,h2,h3⟩:=h;exact⟨a1,c1,a2,c2,ps,e,h1.up hb,h2,h3.up hb⟩
theorem U0.low{w:World}{base base':Nat}{v:Value}{b:Bk}(h:U0 w base v b)(hb:base'<=base):U0 w base' v b:=by
 obtain⟨a1,c1,a2,c2,ps,e,h1,h2,h3⟩:=h;exact⟨a1,c1,a2,c2,ps,e,h1.low hb,h2,h3.low hb⟩
theorem U0.set{w:World}{base r j:Nat}{v u:Value}{b:Bk}(h:U0 w base v b)(hr:r<base):U0 (w.setCell ⟨r,j,none⟩ u) base v b:=by
 obtain⟨a1,c1,a2,c2,ps,e,h1,h2,h3⟩:=h;exact⟨a1,c1,a2,c2,ps,e,h1.set hr,h2,h3.setLow hr j u⟩
theorem U0.shape{w:World}{base:Nat}{v:Value}{b:Bk}(h:U0 w base v b):∃a1 c1 a2 c2,v=.agg #[.slice a1 b.tg.length c1,.slice a2 b.bs.length c2]:=by
 obtain⟨a1,c1,a2,c2,ps,e,-⟩:=h;exact⟨a1,c1,a2,c2,e⟩
theorem Xw(w:World)(base:Nat):U0 w base (.agg #[.slice none 0 0,.slice none 0 0]) S7:=by
 refine⟨none,0,none,0,[],rfl,⟨B9 _ _ _ _,λp hp=>by simp at hp⟩,rfl,?_⟩;exact (Jt w base none).mk1 (B9 _ _ _ _)
def BD(nm:ByteArray)(c:Int):Value:=if c=0 then .nilIface else .iface 109 (.agg #[.string nm,.iface 78 (.agg #[.int .i64 c])])
theorem Vj(nm:ByteArray):BD nm 0=.nilIface:=rfl
theorem Vk{nm:ByteArray}{c:Int}(h:c≠0):BD nm c=.iface 109 (.agg #[.string nm,.iface 78 (.agg #[.int .i64 c])]):=by simp[BD,h]
noncomputable def S0(b:Bk)(cR:Int):Int:=if I1 b=false then 1 else cR
noncomputable def U3(b:Bk)(cR:Int)(bN:Bk):Bk:=if I1 b=false then S7 else if cR=0 then bN else b
end Go.Proofs.YtmfjakieahkacaaGreatDoor
namespace Go.Proofs.YtmfjakieahkacaaGreatDoor
open Go.Conc
section
variable {P:Program} {X:Nat->Prop} {s:Nat->Bool}
def Gw(P:Program)(X:Nat->Prop)(w:World)(R:World->Value->World->Prop)(fe:Frame)(ue:World):Prop :=
 ∃τ d u0 v,R (E0 X w τ d) v u0/\fe.leaving P u0 (.returned v)/\R4 (λ_=>False) u0 ue
theorem Ja{w:World}{R:World->Value->World->Prop}(fe:Frame)(u v:World)(h:R4 (λ_=>False) u v)(k:Gw P X w R fe u):Gw P X w R fe v:=by
 obtain⟨τ,d,u0,x,h1,h2,h3⟩:=k;exact⟨τ,d,u0,x,h1,h2,h3.trans h⟩
theorem Ts(S:N0 P s){fr fe:Frame}{seg:List Frame}{u ue:World}:∀(N:Nat),N8 P s fr->(∀c∈seg,N8 P s c)->R4 (λ_=>False) u u->runN P N (lone fr (seg++[c0 P]) u)=.next (lone fe [c0 P] ue)->R4 (λ_=>False) ue ue:=λN h hr hf hrun=>by
 obtain⟨ve,q1,q2⟩:=shift S N h hr hf hrun;rw[hrun,Stepped.next.injEq] at q1;obtain⟨_,_,e⟩:=Y7 q1;rw[← e] at q2;exact q2
theorem Vl(S:N0 P s){f:FuncId}(hf:s f=true)(hbf:((P.funcs[f]?).bind (·.body)).isSome=true){args:Array Value}{w:World}(hb:N9 X w){R:World->Value->World->Prop}
  (hc:∀τ d,Calls P f args (E0 X w τ d) λe u'=>∃v,e=.returned v/\R (E0 X w τ d) v u') (bw:List Frame) :
  AU P X (Left P X s (Gw P X w R) bw) (G (Frame.enter P f args .normal) bw) w:=by
 have h0:=Py (ZE S hf hbf w) args
 have hst:St P X s Nm (Gw P X w R) (Frame.enter P f args .normal) [] w:=⟨h0,by simp,hb,λτ d=>by
  obtain⟨e,u',fr,⟨v,rfl,hR⟩,⟨N,hN⟩,_,hl⟩:=hc τ d [c0 P];have hs:U7 X 0 w (E0 X w τ d):=FK hb (λi q hi=>by omega);have hfu:R4 (λ_=>False) (E0 X w τ d) (E0 X w τ d):=λn=>⟨rfl,λ_ h=>h.elim,λ_ _=>rfl,λ_ h=>h.elim,hs.pendU,rfl,rfl,λ_ _ _=>rfl⟩;exact⟨N,fr,u',hN,hl.1,τ,d,u',v,hR,hl,Ts S N h0 (seg:=[]) (by simp) hfu hN⟩⟩
 exact Nn S Ja bw hst
end
end Go.Proofs.YtmfjakieahkacaaGreatDoor
namespace Go.Proofs.YtmfjakieahkacaaGreatDoor
open Go.RowKit Go.Shelf
theorem Vm(n:Nat)(w:World)(h1:1<=n)(h2:n<=1000):
  Calls Tryz.prog 128 #[.slice none 0 0,.int .i64 (n:Int)] w
   λe w'=>(∃u,e=.returned u/\E5 w' w.heap.size u [])/\Below w.heap.size w w':=by
 obtain⟨ii,hi,iz0,iz1,iz2⟩:=info_parts Z0;have h:=Any8.slices_Grow_grow Tryz.growS ii (.string ⟨#[]⟩) hi iz0 (by omega) none 0 0 n [] w (A3 _) (by omega) (by rw[iz2];omega) (by omega) (by simp) (λ_=>rfl) (λa ha=>by cases ha);refine Calls.mono h ?_;rintro e w' ⟨rfl,rfl⟩;have hge:=grownCap_ge w (0+n) 0 9;have hle:=grownCap_le_maxLen w (0+n) 0 9 (by unfold maxLen;omega);refine⟨⟨_,rfl,rfl,.inr ⟨_,_,_,rfl,A3 _,heap_alloc_new _ _,Nat.zero_le _,hle,?_,by simp⟩⟩,(A4 _ _).drew.alloc (by simp) _⟩;have hz:(Value.string ⟨#[]⟩).cells.size=1:=rfl;rw[Array.size_append,Array.size_append,size_zeroCells,size_zeroCells,hz];simp only[List.size_toArray,List.length_nil];show 0+(0+n-0)*1+(grownCap w (0+n) 0 9-(0+n))*1=grownCap w (0+n) 0 9*1
 omega
theorem Vn(w:World):Calls Tryz.prog 128 #[.slice none 0 0,.int .i64 0] w λe w'=>(∃u,e=.returned u/\E5 w' w.heap.size u [])/\Below w.heap.size w w':=by
 go_enter Tryz.func128,Tryz.ntmps128;go_wp2;go_ret;exact⟨⟨_,rfl,B9 _ _ _ _⟩,A4 _ _⟩
theorem Vo(n:Nat)(w:World)(h2:n<=1000):Calls Tryz.prog 128 #[.slice none 0 0,.int .i64 (n:Int)] w λe w'=>(∃u,e=.returned u/\E5 w' w.heap.size u [])/\Below w.heap.size w w':=by
 rcases C3 n with h|h
 ·subst h;exact Vn w
 ·exact Vm n w h h2
theorem AaS{w:World}{base:Nat}{u v:Value}{xs ss:List ByteArray}(ho:E5 w base u xs)(h:Ls w v ss)(hn:xs.length+ss.length<=1000)(hb:base<=w.heap.size):
  ∃u' w',(Builtin.append_ #[23,23] 23 #[u,v]).run Tryz.prog w=.ok u' w'/\E5 w' base u' (xs++ss)/\w.grownBy w' u.ownBlock:=by
 obtain⟨ii,hi,iz0,iz1,iz2⟩:=info_parts Z0;obtain⟨a,c,rfl,-,-,hpos⟩:=h;rcases C3 ss.length with h0|h0
 ·obtain rfl:=C4.1 h0;exact⟨u,w,BL base 23 23 9 ii 1 Tryz.underlying23 hi _ _ _ ho a c,by simpa using ho,F7 _ _⟩
 ·obtain⟨g,o,rfl,hS,hg⟩:=hpos h0;obtain⟨v1,w1,hr,hown1,hgr1,-⟩:=run_append_own (P:=Tryz.prog) w base 23 23 9 ii _ 1 16 Tryz.underlying23 hi iz0 iz1 iz2 rfl (by decide) u xs.length (xs.map Value.string) ho ⟨g,o,none⟩ ss.length c (ss.map Value.string) (by simp) (BE hS) (IA ss) (by unfold maxLen;omega) (by omega) hb;refine⟨v1,w1,hr,?_,hgr1⟩;unfold E5;rw[A8,List.map_append];exact hown1
def AE(L:List (Value×List ByteArray))(k:Nat):List ByteArray:=((L.take k).map (·.2)).flatten
theorem Gd(L:List (Value×List ByteArray))(k:Nat)(hk:k<L.length):AE L (k+1)=AE L k++(L[k]).2:=by
 rw[AE,AE,A7 hk,List.map_append,List.flatten_append];simp
theorem RL(L:List (Value×List ByteArray)):∀(d k:Nat),k+d<=L.length->(AE L k).length<=(AE L (k+d)).length
 | 0,_,_=>A3 _
 | d+1,k,h=>by
  have h1:=RL L d k (by omega);have h2:=Gd L (k+d) (by omega);rw[← Nat.add_assoc,h2,A8];omega
def FL(w:World)(sb:Nat)(L:List (Value×List ByteArray)):Prop:=∀(i:Nat)(f:Value×List ByteArray),L[i]?=some f->w.cell? ⟨sb,i,none⟩=some f.1/\Ls w f.1 f.2
theorem FL.up{w w':World}{sb:Nat}{L:List (Value×List ByteArray)}(h:FL w sb L)(hb:Below w.heap.size w w')(hs:sb<w.heap.size):FL w' sb L:=λi f hf=>⟨(hb.cell (p:=⟨sb,i,none⟩) hs).trans (h i f hf).1,(h i f hf).2.up hb⟩
theorem Rb(L:List (Value×List ByteArray))(sb:Nat)(w:World)(h:FL w sb L)(hsb:sb<w.heap.size)(hL:L.length<=10)(hn:(AE L L.length).length<=900):
  Calls Tryz.prog 119 #[.slice (some ⟨sb,0,none⟩) L.length L.length] w
   λe w'=>(∃u,e=.returned u/\E5 w' w.heap.size u (AE L L.length))/\Below w.heap.size w w':=by
 have Hle:Hid (∀k,k<=L.length->(AE L k).length<=900):=λk hk=>by
  have:=RL L (L.length-k) k (by omega);rw[show k+(L.length-k)=L.length by omega] at this;omega
 go_enter Tryz.func119,Tryz.ntmps119;go_wp2_with fail;go_loop [3,11] (λz i=>∃k:Nat,k<=L.length/\i=.int .i64 (k:Int)/\z=.int .i64 ((AE L k).length:Int)) (λ_ i=>L.length-(intOf i).toNat)
 case atStart=>exact⟨0,by omega,rfl,by simp[AE]⟩
 case round =>
  obtain⟨k,hk,rfl,rfl⟩:=hrel;have hb1:=Hle.out k hk;by_cases hp:k<L.length
  ·obtain⟨c0,l0⟩:=h k _ (A0 hp);have hb2:=Hle.out (k+1) hp;have HS:Hid ((AE L (k+1)).length=(AE L k).length+(L[k]).2.length):=by show _=_;rw[Gd L k hp,A8]
   rw[HS.out] at hb2;generalize L[k]=f0 at *;obtain⟨fv,fs⟩:=f0;simp only at c0 l0 hb2 HS;obtain⟨fa,fc,hfv,-⟩:=id l0;subst hfv;clear l0;generalize hcl:(AE L k).length=n0 at *;go_wp2_with fail;go_round
   case rel=>exact⟨k+1,by omega,by go_num,by rw[HS.out];go_num⟩
   case measure=>simp[intOf];omega
  ·obtain rfl:k=L.length:=by omega
   go_wp2_with fail;refine (Vo (AE L L.length).length w (by omega)).mono ?_;rintro e w1 ⟨⟨u,rfl,ho⟩,hB1⟩;have HC:Hid (FL w sb L):=h;clear h hn hb1;obtain⟨ua,uc,hu⟩:=K3 ho;subst hu;go_wp2_with fail;go_loopw [6,27] (λu i w'=>∃(k:Nat),k<=L.length/\i=.int .i64 (k:Int)/\E5 w' w.heap.size u (AE L k)/\Below w.heap.size w w') (λ_ i _=>L.length-(intOf i).toNat)
   case atStart=>exact⟨0,by omega,rfl,by simpa [AE] using ho,hB1⟩
   case round =>
    clear ho hB1;obtain⟨k,hk,rfl,ho,hB⟩:=hrel;by_cases hp:k<L.length
    ·obtain⟨c0,l0⟩:=(HC.out.up hB hsb) k _ (A0 hp);have hb2:=Hle.out (k+1) hp;rw[Gd L k hp,A8] at hb2;obtain⟨u',w',hr,ho',hg'⟩:=AaS ho l0 (by omega) hB.size;have hB':=N5 hB ho hg' (A3 _);rw[← Gd L k hp] at ho';generalize L[k]=f0 at *;obtain⟨fv,fs⟩:=f0;simp only at c0 l0 hr;obtain⟨fa,fc,hfv,-⟩:=id l0;subst hfv;clear hb2 ho hg' l0;go_wp2_with (at_builtin;refine Dq _ rfl _ _ _ _ rfl _ _ _ _ rfl rfl hr ?_)
     go_roundw
     case rel=>exact⟨k+1,by omega,by go_num,ho',hB'⟩
     case measure=>simp[intOf];omega
    ·obtain rfl:k=L.length:=by omega
     go_wp2_with fail;go_ret;exact⟨⟨_,rfl,ho⟩,hB⟩
end Go.Proofs.YtmfjakieahkacaaGreatDoor
namespace Go.Proofs.YtmfjakieahkacaaGreatDoor
open Go.RowKit Go.Maps
theorem Kt{a b:ByteArray}(h:a=b):Ending.returned (.string a)=.returned (.string b):=by rw[h]
theorem Mm(b:Bk)(v:Value)(s:ByteArray)(w:World)(h:K0 w v b)(hs:s.size<=maxLen):
  Calls Tryz.prog 8 #[v,.string s] w λe w'=>e=.returned (.string (X5 b s))/\Below w.heap.size w w':=by
 obtain⟨a1,c1,a2,c2,rfl,h1,h2⟩:=h.parts;have hC:CB (w.alloc (.cells #[.slice a1 (b).tg.length c1,.slice a2 (b).bs.length c2] 26)) w.heap.size [.slice a1 b.tg.length c1,.slice a2 b.bs.length c2]:=T6 w _ _;have hB0:=(A4 w.heap.size w).alloc (A3 _) (.cells #[.slice a1 (b).tg.length c1,.slice a2 (b).bs.length c2] 26);go_enter Tryz.func8,Tryz.ntmps8;go_upto_region 1 with fail;generalize w.alloc (.cells #[.slice a1 (b).tg.length c1,.slice a2 (b).bs.length c2] 26)=W1 at *;have l2:=h2.up hB0;have hk:=h.up hB0;clear h h1 h2;obtain⟨e0,e1⟩:=hC.c2';have hlt:=hC.2.2;go_wp2_with fail;refine (BK b _ _ hk).mono ?_;rintro e w2 ⟨rfl,hB2⟩;cases hq:I1 b
 ·have Hq:Hid (X5 b s=⟨#[]⟩):=by show _=_;rw[X5,hq];rfl
  go_wp2_with fail;go_ret;exact⟨Kt Hq.out.symm,D1 hB0 hB2⟩
 have Hq:Hid (X5 b s=CK b.bs s):=by show _=_;rw[X5,if_pos hq]
 have hok:J0 b:=O7.1 hq;have h8:=Rv hok.1.1 hok.2.2.2.2.1;have h5:=hok.2.1;have hA:=hok.2.2.2.2.2;clear hok hq;have f1:=(hB2.cell (p:=⟨w.heap.size,1,none⟩) hlt).trans e1;go_wp2_with fail;refine (JX b.bs _ _ (l2.up hB2) h5 h8).mono ?_;rintro e w3 ⟨hh,hb3⟩;have hB3:=D1 hB2 hb3;rcases hh with⟨-,M,n,D,rfl,hmap,hD,-⟩|⟨hN,-⟩
 case inr=>exact absurd hA hN
 clear f1 hb3 hB2;have hkey:keyOf Tryz.prog 9 (.string s)=some (kl s):=WideMaps.keyOf_string_mk Tryz.underlying9 hs;have f1:=(hB3.cell (p:=⟨w.heap.size,1,none⟩) hlt).trans e1;cases ht:Maps.has D (kl s)
 ·have Hm:Hid (X5 b s=⟨#[]⟩):=by show _=_;rw[Hq.out];exact hD.whoNone (by omega) ht
  go_wp2_with (at_lookup;refine wpList_lookup_own_ok_int _ rfl _ _ 52 rfl 9 3 .i64 IK Tryz.underlying52 Tryz.underlying3 (Js _) M n D rfl hmap _ _ rfl hkey ?_;intro cc _ _)
  go_ret;exact⟨Kt Hm.out.symm,D1 hB0 hB3⟩
 ·obtain⟨i,hi,hz,hw⟩:=hD.who ht;have Hm:Hid (X5 b s=(b.bs[i]).nm):=by show _=_;rw[Hq.out];exact hw
  have Hz:Hid (∀cc:Int,D.atKey (kl s) (.lit (.int .i64 0))=.lit (.int .i64 cc)->cc=(i:Int)):=λcc h=>by
   rw[hz] at h;simpa using h.symm
  obtain⟨-,hpos⟩:=l2.at;obtain⟨bb,o,rfl,hS,hb⟩:=hpos (by omega);obtain⟨a3,d3,a4,d4,c3,c4,c5,-,-,-⟩:=((hS.at hi).up hB3 hb).cells;generalize b.bs[i]=x0 at *;clear hS hz hw hD Hq;go_wp2_with (at_lookup;refine wpList_lookup_own_ok_int _ rfl _ _ 52 rfl 9 3 .i64 IK Tryz.underlying52 Tryz.underlying3 (Js _) M n D rfl hmap _ _ rfl hkey ?_;intro cc hcc _;obtain rfl:=Hz.out cc hcc;clear hcc)
  go_ret;exact⟨Kt Hm.out.symm,D1 hB0 hB3⟩
end Go.Proofs.YtmfjakieahkacaaGreatDoor
namespace Go.Proofs.YtmfjakieahkacaaGreatDoor
open Go.RowKit
def CM(b:Bk):Prop:=b.tg.length<=40/\b.bs.length<=40/\∀x∈b.bs,x.has.length<=40/\x.nd.length<=40
def ED(b:Bk):Prop:=b.tg.length<=50/\b.bs.length<=50/\∀x∈b.bs,x.has.length<=50/\x.nd.length<=50
def Dk(w:World)(base:Nat)(v:Value)(b:Bk):Prop:=O5 w base v b/\Bh b/\CM b
theorem Dk.gr{w w':World}{base r:Nat}{v:Value}{b:Bk}(h:Dk w base v b)(hg:w.grownBy w' (some r))(hr:r<base):Dk w' base v b:=⟨h.1.gr hg hr,h.2⟩
theorem Dk.low{w:World}{base base':Nat}{v:Value}{b:Bk}(h:Dk w base v b)(hb:base'<=base):Dk w base' v b:=⟨h.1.low hb,h.2⟩
theorem Dk.up{w w':World}{base:Nat}{v:Value}{b:Bk}(h:Dk w base v b)(hb:Below w.heap.size w w'):Dk w' base v b:=⟨h.1.up hb,h.2⟩
theorem Dk.bk{w:World}{base:Nat}{v:Value}{b:Bk}(h:Dk w base v b):K0 w v b:=h.1.bk h.2.1
def Ec(w:World)(base:Nat)(v:Value)(b:Bk):Prop:=O5 w base v b/\Bh b/\ED b
theorem Dk.loose{w:World}{base:Nat}{v:Value}{b:Bk}(h:Dk w base v b):Ec w base v b:=by
 obtain⟨h1,h2,h3,h4,h5⟩:=h;exact⟨h1,h2,by omega,by omega,λx hx=>by have:=h5 x hx;omega⟩
theorem Ec.gr{w w':World}{base r:Nat}{v:Value}{b:Bk}(h:Ec w base v b)(hg:w.grownBy w' (some r))(hr:r<base):Ec w' base v b:=⟨h.1.gr hg hr,h.2⟩
theorem Ec.low{w:World}{base base':Nat}{v:Value}{b:Bk}(h:Ec w base v b)(hb:base'<=base):Ec w base' v b:=⟨h.1.low hb,h.2⟩
theorem Ec.up{w w':World}{base:Nat}{v:Value}{b:Bk}(h:Ec w base v b)(hb:Below w.heap.size w w'):Ec w' base v b:=⟨h.1.up hb,h.2⟩
theorem Ec.bk{w:World}{base:Nat}{v:Value}{b:Bk}(h:Ec w base v b):K0 w v b:=h.1.bk h.2.1
theorem Ge:CM S7:=⟨by simp[S7],by simp[S7],λx hx=>by simp[S7] at hx⟩
theorem RM{α:Type}{l:List α}{k:Nat}{x y:α}(h:y∈l.take k++x::l.drop k):y∈l∨y=x:=by
 rcases C6.1 h with h|h
 ·exact .inl (List.mem_of_mem_take h)
 ·rcases List.mem_cons.1 h with h|h
  ·exact .inr h
  ·exact .inl (List.mem_of_mem_drop h)
theorem Xx{b:Bk}{nm:ByteArray}{nd:List ByteArray}(hz:Bh b)(ht:CM b)(hn:∀s∈nd,s.size<=maxLen):Bh (S8 b nm nd)/\CM (S8 b nm nd):=by
 cases hok:I1 b
 ·rw[(Pe hok).2];exact⟨Ek,Ge⟩
 ·cases h2:(U9 nm&&pB (J9 nd b.tg))
  ·rw[(IM hok h2).2];exact⟨hz,ht⟩
  ·cases h3:D2 (I9 b.bs) nm
   ·by_cases h4:5<=b.bs.length
    ·rw[(KW hok h2 h3 h4).2];exact⟨hz,ht⟩
    ·rw[(MU hok h2 h3 h4).2];have hp:J9 nd b.tg:=O7.1 (by rw[Bool.and_eq_true] at h2;exact h2.2);have hl:=Z5 hp;obtain⟨s1,s2,s3⟩:=Br (Bj hok);refine⟨⟨hz.1,λy hy=>?_⟩,by show b.tg.length<=40;omega,by simp;omega,λy hy=>?_⟩
     ·rcases RM hy with h|rfl
      ·exact hz.2 y h
      ·exact⟨λs hs=>by simp at hs,hn⟩
     ·rcases RM hy with h|rfl
      ·exact ht.2.2 y h
      ·exact⟨by simp,by show nd.length<=40;omega⟩
   ·rw[(JY hok h2 h3).2];exact⟨hz,ht⟩
theorem Xy{b:Bk}{nm:ByteArray}(hz:Bh b)(ht:CM b):Bh (Bq b nm)/\CM (Bq b nm):=by
 cases hok:I1 b
 ·rw[(Pc hok).2];exact⟨Ek,Ge⟩
 ·cases h3:D2 (I9 b.bs) nm
  ·rw[(KU hok h3).2];exact⟨hz,ht⟩
  ·rw[(MT hok h3).2]
   have hm:∀y∈b.bs.take (I3 b nm)++b.bs.drop (I3 b nm+1),y∈b.bs:=λy hy=>by
    rcases C6.1 hy with h|h
    ·exact List.mem_of_mem_take h
    ·exact List.mem_of_mem_drop h
   have h2:=ht.2.1;exact⟨⟨hz.1,λy hy=>hz.2 y (hm y hy)⟩,ht.1,by simp;omega,λy hy=>ht.2.2 y (hm y hy)⟩
theorem Vp{b:Bk}{p:Nat}{f:Ba->Ba}(hz:Bh b)(ht:CM b)(hf:∀x∈b.bs,((∀s∈(f x).has,s.size<=maxLen)/\∀s∈(f x).nd,s.size<=maxLen)/\(f x).has.length<=40/\(f x).nd.length<=40):Bh (X8 b p f)/\CM (X8 b p f):=by
 cases hx:b.bs[p]? with
 | none=>simp only[X8,hx];exact⟨hz,ht⟩
 | some x =>
  rw[Ck hx];have hm:=A6 hx;refine⟨⟨hz.1,λy hy=>?_⟩,ht.1,by rw[List.length_set];exact ht.2.1,λy hy=>?_⟩
  ·rcases List.mem_or_eq_of_mem_set hy with h|rfl
   ·exact hz.2 y h
   ·exact (hf x hm).1
  ·rcases List.mem_or_eq_of_mem_set hy with h|rfl
   ·exact ht.2.2 y h
   ·exact (hf x hm).2
theorem Kb{b:Bk}{nm:ByteArray}(h:I1 b=true):(O6 b nm).length<=8:=by
 obtain⟨s1,s2,s3⟩:=Br (Bj h);cases hx:b.bs[I3 b nm]? with
 | none=>simp[O6,hx]
 | some x=>rw[BO hx];exact (s3 x (A6 hx)).2
theorem ZI{b:Bk}{nm:ByteArray}{nd:List ByteArray}(hz:Bh b)(ht:CM b)(hn:∀s∈nd,s.size<=maxLen):Bh (AX b nm nd)/\CM (AX b nm nd):=by
 cases hok:I1 b
 ·rw[(RC hok).2];exact⟨Ek,Ge⟩
 ·cases h3:D2 (I9 b.bs) nm
  ·rw[(Nd hok h3).2];exact⟨hz,ht⟩
  ·cases h2:pB (J9 nd (O6 b nm))
   ·rw[(Pr hok h3 h2).2];exact⟨hz,ht⟩
   ·rw[(Ps hok h3 h2).2];exact Vp hz ht λx hx=>⟨⟨λs hs=>(hz.2 x hx).1 s (List.mem_filter.1 hs).1,hn⟩,B3 (List.length_filter_le _ _) (ht.2.2 x hx).1,by have:=Z5 (O7.1 h2);have:=Kb (nm:=nm) hok;show nd.length<=40;omega⟩
theorem AaT{b b':Bk}{nm:ByteArray}{tg:List ByteArray}{cd:Int}(h:Cr b nm tg cd b')(hz:Bh b)(ht:CM b)(hn:∀s∈tg,s.size<=maxLen):Bh b'/\CM b':=by
 have hlast:I1 b=true->pB (J9 tg (O6 b nm))=true->Bh (X8 b (I3 b nm) (N6 tg))/\CM (X8 b (I3 b nm) (N6 tg)):=λhok hp=>by
  obtain⟨s1,s2,s3⟩:=Br (Bj hok);have hl1:=Z5 (O7.1 hp);have hl2:=Kb (nm:=nm) hok
  exact Vp hz ht λx hx=>⟨⟨λs hs=>by
   rcases DY _ _ s hs with h|h
   ·exact (hz.2 x hx).1 s h
   ·exact hn s h,(hz.2 x hx).2⟩,B3 (Hf x.has tg) (by have:=s3 x hx;omega),(ht.2.2 x hx).2⟩
 rcases h with⟨_,_,rfl⟩|⟨_,_,_,rfl⟩|⟨_,_,_,_,rfl⟩|⟨_,_,_,_,_,rfl⟩|⟨_,_,_,_,_,_,_,rfl⟩|⟨hok,_,hp,_,_,_,rfl⟩
 ·exact⟨Ek,Ge⟩
 ·exact⟨hz,ht⟩
 ·exact⟨hz,ht⟩
 ·exact⟨hz,ht⟩
 ·exact⟨hz,ht⟩
 ·exact hlast hok hp
def EK(ps:List Bv):Prop:=∀p∈ps,p.1.nm.size<=maxLen/\p.1.has.length<=40/\p.1.nd.length<=40/\(∀s∈p.1.has,s.size<=maxLen)/\∀s∈p.1.nd,s.size<=maxLen
theorem EK.snoc{ps:List Bv}(h:EK ps){p:Bv}(h1:p.1.nm.size<=maxLen)(h2:p.1.has.length<=40)(h3:p.1.nd.length<=40)(h4:∀s∈p.1.has,s.size<=maxLen)(h5:∀s∈p.1.nd,s.size<=maxLen):EK (ps++[p]):=λx hx=>by
 rcases C6.1 hx with hx|hx
 ·exact h x hx
 ·obtain rfl:x=p:=by simpa using hx
  exact⟨h1,h2,h3,h4,h5⟩
end Go.Proofs.YtmfjakieahkacaaGreatDoor
