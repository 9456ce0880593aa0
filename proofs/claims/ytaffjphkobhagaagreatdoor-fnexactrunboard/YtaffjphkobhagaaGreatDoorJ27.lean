/- The specification's batches (chapter 21): the things of slots, which is ok. -/
import Derived.Test.YtaffjphkobhagaaGreatDoorU3
import Derived.Test.YtaffjphkobhagaaGreatDoorJ19
import Derived.Test.YtaffjphkobhagaaGreatDoorJ21
set_option maxHeartbeats 2000000
namespace Go.Proofs.YtaffjphkobhagaaGreatDoor
open Proofs.Tryz
open Go.RowKit
variable{ps:List Ph}{l:List Sl}{b g k q:Nat}{v x0 x1 x2 x3 x4 x5 y:Value}{W w w' w0 w1:World}
theorem ZN(x:Rb)(b o c g q d:Nat)(s:BA)(w:World)(hl:Z9 w g q x.sl)(hg:g<w.heap.size)(hn:x.sl.length<=1048576):
  cU prog 167 #[.agg (Rzz x b o c g q d).toArray,Tz s] w (Tz (O9 x.sl s)):=by
 have hC:CB (w.alloc (.cells (Rzz x b o c g q d).toArray 52)) w.heap.size (Rzz x b o c g q d):=E9 w _ _;have a0:=(A4 w.heap.size w).alloc (A3 _) (.cells (Rzz x b o c g q d).toArray 52);delta cU;go_in;go_upto_region 1 with fail;generalize w.alloc (.cells (Rzz x b o c g q d).toArray 52)=W1 at *;obtain⟨-,-,d2,-⟩:=hC.c6;have a2:=hl.up a0 hg;go_wp2_with fail;go_loop [5] (λi=>∃k:Nat,k<=x.sl.length/\i=.int .i64 k/\∀(j:Nat)(y:Sl),j<k->x.sl[j]?=some y->(y.s.toList==s.toList)=false) (λi=>x.sl.length-(intOf i).toNat)
 case atStart=>exact⟨0,oM,rfl,λj y hj=>oM⟩
 case round =>
  obtain⟨k,hk,rfl,a1⟩:=hrel;have Hal:Hid (∀(j:Nat)(y:Sl),j<k->x.sl[j]?=some y->(y.s.toList==s.toList)=false):=a1;clear a1;by_cases hp:k<x.sl.length
  .obtain⟨c0,c1⟩:=a2.cells k hp;cases hq:((x.sl[k]).s.toList==s.toList)
   .have Hq:Hid (∀(j:Nat)(y:Sl),j<k+1->x.sl[j]?=some y->(y.s.toList==s.toList)=false):=λj y hj hy=>by
     rcases Nat.lt_or_ge j k with h'|h'
     .exact Hal.out j y h' hy
     .obtain rfl:j=k:=oM
      obtain⟨_,rfl⟩:=A2.1 hy;exact hq
    go_wp2;go_round
    case rel=>exact⟨k+1,oM,mO,Hq.out⟩
    case measure=>simp[intOf];omega
   .have Hq:Hid (O9 x.sl s=(x.sl[k]).t):=MS hp Hal.out hq;go_wp2;go_ret;exact⟨by rw[Hq.out];rfl,a0⟩
  .have Hq:Hid (O9 x.sl s=⟨#[]⟩):=Ul λj y hy=>Hal.out j y (by have:=(A2.1 hy).1;omega) hy;go_wp2;go_ret;exact⟨by rw[Hq.out];rfl,a0⟩
theorem Aeg(h:Up W w0/\AS w0 q 0 x0/\AS w0 q 1 x1/\AS w0 q 2 x2/\AS w0 q 3 x3/\AS w0 q 4 x4/\AS w0 q 5 x5/\AS w0 g k y):Up W w0.drew/\w0.drew.cell? ⟨q,0,none⟩=some x0/\w0.drew.cell? ⟨q,1,none⟩=some x1/\w0.drew.cell? ⟨q,2,none⟩=some x2/\w0.drew.cell? ⟨q,3,none⟩=some x3/\w0.drew.cell? ⟨q,4,none⟩=some x4/\w0.drew.cell? ⟨q,5,none⟩=some x5/\w0.drew.cell? ⟨g,k,none⟩=some y :=
 ⟨h.1.drew,h.2⟩
theorem AgX(hq:q<W.heap.size)(hr:g<W.heap.size)(h:Up W w0/\AS w0 q 0 x0/\AS w0 q 1 x1/\AS w0 q 2 x2/\AS w0 q 3 x3/\AS w0 q 4 x4/\AS w0 q 5 x5/\AS w0 g k y)(hB:Up w0 w1):Up W w1/\AS w1 q 0 x0/\AS w1 q 1 x1/\AS w1 q 2 x2/\AS w1 q 3 x3/\AS w1 q 4 x4/\AS w1 q 5 x5/\AS w1 g k y:=by
 obtain⟨h1,a0,a1,a2,a3,a4,a5,a6⟩:=h;have hl:q<w0.heap.size:=A1 hq h1.size;have hm:g<w0.heap.size:=A1 hr h1.size;exact⟨D3 h1 hB,(hB.cell (p:=⟨q,0,none⟩) hl).trans a0,(hB.cell (p:=⟨q,1,none⟩) hl).trans a1,(hB.cell (p:=⟨q,2,none⟩) hl).trans a2,(hB.cell (p:=⟨q,3,none⟩) hl).trans a3,(hB.cell (p:=⟨q,4,none⟩) hl).trans a4,(hB.cell (p:=⟨q,5,none⟩) hl).trans a5,(hB.cell (p:=⟨g,k,none⟩) hm).trans a6⟩
theorem AbR(l:List Sl)(ss:List BA)(k:Nat)(hk:k<ss.length):Bq l (ss.take (k+1))=V8 (Bq l (ss.take k)) (O9 l ss[k]):=by
 unfold Bq T1;rw[A7 hk,List.map_append,List.foldl_append];rfl
theorem Nk(x:Rb)(b o c g q d:Nat)(ss:List BA)(v:Value)(w:World)(hl:Z9 w g q x.sl)(hg:g<w.heap.size)(hn:x.sl.length<=1048576)(h:R9 w v ss)(hs:ss.length<=900):
  Calls prog 126 #[.agg (Rzz x b o c g q d).toArray,v] w λe w'=>(∃u,e=.returned u/\R9 w' u (Bq x.sl ss))/\Up w w':=by
 obtain⟨gs,cs,rfl,hS,a1,b5,-⟩:=h;have hC:CB (w.alloc (.cells (Rzz x b o c g q d).toArray 52)) w.heap.size (Rzz x b o c g q d):=E9 w _ _;have a2:=(A4 w.heap.size w).alloc (A3 _) (.cells (Rzz x b o c g q d).toArray 52);go_in;go_upto_region 1 with fail;generalize w.alloc (.cells (Rzz x b o c g q d).toArray 52)=W1 at *;have a3:=hC.2.2;have a8:=Lg W1;have a9:=(A4 W1.heap.size W1).alloc (A3 _) (Kz [] 9);go_upto_region 2 with fail;generalize hW2:W1.alloc (Kz [] 9)=W2 at *;clear hW2;go_wp2_with fail;(try dsimp only[Iz,Sy,Sx,Nz,Vz,Tz,Ez,Pz,Rzz]);go_loopw [5,6] (λu i w'=>∃k:Nat,k<=ss.length/\i=.int .i64 k/\R9 w' u (Bq x.sl (ss.take k))/\Up W1 w') (λ_ i _=>ss.length-(intOf i).toNat)
 case atStart=>exact⟨0,oM,rfl,a8,a9⟩
 case round =>
  obtain⟨k,hk,rfl,hT,hB⟩:=hrel;by_cases hp:k<ss.length
  .have a0:=D3 a2 hB;have c0:=(a0.cell (p:=⟨gs,k,none⟩) a1).trans (by have:=hS k ss[k] dC;simpa using this);obtain⟨d0,d1,d2,d3,d4,d5⟩:=(hC.up hB a3).c6;have b0:=AdM x.sl (ss.take k);rw[B8] at b0;have Ht:=AbR x.sl ss k hp;have HT:Hid (Bq x.sl (ss.take (k+1))=V8 (Bq x.sl (ss.take k)) (O9 x.sl ss[k])):=Ht;clear Ht;generalize ss[k]=s0 at *;generalize Bq x.sl (ss.take k)=tt at *;have b1:w.heap.size<wr.heap.size:=A1 a3 hB.size;have b2:gs<wr.heap.size:=A1 a1 a0.size;have a4:(λw'=>Up wr w'/\AS w' w.heap.size 0 (Tz x.nm)/\AS w' w.heap.size 1 (Sx b o x.ps.length c)/\AS w' w.heap.size 2 (Sx g q x.sl.length d)/\AS w' w.heap.size 3 (Tz x.ad)/\AS w' w.heap.size 4 (Iz x.si)/\AS w' w.heap.size 5 (Iz x.st)/\AS w' gs k (Tz s0)) wr:=⟨A4 _ _,d0,d1,d2,d3,d4,d5,c0⟩;have HL:Hid (∀W,Up wr W->Calls prog 167 #[.agg (Rzz x b o c g q d).toArray,Tz s0] W λe w'=>e=.returned (Tz (O9 x.sl s0))/\Up W w'):=λW hW=>ZN x b o c g q d s0 W (hl.up (D3 a0 hW) hg) (A1 hg (D3 a0 hW).size) hn;obtain⟨gu,cu,hu,-⟩:=id hT;subst hu;clear d0 d1 d2 d3 d4 d5 c0;go_wp2_with fail
   go_region_held (λw'=>Up wr w'/\AS w' w.heap.size 0 (Tz x.nm)/\AS w' w.heap.size 1 (Sx b o x.ps.length c)/\AS w' w.heap.size 2 (Sx g q x.sl.length d)/\AS w' w.heap.size 3 (Tz x.ad)/\AS w' w.heap.size 4 (Iz x.si)/\AS w' w.heap.size 5 (Iz x.st)/\AS w' gs k (Tz s0)) (first|exact Aeg a4|exact AgX b1 b2 sO sO)
    (first
     | (go_at_call 167;refine (HL.out _ (And.left sO)).mono ?_;rintro e w3 ⟨rfl,a6⟩;have a5:=(hT.up (A4 _ _).drew).up a6)
     | (go_at_call 166;refine (Js tt _ _ _ a5 oM).mono ?_;rintro e w4 ⟨⟨u4,rfl,a7⟩,b4⟩))
   rename_i hHeld;have b3:=D3 hB hHeld.1;rw[← HT.out] at a7;clear hHeld a4 hT a5 a6 b4 HL;go_wp2_with fail;go_roundw
   case rel=>exact⟨k+1,oM,mO,a7,b3⟩
   case measure=>simp[intOf];omega
  .have HK:Hid (∀u,R9 wr u (Bq x.sl (ss.take k))->R9 wr u (Bq x.sl ss)):=λu h=>by rwa [D0 oM] at h
   go_wp2_with fail;go_ret;exact⟨⟨_,rfl,HK.out _ hT⟩,D3 a2 hB⟩
def Fp(w:World)(v:Value)(l:List Sl):Prop:=(∃a c,v=.slice a 0 c/\l=[])\/∃b o c,v=.slice (some ⟨b,o,none⟩) l.length c/\Z9 w b o l/\b<w.heap.size/\l.length<=maxLen
theorem Fp.up(h:Fp w v l)(hb:Up w w'):Fp w' v l:=by
 rcases h with h|⟨b,o,c,rfl,hr,hlt,hl⟩
 .exact .inl h
 .exact .inr ⟨b,o,c,rfl,hr.up hb hlt,A1 hlt hb.size,hl⟩
theorem Fp.shape(h:Fp w v l):∃a c,v=Vz a l.length c:=by
 rcases h with⟨a,c,rfl,rfl⟩|⟨b,o,c,rfl,_⟩
 .exact⟨a,c,rfl⟩
 .exact⟨_,_,rfl⟩
theorem Nl.shape(h:Nl w v ps):∃a c,v=Vz a ps.length c:=by
 rcases h with⟨a,c,rfl,rfl⟩|⟨b,o,c,rfl,_⟩
 .exact⟨a,c,rfl⟩
 .exact⟨_,_,rfl⟩
def SlZ(l:List Sl):Prop:=∀y∈l,y.s.size<=maxLen/\y.t.size<=maxLen
def Eu(w:World)(b:Nat)(l:List Sl):Prop:=Z9 w b 0 l/\P7 w b 0 (l.length*2)/\b<w.heap.size
theorem Eu.up(h:Eu w b l)(hb:Up w w'):Eu w' b l :=
 ⟨h.1.up hb h.2.2,P8 h.2.1 hb h.2.2,A1 h.2.2 hb.size⟩
theorem XU(x:Sl)(l:Int)(w:World)(hl:0<=l)(hl':l<=1048576)(hs:x.s.size<=maxLen)(ht:x.t.size<=maxLen):
  Calls prog 120 #[.agg #[Tz x.s,Tz x.t],Iz l] w λe' w'=>(∃y:Int,e'=.returned (Iz y)/\y<=l/\-1<=y)/\Up w w':=by
 unfold maxLen at *;go_in;go_wp2
 all_goals
  go_ret;exact⟨⟨_,rfl,oM,oM⟩,(A4 _ _).alloc (A3 _) _⟩
theorem Uz(a:Option Addr)(c:Nat)(l:Int)(w:World)(hl:0<=l)(hl':l<=1048576):
  Calls prog 67 #[Vz a 0 c,Iz l] w λe' w'=>e'=.returned (Iz l)/\w'=w:=by
 go_in;go_wp2;go_rounds 1
 go_ret;exact⟨rfl,rfl⟩
theorem UA(ls:List Sl)(b o c:Nat)(l:Int)(w:World)(hl:0<=l)(hl':l<=1048576)(hr:Z9 w b o ls)(hb:b<w.heap.size)(hs:SlZ ls)(hn:ls.length<=maxLen):
  Calls prog 67 #[Sx b o ls.length c,Iz l] w
   λe' w'=>(∃x:Int,e'=.returned (Iz x)/\(0<=x->(ls.length:Int)<=l)/\x<=1048576)/\Up w w':=by
 unfold maxLen at hn;by_cases h0:l-ls.length<0
 .go_in;go_wp2;go_ret;exact⟨⟨_,rfl,oM,oM⟩,A4 _ _⟩
 have H0:Hid ((ls.length:Int)<=l):=by show _<=_;omega
 go_in;go_wp2;(try dsimp only[Iz,Sy,Sx,Nz,Vz,Tz,Ez,Pz]);go_loopw [1,5] (λx i w'=>∃(k:Nat)(y:Int),k<=ls.length/\i=.int .i64 k/\x=.int .i64 y/\0<=y/\y<=1048576/\Up w w') (λ_ i _=>ls.length-(intOf i).toNat)
 case atStart=>exact⟨0,_,oM,rfl,rfl,oM,oM,A4 _ _⟩
 case round =>
  obtain⟨k,y,hk,rfl,rfl,hy,a0,hB⟩:=hrel;by_cases hp:k<ls.length
  .obtain⟨c0,c1⟩:=hr.cells k hp;obtain⟨z0,z1⟩:=hs ls[k] dC;obtain⟨hc,hf⟩:=E2 hB;generalize ls[k]=s0 at *;go_wp2_with fail;refine (XU s0 _ _ hy a0 z0 z1).mono ?_;rintro e' w1 ⟨⟨x,rfl,a3,-⟩,a2⟩;have a1:=D3 hB a2;by_cases hx:x<0
   .go_wp2_with fail;go_ret;exact⟨⟨_,rfl,oM,oM⟩,a1⟩
   .go_wp2_with fail;go_roundw
    case rel=>exact⟨k+1,x,oM,mO,rfl,oM,oM,a1⟩
    case measure=>simp[intOf];omega
  .go_wp2_with fail;go_ret;exact⟨⟨_,rfl,λ_=>H0.out,a0⟩,hB⟩
theorem UB(ls:List Sl)(v:Value)(l:Int)(w:World)(hl:0<=l)(hl':l<=1048576)(h:Fp w v ls)(hs:SlZ ls):
  Calls prog 67 #[v,Iz l] w λe' w'=>(∃x:Int,e'=.returned (Iz x)/\(0<=x->(ls.length:Int)<=l)/\x<=1048576)/\Up w w':=by
 rcases h with⟨a,c,rfl,rfl⟩|⟨b,o,c,rfl,hr,hb,hn⟩
 .refine (Uz a c _ w hl hl').mono λe w' ⟨he,hw⟩=>?_;subst hw;exact⟨⟨_,he,λ_=>by simpa using hl,hl'⟩,A4 _ _⟩
 .exact UA ls b o c l w hl hl' hr hb hs hn
theorem Acy(ps:List Ph)(v:Value)(l:Int)(w:World)(hl:0<=l)(hl':l<=1048576)(h:Nl w v ps)(hs:Dz ps):
  Calls prog 66 #[v,Iz l] w λe' w'=>(∃x:Int,e'=.returned (Iz x)/\(0<=x->(ps.length:Int)<=l)/\x<=1048576)/\Up w w':=by
 rcases h with⟨a,c,rfl,rfl⟩|⟨b,o,c,rfl,hr,hb,hn⟩
 .refine (Aeo a c _ w hl hl').mono λe w' ⟨he,hw⟩=>?_;subst hw;exact⟨⟨_,he,λ_=>by simpa using hl,hl'⟩,A4 _ _⟩
 .exact Aep ps b o c l w hl hl' hr hb hs hn
theorem Acz:(prog.info? 173).map (λi=>(i.zero,i.size,i.bytes))=some (some (.agg #[Ez,Ez]),2,32):=sI
theorem Ac0:(prog.info? 173).map (·.size)=some 2:=sI
theorem JV(n:Nat)(hn:n<=1048576):∃C:Array Value,C.size=n*2/\∀w,(Instr.makeSlice 50 (Iz (n:Int)) (Iz (n:Int))).run prog w=.ok (Sy w.heap.size n n) (w.alloc (.cells C 173)):=by
 obtain⟨i,hi,hz⟩:=B6.1 Acz;simp only[Prod.mk.injEq] at hz;obtain⟨hz,hs,hb⟩:=hz;refine⟨madeCells (Value.agg #[Ez,Ez]).cells (n*2),size_madeCells _ _,λw=>?_⟩;have:=run_make (P:=prog) w 50 173 i _ underlying50 hi hz .i64 .i64 (n:Int) (n:Int) oM oM (by rw[hb];omega) oM;simp only[Int.toNat_natCast,hs] at this;exact this
theorem XV(hk:k<l.length)(h:Z9 w1 b 0 (l.take k))(ht:P7 w1 b 0 (l.length*2)):Z9 (w1.setCells b (k*2) (l[k]).cells) b 0 (l.take (k+1)):=by
 intro i p hp;by_cases hi:i<k
 .refine World.rangeAt_setCells_apart (h i p ?_) b (k*2) _ (.inr (.inl ?_))
  .rw[List.getElem?_take] at hp ⊢;rw[if_pos oM] at hp;rw[if_pos hi];exact hp
  .simp[Sl.cells];omega
 .have a0:i=k:=by
   rw[List.getElem?_take] at hp;split at hp
   .omega
   .cases hp
  subst a0;rw[List.getElem?_take,if_pos oM,A0 hk] at hp;obtain rfl:=A5 hp;rw[Nat.zero_add];refine World.rangeAt_setCells_same _ _ _ _ (λj hj=>?_);have:=ht.1 (i*2+j) (by simp[Sl.cells] at hj;omega);simpa using this
theorem XW(x:Sl)(w:World):Calls prog 130 #[.agg #[Tz x.s,Tz x.t]] w λe' w'=>e'=.returned (.agg #[Tz x.s,Tz x.t])/\Up w w':=by
 go_in;go_wp2;go_returns
 exact⟨rfl,by go_grown⟩
theorem UC(a:Option Addr)(c:Nat)(w:World):
  Calls prog 79 #[Vz a 0 c] w λe w'=>e=.returned (Sy w.heap.size 0 0)/\Eu w' w.heap.size []/\Up w w':=by
 obtain⟨C,hC,a0⟩:=JV 0 oM;have HC:Hid (C.size=0*2):=hC;clear hC;simp only[Int.natCast_zero] at a0;go_in;go_wp2;go_rounds 1
 go_ret;exact⟨rfl,⟨λi p hp=>by simp at hp,by have:=Bt w C 173;rw[HC.out] at this;exact this,dC⟩,by go_grown⟩
theorem UD(l:List Sl)(b o c:Nat)(w:World)(hr:Z9 w b o l)(hb:b<w.heap.size)(hn:l.length<=1048576):
  Calls prog 79 #[Sx b o l.length c] w λe w'=>e=.returned (Sy w.heap.size l.length l.length)/\Eu w' w.heap.size l/\Up w w':=by
 obtain⟨C,hC,a4⟩:=JV l.length hn;have HC:Hid (C.size=l.length*2):=hC;clear hC;go_in;go_wp2;(try dsimp only[Iz,Sy,Sx,Nz,Vz,Tz,Ez,Pz]);go_loopw [4] (λi w'=>∃k:Nat,k<=l.length/\i=.int .i64 k/\Z9 w' w.heap.size 0 (l.take k)/\P7 w' w.heap.size 0 (l.length*2)/\w.heap.size<w'.heap.size/\Up w w') (λi _=>l.length-(intOf i).toNat)
 case atStart=>exact⟨0,oM,rfl,λi p hp=>by simp at hp,by rw[← HC.out];exact Bt _ _ _,dC,by go_grown⟩
 case round =>
  obtain⟨k,hk,rfl,a2,a3,a1,hB⟩:=hrel;have Hra:Hid (Z9 wr w.heap.size 0 (l.take k)):=a2;have Hth:Hid (P7 wr w.heap.size 0 (l.length*2)):=a3;clear a2 a3;by_cases hp:k<l.length
  .obtain⟨c0,c1⟩:=hr.cells k hp;obtain⟨hc,hf⟩:=E2 hB;have Hst:Hid (∀w1,Up wr w1->Z9 (w1.setCells w.heap.size (k*2) (l[k]).cells) w.heap.size 0 (l.take (k+1))):=λw1 a0=>XV hp (Hra.out.up a0 a1) (P8 Hth.out a0 a1);generalize l[k]=s0 at *;go_wp2_with fail;refine (XW s0 _).mono ?_;rintro e' w1 ⟨rfl,a0⟩;clear hc hf c0 c1
   go_wp2_with (refine wpList_store_mid rfl 173 _ _ rfl w.heap.size (k*2) _ rfl rfl (λj hj=>by
     have:=(P8 Hth.out a0 a1).1 (k*2+j) (by simp at hj;omega);simpa using this) Ac0 (by simp[Value.oneCell']) ?_)
   go_roundw
   case rel=>exact⟨k+1,oM,mO,Hst.out w1 a0,Bc (P8 Hth.out a0 a1) _ _ _,A1 (A1 a1 a0.size) (BK _ _ _ _),X7 _ _ _ _ _ _ (D3 hB a0) (A3 _)⟩
   case measure=>simp[intOf];omega
  .go_wp2_with fail;go_ret;exact⟨rfl,⟨by have:=Hra.out;rwa [D0 oM] at this,Hth.out,a1⟩,hB⟩
theorem UE(l:List Sl)(v:Value)(w:World)(h:Fp w v l)(hn:l.length<=1048576):
  Calls prog 79 #[v] w λe w'=>(∃b,e=.returned (Sy b l.length l.length)/\Eu w' b l/\w.heap.size<=b)/\Up w w':=by
 rcases h with⟨a,c,rfl,rfl⟩|⟨b,o,c,rfl,hr,hb,hl⟩
 .exact (UC a c w).mono λe w' ⟨he,ho,hB⟩=>⟨⟨_,he,ho,A3 _⟩,hB⟩
 .exact (UD l b o c w hr hb hn).mono λe w' ⟨he,ho,hB⟩=>⟨⟨_,he,ho,A3 _⟩,hB⟩
theorem XX(x:Sl)(w:World):cU prog 157 #[.agg #[Tz x.s,Tz x.t],.agg #[Tz x.s,Tz x.t]] w (.bool true):=by
 delta cU;go_in;go_wp2;go_ret;exact⟨rfl,by go_grown⟩
theorem UF(l:List Sl)(b b2 cA cB:Nat)(w:World)(hr:Z9 w b 0 l)(hb:b<w.heap.size)(hr2:Z9 w b2 0 l)(hb2:b2<w.heap.size)(hn:l.length<=1048576):
  cU prog 118 #[Sy b l.length cA,Sy b2 l.length cB] w (.bool true):=by
 delta cU;go_in;go_wp2;(try dsimp only[Iz,Sy,Sx,Nz,Vz,Tz,Ez,Pz]);go_loopw [5] (λi w'=>∃k:Nat,k<=l.length/\i=.int .i64 k/\Up w w') (λi _=>l.length-(intOf i).toNat)
 case atStart=>exact⟨0,oM,rfl,A4 _ _⟩
 case round =>
  obtain⟨k,hk,rfl,hB⟩:=hrel;by_cases hp:k<l.length
  .obtain⟨c0,c1⟩:=hr.cells k hp;obtain⟨d0,d1⟩:=hr2.cells k hp;simp only[Nat.zero_add] at c0 c1 d0 d1;obtain⟨hc,hf⟩:=E2 hB;generalize l[k]=s0 at *;go_wp2_with fail;go_region_with (go_at_call 157;refine (XX s0 _).mono ?_;rintro e w1 ⟨rfl,a1⟩)
   all_goals
    have a0:=D3 hB.drew a1;clear hc hf c0 c1 d0 d1;go_wp2_with fail;go_roundw
    case rel=>exact⟨k+1,oM,mO,a0⟩
    case measure=>simp[intOf];omega
  .go_wp2_with fail;go_ret;exact⟨rfl,hB⟩
end Go.Proofs.YtaffjphkobhagaaGreatDoor
