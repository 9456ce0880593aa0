/- The program's RunLeft (chapter 22). -/
import Derived.Test.YtaffjphkobhagaaGreatDoorV7
import Derived.Test.YtaffjphkobhagaaGreatDoorJ39
set_option maxRecDepth 20000
set_option maxHeartbeats 4000000
namespace Go.Proofs.YtaffjphkobhagaaGreatDoor
open Proofs.Tryz
open Go.RowKit
variable{h:House}{l:List Done}{ps:List Ph}{bs:List Rb}{b:Nat}{w w' w1:World}
def BJ(b:Rb):Int:=X4 b.ps b.ad-(if b.si=-1 then 0 else b.si)
def I0(bs:List Rb):Int:=bs.foldl (λs b=>s+BJ b) 0
theorem Fo(bs:List Rb)(k:Nat)(hk:k<bs.length):I0 (bs.take (k+1))=I0 (bs.take k)+BJ bs[k]:=by
 unfold I0;rw[A7 hk,List.foldl_append];rfl
theorem KE(h:M3 ps=true)(nm:BA):0<=X4 ps nm/\X4 ps nm<=12000:=by
 have a0:ps.length<=12:=((J2 ps).1 h).2.1;have:=EM ps (DR h) nm;unfold X4;rw[if_pos h];omega
theorem Th{b:Rb}(h:I7 b):-1000<=BJ b/\BJ b<=12000:=by
 obtain⟨-,h2,-,-,h5,h6,h7⟩:=h;have h1:=KE h2 b.ad;have h8:=FZ (Cy h2 (Dd h5));unfold BJ;split<;>omega
theorem Gn(h:∀b∈bs,I7 b):∀k:Nat,-1000*(k:Int)<=I0 (bs.take k)/\I0 (bs.take k)<=12000*(k:Int):=by
 intro k;induction k with
 | zero=>simp[I0]
 | succ k ih =>
  by_cases hk:k<bs.length
  .rw[Fo bs k hk];have:=Th (h bs[k] dC);omega
  .rw[D0 oM] at ih ⊢
   omega
theorem Ux(x0:Rb)(p q c g r d:Nat)(w:World)(hE:F6 w)(hv:CU w x0 (Sx p q x0.ps.length c) (Sx g r x0.sl.length d))(hok:I7 x0):
  cU prog 94 #[.agg (Rzz x0 p q c g r d).toArray] w (Iz (BJ x0)):=by
 have a7:=KE hok.2.1 x0.ad;have a8:=FZ (Cy hok.2.1 (Dd hok.2.2.2.2.1));have h6:=hok.2.2.2.2.2.1;have h7:=hok.2.2.2.2.2.2
 have HR:Hid (∀W,Up w W->Calls prog 147 #[Sx p q x0.ps.length c,Tz x0.ad] W λe w'=>e=.returned (Iz (X4 x0.ps x0.ad))/\Up W w'):=λW hB=>by
  obtain⟨b,o,c',e,hr,hb,a2,a6⟩:=(hv.up hB).r;simp only[Value.slice.injEq,Option.some.injEq,Addr.mk.injEq] at e;obtain⟨⟨rfl,rfl,-⟩,-,rfl⟩:=e;exact SU x0.ps p q c x0.ad W (hE.up hB) hr hb hv.zp a2 a6
 clear hv hE hok;have a4:=(A4 w.heap.size w).alloc (A3 _) (.cells (Rzz x0 p q c g r d).toArray 52);have hC:CB (w.alloc (.cells (Rzz x0 p q c g r d).toArray 52)) w.heap.size (Rzz x0 p q c g r d):=E9 w _ _;delta cU;go_in;go_upto_region 1 with fail;generalize w.alloc (.cells (Rzz x0 p q c g r d).toArray 52)=W1 at *;have a5:=hC.2.2;by_cases hsi:x0.si=-1
 .have HL:Hid (BJ x0=X4 x0.ps x0.ad):=by show _=_;unfold BJ;rw[if_pos hsi];omega
  rw[Rzz,hsi] at hC;obtain⟨d0,d1,d2,d3,d4,d5⟩:=hC.c6;clear hsi h6 h7;generalize X4 x0.ps x0.ad=bv at *;go_wp2_with fail;refine (JE _ _ _ _ _ _ _ _ _ _).mono ?_;rintro e w2 ⟨rfl,a1⟩;clear d0 d1 d2 d3 d4 d5;obtain⟨d0,d1,d2,d3,d4,d5⟩:=(hC.up a1 a5).c6;have a0:=D3 a4 a1;go_wp2_with fail;refine (HR.out _ a0).mono ?_;rintro e w3 ⟨rfl,a3⟩;clear d0 d1 d2 d3 d4 d5;go_wp2_with fail;go_ret;exact⟨K8 (by rw[HL.out]),D3 a0 a3⟩
 .have HL:Hid (BJ x0=X4 x0.ps x0.ad-x0.si):=by show _=_;unfold BJ;rw[if_neg hsi]
  obtain⟨d0,d1,d2,d3,d4,d5⟩:=hC.c6;have Hs:Hid (¬x0.si=-1):=hsi;clear hsi;generalize X4 x0.ps x0.ad=bv at *;go_wp2_with fail;refine (Ml _ _ _ _ _ _ _ _ _ _ _ Hs.out).mono ?_;rintro e w2 ⟨rfl,a1⟩;clear d0 d1 d2 d3 d4 d5;obtain⟨d0,d1,d2,d3,d4,d5⟩:=(hC.up a1 a5).c6;have a0:=D3 a4 a1;go_wp2_with fail;refine (HR.out _ a0).mono ?_;rintro e w3 ⟨rfl,a3⟩;clear d0 d1 d2 d3 d4 d5;go_wp2_with fail;go_ret;exact⟨K8 (by rw[HL.out]),D3 a0 a3⟩
theorem Acw(x0:Rb)(p q c g r d:Nat)(s:Int)(w:World)(hE:F6 w)(hv:CU w x0 (Sx p q x0.ps.length c) (Sx g r x0.sl.length d))(hok:I7 x0)(hs:-1000000<=s)(hs':s<=1000000):
  cU prog 93 #[Iz s,.agg (Rzz x0 p q c g r d).toArray] w (Iz (s+BJ x0)):=by
 have a3:=Th hok;have a1:=(A4 w.heap.size w).alloc (A3 _) (.cells (Rzz x0 p q c g r d).toArray 52);have hC:CB (w.alloc (.cells (Rzz x0 p q c g r d).toArray 52)) w.heap.size (Rzz x0 p q c g r d):=E9 w _ _;have a0:=Ux x0 p q c g r d (w.alloc (.cells (Rzz x0 p q c g r d).toArray 52)) (hE.up a1) (hv.up a1) hok;have Hcall:Hid (Calls prog 94 #[.agg (Rzz x0 p q c g r d).toArray] (w.alloc (.cells (Rzz x0 p q c g r d).toArray 52)) λe w'=>e=.returned (Iz (BJ x0))/\Below (w.alloc (.cells (Rzz x0 p q c g r d).toArray 52)).heap.size (w.alloc (.cells (Rzz x0 p q c g r d).toArray 52)) w'):=a0;clear a0 hok hv hE;delta cU;go_in;go_upto_region 1 with fail;generalize w.alloc (.cells (Rzz x0 p q c g r d).toArray 52)=W1 at *;obtain⟨d0,d1,d2,d3,d4,d5⟩:=hC.c6;go_wp2_with fail;refine Hcall.out.mono ?_;rintro e w2 ⟨rfl,a2⟩;clear d0 d1 d2 d3 d4 d5;go_wp2_with fail;go_ret;exact⟨rfl,D3 a1 a2⟩
theorem Aa0(bs:List Rb)(v:Value)(w:World)(hE:F6 w)(h:Pt w v bs)(hok:∀b∈bs,I7 b)(hn:bs.length<=5):
  cU prog 92 #[v,Iz 0,.func (.func 93) #[] #[]] w (Iz (I0 bs)):=by
 obtain⟨a3,c3,rfl,-,a0⟩:=h;have HE:Hid (F6 w):=hE;have HO:Hid (∀b∈bs,I7 b):=hok;have HBD:Hid (∀k,-1000*((k:Nat):Int)<=I0 (bs.take k)/\I0 (bs.take k)<=12000*(k:Int)):=Gn hok;clear hE hok;delta cU;go_in;go_wp2_with fail;(try dsimp only[Iz,Sy,Sx,Nz,Vz,Tz,Ez,Pz]);go_loopw [1,8,11] (λs _ i w'=>∃k:Nat,k<=bs.length/\i=.int .i64 k/\s=.int .i64 (I0 (bs.take k))/\Up w w') (λ_ _ i _=>bs.length-(intOf i).toNat)
 case atStart=>exact⟨0,oM,rfl,rfl,A4 _ _⟩
 case round =>
  obtain⟨k,hk,rfl,rfl,hB⟩:=hrel;by_cases hp:k<bs.length
  .obtain⟨b,o,a4,hS,hb⟩:=a0 oM;subst a4;obtain⟨p,q,c,g,r,d,⟨e0,e1,e2,e3,e4,e5⟩,hv⟩:=((hS.at hp).up hB hb).open;have HL:Hid (I0 (bs.take (k+1))=I0 (bs.take k)+BJ bs[k]):=Fo bs k hp;have Hok:Hid (I7 bs[k]):=HO.out _ dC;have a7:=HBD.out k;generalize bs[k]=x0 at *;generalize I0 (bs.take k)=s at *;clear hS;have a2:=hB.alloc hB.size (.cells (Rzz x0 p q c g r d).toArray 52);have hX:CB (wr.alloc (.cells (Rzz x0 p q c g r d).toArray 52)) wr.heap.size (Rzz x0 p q c g r d):=E9 wr _ _;have a5:=hv.up ((A4 wr.heap.size wr).alloc (A3 _) (.cells (Rzz x0 p q c g r d).toArray 52));go_upto_region 4 with fail;generalize wr.alloc (.cells (Rzz x0 p q c g r d).toArray 52)=W2 at *;obtain⟨f0,f1,f2,f3,f4,f5⟩:=hX.c6;clear e0 e1 e2 e3 e4 e5;go_wp2_with fail;refine (Acw x0 p q c g r d s _ (HE.out.up a2) a5 Hok.out oM oM).mono ?_;rintro e w3 ⟨rfl,a6⟩;have a1:=D3 a2 a6;clear f0 f1 f2 f3 f4 f5;rw[← HL.out];go_wp2_with fail;go_roundw
   case rel=>exact⟨k+1,oM,mO,rfl,a1⟩
   case measure=>simp[intOf];omega
  .have HK:Hid (I0 (bs.take k)=I0 bs):=by show _=_;rw[D0 oM]
   go_wp2_with fail;go_ret;exact⟨K8 HK.out,hB⟩
noncomputable def GI(h:House):Int:=if pB (F2 h)=true then I0 h.bs else 0
theorem F2.few(t:F2 h):h.bs.length<=5:=by
 rw[t.2.2.2.1.1];exact t.2.2.1.book.2.1
theorem F2.each(t:F2 h):∀b∈h.bs,I7 b:=λb hb=>by
 obtain⟨i,hi,rfl⟩:=B7 hb;exact (t.2.2.2.2.1 i _ hi (A0 hi)).1
theorem AcP:(prog.info? 54).map (λi=>(i.zero,i.size,i.bytes))=some (some (.agg #[Ez,Iz 0,Iz 0]),3,32):=sI
theorem AcQ:(prog.info? 54).map (·.size)=some 3:=sI
theorem Qf(n:Nat)(hn:n<=1048576):∃C:Array Value,C.size=n*3/\∀w,(Instr.makeSlice 36 (Iz (n:Int)) (Iz (n:Int))).run prog w=.ok (Sy w.heap.size n n) (w.alloc (.cells C 54)):=by
 obtain⟨i,hi,hz⟩:=B6.1 AcP;simp only[Prod.mk.injEq] at hz;obtain⟨hz,hs,hb⟩:=hz;refine⟨madeCells (Value.agg #[Ez,Iz 0,Iz 0]).cells (n*3),size_madeCells _ _,λw=>?_⟩;have:=run_make (P:=prog) w 36 54 i _ underlying36 hi hz .i64 .i64 (n:Int) (n:Int) oM oM (by rw[hb];omega) oM;simp only[Int.toNat_natCast,hs] at this;exact this
def NI(w:World)(b:Nat)(l:List Done):Prop:=∀(i:Nat)(x:Done),l[i]?=some x->w.rangeAt b (i*3) x.cellsL
theorem AaL{k:Nat}(hk:k<l.length)(h:NI w1 b (l.take k))(ht:P7 w1 b 0 (l.length*3)):NI (w1.setCells b (k*3) (l[k]).cellsL) b (l.take (k+1)):=by
 intro i p hp;by_cases hi:i<k
 .refine World.rangeAt_setCells_apart (h i p ?_) b (k*3) _ (.inr (.inl ?_))
  .rw[List.getElem?_take] at hp ⊢;rw[if_pos oM] at hp;rw[if_pos hi];exact hp
  .simp[Done.cellsL];omega
 .have a0:i=k:=by
   rw[List.getElem?_take] at hp;split at hp
   .omega
   .cases hp
  subst a0;rw[List.getElem?_take,if_pos oM,A0 hk] at hp;obtain rfl:=A5 hp;refine World.rangeAt_setCells_same _ _ _ _ (λj hj=>?_);have:=ht.1 (i*3+j) (by simp[Done.cellsL] at hj;omega);simpa using this
theorem NI.up{B:Nat}(h:NI w b l)(hb:Below B w w')(hB:b<B):NI w' b l:=λi x hx=>Gi (h i x hx) hb hB
theorem UM(l:List Done)(v:Value)(w:World)(h:EO w v l)(hn:l.length<=1048576):
  Calls prog 18 #[v] w λe w'=>(∃b,e=.returned (Sy b l.length l.length)/\EO w' (Sy b l.length l.length) l/\w.heap.size<=b/\b<w'.heap.size/\P7 w' b 0 (l.length*3))/\Up w w':=by
 have Hz:Hid (∀x∈l,x.nm.size<=maxLen):=λx hx=>by
  obtain⟨i,hi,rfl⟩:=B7 hx;obtain⟨_,_,_,_,a1⟩:=h;obtain⟨b,o,-,hr,-⟩:=a1 oM;exact (hr i _ (A0 hi)).2
 obtain⟨a,c,rfl,a3,a1⟩:=h;have Hmax:Hid (l.length<=maxLen):=a3;clear a3;obtain⟨C,hC,a6⟩:=Qf l.length hn;have HC:Hid (C.size=l.length*3):=hC;clear hC;go_in;go_wp2;(try dsimp only[Iz,Sy,Sx,Nz,Vz,Tz,Ez,Pz]);go_loopw [4] (λi w'=>∃k:Nat,k<=l.length/\i=.int .i64 k/\NI w' w.heap.size (l.take k)/\P7 w' w.heap.size 0 (l.length*3)/\w.heap.size<w'.heap.size/\Up w w') (λi _=>l.length-(intOf i).toNat)
 case atStart=>exact⟨0,oM,rfl,λi p hp=>by simp at hp,by rw[← HC.out];exact Bt _ _ _,dC,by go_grown⟩
 case round =>
  obtain⟨k,hk,rfl,a4,a5,a2,hB⟩:=hrel;have Hra:Hid (NI wr w.heap.size (l.take k)):=a4;have Hth:Hid (P7 wr w.heap.size 0 (l.length*3)):=a5;clear a4 a5;by_cases hp:k<l.length
  .obtain⟨b,o,ha,hr,hb⟩:=a1 oM;subst ha;obtain⟨c0,c1,c2⟩:=hr.cells k hp;obtain⟨hc,hf⟩:=E2 hB;have Hst:Hid (∀w1,Up wr w1->NI (w1.setCells w.heap.size (k*3) (l[k]).cellsL) w.heap.size (l.take (k+1))):=λw1 a0=>AaL hp (Hra.out.up a0 a2) (P8 Hth.out a0 a2);generalize l[k]=s0 at *;go_wp2_with fail;refine (Yh s0 _).mono ?_;rintro e' w1 ⟨rfl,a0⟩;clear hc hf c0 c1 c2
   go_wp2_with (refine wpList_store_mid rfl 54 _ _ rfl w.heap.size (k*3) _ rfl rfl (λj hj=>by
     have:=(P8 Hth.out a0 a2).1 (k*3+j) (by simp at hj;omega);simpa using this) AcQ (by simp[Value.oneCell']) ?_)
   go_roundw
   case rel=>exact⟨k+1,oM,mO,Hst.out w1 a0,Bc (P8 Hth.out a0 a2) _ _ _,A1 (A1 a2 a0.size) (BK _ _ _ _),X7 _ _ _ _ _ _ (D3 hB a0) (A3 _)⟩
   case measure=>simp[intOf];omega
  .have HD:Hid (NI wr w.heap.size l):=by have:=Hra.out;rwa [D0 oM] at this
   go_wp2_with fail;go_ret;exact⟨⟨_,rfl,⟨_,_,rfl,Hmax.out,λ_=>⟨w.heap.size,0,rfl,λi x hx=>⟨by rw[Nat.zero_add];exact HD.out i x hx,Hz.out x (A6 hx)⟩,a2⟩⟩,A3 _,a2,Hth.out⟩,hB⟩
theorem UN(l:List Done)(va vb:Value)(w:World)(ha:EO w va l)(hb:EO w vb l):
  cU prog 26 #[va,vb] w (.bool true):=by
 obtain⟨a1,k1,rfl,a0,a3⟩:=ha;obtain⟨a2,k2,rfl,-,a4⟩:=hb;unfold maxLen at a0;delta cU;go_in;go_wp2;(try dsimp only[Iz,Sy,Sx,Nz,Vz,Tz,Ez,Pz]);go_loopw [5] (λi w'=>∃k:Nat,k<=l.length/\i=.int .i64 k/\Up w w') (λi _=>l.length-(intOf i).toNat)
 case atStart=>exact⟨0,oM,rfl,A4 _ _⟩
 case round =>
  obtain⟨k,hk,rfl,hB⟩:=hrel;by_cases hp:k<l.length
  .obtain⟨b1,o1,e1,a5,a9⟩:=a3 oM;obtain⟨b2,o2,e2,a6,b0⟩:=a4 oM;subst e1 e2;obtain⟨c0,c1,c2⟩:=a5.cells k hp;obtain⟨d0,d1,d2⟩:=a6.cells k hp;obtain⟨hc,hf⟩:=E2 hB;generalize l[k]=s0 at *;go_wp2_with fail;go_region_with (go_at_call 64;refine (Yi s0 _).mono ?_;rintro e w1 ⟨rfl,a8⟩)
   all_goals
    have a7:=D3 hB.drew a8;clear hc hf c0 c1 c2 d0 d1 d2;go_wp2_with fail;go_roundw
    case rel=>exact⟨k+1,oM,mO,a7⟩
    case measure=>simp[intOf];omega
  .go_wp2_with fail;go_ret;exact⟨rfl,hB⟩
end Go.Proofs.YtaffjphkobhagaaGreatDoor
