/- The program's checks of what batches need and have (chapter 22). -/
import Derived.Test.YtaffjphkobhagaaGreatDoorJ37
import Derived.Test.YtaffjphkobhagaaGreatDoorJ35
set_option maxRecDepth 20000
set_option maxHeartbeats 4000000
namespace Go.Proofs.YtaffjphkobhagaaGreatDoor
open Proofs.Tryz
open Go.RowKit
variable{s:BA}{l:List BA}{k:Nat}
theorem Aau(ha:Y4 l)(hk:k<l.length)(e:l[k]=s):Ov l s=k:=by
 subst e;refine VX (Nat.le_of_lt hk) (λj x hj hx=>?_) (λj x hj hx=>?_)
 .exact DF ha (k-j-1) j x _ hx (by rw[show j+1+(k-j-1)=k by omega];exact A0 hk)
 .rcases Nat.eq_or_lt_of_le hj with e|e
  .subst e;rw[A0 hk] at hx;obtain rfl:=A5 hx;exact Cu _
  .have h1:=DF ha (j-k-1) k _ x (A0 hk) (by rw[show k+1+(j-k-1)=j by omega];exact hx);cases hq:U1 x l[k]
   .rfl
   .have:=GC h1 hq;rw[Cu] at this;cases this
theorem Ae2:(prog.info? 80).map (·.size)=some 3:=sI
theorem XO(nm:BA)(a1 a2:Option Addr)(n1 c1 n2 c2:Nat)(w:World):(Instr.field 80 (.agg #[Tz nm,Vz a1 n1 c1,Vz a2 n2 c2]) 2).run prog w=.ok (Vz a2 n2 c2) w:=sI
theorem XP(nm:BA)(a1 a2:Option Addr)(n1 c1 n2 c2:Nat)(w:World):(Instr.field 80 (.agg #[Tz nm,Vz a1 n1 c1,Vz a2 n2 c2]) 1).run prog w=.ok (Vz a1 n1 c1) w:=sI
theorem Ig(h:House)(x0:Rb)(a1 a2 a3 a4:Option Addr)(c1 c2 c3 c4 p q c g r d:Nat)(w:World)(H:Z5 w (.agg #[Vz a1 h.sh.tg.length c1,Vz a2 h.sh.bs.length c2]) h.sh)(hok:J3 h.sh)(hm:x0.nm∈G9 h.sh.bs):
  Calls prog 56 #[.agg (Hcz h a1 c1 a2 c2 a3 c3 a4 c4).toArray,.agg (Rzz x0 p q c g r d).toArray] w λe w'=>(∃b1 k1 b2 k2,e=.returned (.agg #[Tz (J6 h.sh x0.nm).nm,Vz b1 (J6 h.sh x0.nm).has.length k1,Vz b2 (J6 h.sh x0.nm).nj.length k2])/\Ls w' (Vz b1 (J6 h.sh x0.nm).has.length k1) (J6 h.sh x0.nm).has/\Ls w' (Vz b2 (J6 h.sh x0.nm).nj.length k2) (J6 h.sh x0.nm).nj)/\Up w w':=by
 obtain⟨k,hk,a9⟩:=Ni hm;have ha:=hok.2.2.2.1;have b7:=Li ha hk a9;have a7:Ov (G9 h.sh.bs) x0.nm=k:=Aau ha (by rw[K0];exact hk) (by rw[Cs _ _ hk];exact a9);have a0:=λW (hB:Up w W)=>Aco h.sh _ x0.nm W (H.up hB) hok;rw[a7] at a0;rw[b7];have c8:h.sh.bs.length<=5:=hok.2.1;obtain⟨b9,c5,b3,-,a',c',b4,-,a6⟩:=H;simp only[Value.agg.injEq,Array.mk.injEq,List.cons.injEq] at b3;obtain⟨-,rfl,-⟩:=b3;simp only[Value.slice.injEq] at b4;obtain⟨rfl,-,rfl⟩:=b4;obtain⟨bb,oo,rfl,hS,b0⟩:=a6 oM;have Hf:Hid (∀W,Up w W->Calls prog 108 #[.agg #[Vz a1 h.sh.tg.length c1,Sx bb oo h.sh.bs.length c2],Tz x0.nm] W λe w'=>e=.returned (.tuple #[Iz (k:Int),.bool (E1 (G9 h.sh.bs) x0.nm)])/\Up W w'):=a0;clear a0 a7 b7 a9 hm ha hok a6;go_in;go_upto_region 1 with fail;obtain⟨W1,b5,kP,kR,kO,b6,c7⟩:=cbE3 w [Iz h.now,Iz h.last,Vz a1 h.sh.tg.length c1,Sx bb oo h.sh.bs.length c2,Vz a3 h.bs.length c3,Vz a4 h.ds.length c4] 38 (Rzz x0 p q c g r d) 52 [Ez,Nz,Nz] 80;rw[b5];clear b5;obtain⟨d0,d1,d2,d3,d4,d5⟩:=kP.c6;obtain⟨e0,-⟩:=kR.c6;go_wp2_with fail;refine (Hf.out _ b6).mono ?_;rintro e w2 ⟨rfl,a8⟩;have c9:=a8.size;have a5:=D3 b6 a8;clear d0 d1 d2 d3 d4 d5 e0;obtain⟨d0,d1,d2,d3,d4,d5⟩:=(kP.up a8 oM).c6;have b8:=kO.up a8 oM;obtain⟨⟨o0,o1,o2⟩,f0,f1,f2⟩:=b8.c3;obtain⟨ah,dh,an,dn,s0,s1,s2,l1,l2,-⟩:=(hS.at hk).cells;have t0:=(a5.cell (p:=⟨bb,oo+k*3,none⟩) b0).trans s0;have t1:=(a5.cell (p:=⟨bb,oo+k*3+1,none⟩) b0).trans s1;have t2:=(a5.cell (p:=⟨bb,oo+k*3+2,none⟩) b0).trans s2;clear s0 s1 s2;go_wp2_with fail;refine Vr results56 underlying80 rfl Ae2 b8 rfl ?_;have hg:=Mr a5 (b:=w.heap.size+2) oM (Tz (h.sh.bs[k]).nm) (Vz ah (h.sh.bs[k]).has.length dh) (Vz an (h.sh.bs[k]).nj.length dn);exact⟨⟨ah,dh,an,dn,rfl,l1.up hg,l2.up hg⟩,hg⟩
theorem JE(nm ad:BA)(a1 a2:Option Addr)(n1 n2 c1 c2:Nat)(st:Int)(w:World):
  cU prog 88 #[.agg #[Tz nm,Vz a1 n1 c1,Vz a2 n2 c2,Tz ad,Iz (-1),Iz st]] w (.tuple #[Iz 0,.bool false]):=by
 have ta:∀w,(Instr.typeAssert (.iface 228 (.agg #[])) 185 193 true).run prog w=.ok (.tuple #[.agg #[Iz 0],.bool false]) w:=λ_=>by kernel_rfl
 have a3:=(A4 w.heap.size w).alloc (A3 _) (Kz [Tz nm,Vz a1 n1 c1,Vz a2 n2 c2,Tz ad,Iz (-1),Iz st] 52);delta cU;go_in;go_wp2_with fail;refine (Nf _ _ _ _ _ _ _ _ _ _).mono ?_;rintro e w1 ⟨rfl,a4⟩;have a0:=D3 a3 a4;go_wp2_with fail;go_returns
 exact⟨rfl,a0.alloc a0.size _⟩
theorem Ml(nm ad:BA)(a1 a2:Option Addr)(n1 n2 c1 c2:Nat)(si st:Int)(w:World)(h:¬si=-1):
  cU prog 88 #[.agg #[Tz nm,Vz a1 n1 c1,Vz a2 n2 c2,Tz ad,Iz si,Iz st]] w (.tuple #[Iz si,.bool true]):=by
 have ta:∀w,(Instr.typeAssert (.iface 193 (.agg #[Iz si])) 185 193 true).run prog w=.ok (.tuple #[.agg #[Iz si],.bool true]) w:=λ_=>by kernel_rfl
 have a3:=(A4 w.heap.size w).alloc (A3 _) (Kz [Tz nm,Vz a1 n1 c1,Vz a2 n2 c2,Tz ad,Iz si,Iz st] 52);have H:Hid (¬si=-1):=h;clear h;delta cU;go_in;go_wp2_with fail;refine (Mb _ _ _ _ _ _ _ _ _ _ _ H.out).mono ?_;rintro e w1 ⟨rfl,a4⟩;have a0:=D3 a3 a4;go_wp2_with fail;go_returns
 exact⟨rfl,a0.alloc a0.size _⟩
theorem XQ(h:House)(tv bv xv dv:Value)(w:World)(hE:F6 w)(H:HV w h tv bv xv dv)(hok:J3 h.sh)(hN:Be h):
  cU prog 48 #[.agg #[Iz h.now,Iz h.last,tv,bv,xv,dv]] w (.bool (pB (CX h h.bs.length))):=by
 obtain⟨a1,c1,a2,c2,a3,c3,a4,c4,rfl,rfl,rfl,rfl⟩:=H.shapes;obtain⟨a7,a8⟩:=H.x.inv rfl;unfold maxLen at a7;have HK:=H.book;clear H;have HE:Hid (F6 w):=hE;have HM:Hid (J3 h.sh/\Be h):=⟨hok,hN⟩;clear hE hok hN;have e6:=XO;have a5:=(A4 w.heap.size w).alloc (A3 _) (.cells (Hcz h a1 c1 a2 c2 a3 c3 a4 c4).toArray 38);have hC:CB (w.alloc (.cells (Hcz h a1 c1 a2 c2 a3 c3 a4 c4).toArray 38)) w.heap.size (Hcz h a1 c1 a2 c2 a3 c3 a4 c4):=E9 w _ _;delta cU;go_in;go_upto_region 1 with fail;generalize w.alloc (.cells (Hcz h a1 c1 a2 c2 a3 c3 a4 c4).toArray 38)=W1 at *;have b7:=hC.2.2;obtain⟨d0,d1,d2,d3,d4,d5⟩:=hC.c6;go_wp2_with fail;(try dsimp only[Iz,Sy,Sx,Nz,Vz,Tz,Ez,Pz]);go_loopw [4,8] (λ_ i w'=>∃k:Nat,k<=h.bs.length/\i=.int .i64 k/\CX h k/\Up W1 w') (λ_ i _=>h.bs.length-(intOf i).toNat)
 case atStart=>exact⟨0,oM,rfl,λi b hi=>oM,A4 _ _⟩
 case round =>
  obtain⟨k,hk,rfl,hinv,hB⟩:=hrel;have HI:Hid (CX h k):=hinv;clear hinv d0 d1 d2 d3 d4 d5;by_cases hp:k<h.bs.length
  .obtain⟨b,o,d8,hS,hb⟩:=a8 oM;subst d8;have a9:=D3 a5 hB;obtain⟨p,q,c,g,r,d,⟨e0,e1,e2,e3,e4,e5⟩,hv⟩:=((hS.at hp).up a9 hb).open;have NO:Hid (¬(J6 h.sh (h.bs[k]).nm).nj=K5 h.bs[k] (h.bs[k]).ad->pB (CX h h.bs.length)=false):=λhn=>F3 λt=>hn (t k _ hp (A0 hp));have YES:Hid ((J6 h.sh (h.bs[k]).nm).nj=K5 h.bs[k] (h.bs[k]).ad->CX h (k+1)):=λhy=>Du (P:=λ_ (b:Rb)=>(J6 h.sh b.nm).nj=K5 b b.ad) HI.out hp hy;have Hmem:Hid ((h.bs[k]).nm∈G9 h.sh.bs):=HM.out.2.2.2 _ (List.mem_map.2 ⟨h.bs[k],dC,rfl⟩);generalize h.bs[k]=x0 at *;clear hS;have a6:=hB.alloc hB.size (.cells (Rzz x0 p q c g r d).toArray 52);have hX:CB (wr.alloc (.cells (Rzz x0 p q c g r d).toArray 52)) wr.heap.size (Rzz x0 p q c g r d):=E9 wr _ _;have b0:=hv.up ((A4 wr.heap.size wr).alloc (A3 _) (.cells (Rzz x0 p q c g r d).toArray 52));go_upto_region 4 with fail;generalize wr.alloc (.cells (Rzz x0 p q c g r d).toArray 52)=W2 at *;obtain⟨f0,f1,f2,f3,f4,f5⟩:=hX.c6;obtain⟨d0,d1,d2,d3,d4,d5⟩:=(hC.up a6 b7).c6;have b3:=hX.2.2;have b4:w.heap.size<W2.heap.size:=A1 b7 a6.size;have a0:=D3 a5 a6;have b8:Up W2 W2/\AS W2 w.heap.size 0 (Iz h.now)/\AS W2 w.heap.size 1 (Iz h.last)/\AS W2 w.heap.size 2 (Vz a1 h.sh.tg.length c1)/\AS W2 w.heap.size 3 (Vz a2 h.sh.bs.length c2)/\AS W2 w.heap.size 4 (Sx b o h.bs.length c3)/\AS W2 w.heap.size 5 (Vz a4 h.ds.length c4)/\AS W2 wr.heap.size 0 (Tz x0.nm)/\AS W2 wr.heap.size 1 (Sx p q x0.ps.length c)/\AS W2 wr.heap.size 2 (Sx g r x0.sl.length d)/\AS W2 wr.heap.size 3 (Tz x0.ad)/\AS W2 wr.heap.size 4 (Iz x0.si)/\AS W2 wr.heap.size 5 (Iz x0.st):=⟨A4 _ _,d0,d1,d2,d3,d4,d5,f0,f1,f2,f3,f4,f5⟩;have HSH:Hid (∀W,Up w W->Calls prog 56 #[.agg #[Iz h.now,Iz h.last,Vz a1 h.sh.tg.length c1,Vz a2 h.sh.bs.length c2,Sx b o h.bs.length c3,Vz a4 h.ds.length c4],.agg (Rzz x0 p q c g r d).toArray] W λe w'=>(∃b1 k1 b2 k2,e=.returned (.agg #[Tz (J6 h.sh x0.nm).nm,Vz b1 (J6 h.sh x0.nm).has.length k1,Vz b2 (J6 h.sh x0.nm).nj.length k2])/\Ls w' (Vz b1 (J6 h.sh x0.nm).has.length k1) (J6 h.sh x0.nm).has/\Ls w' (Vz b2 (J6 h.sh x0.nm).nj.length k2) (J6 h.sh x0.nm).nj)/\Up W w'):=λW hW=>Ig h x0 a1 a2 (some ⟨b,o,none⟩) a4 c1 c2 c3 c4 p q c g r d W (HK.up hW) HM.out.1 Hmem.out;clear e0 e1 e2 e3 e4 e5 hv d0 d1 d2 d3 d4 d5 f0 f1 f2 f3 f4 f5;have Hsz:Hid (∀s∈K5 x0 x0.ad,s.size<=maxLen):=IH b0 x0.ad;have Hv:Hid (CU W2 x0 (Sx p q x0.ps.length c) (Sx g r x0.sl.length d)):=b0;clear b0;generalize hy:J6 h.sh x0.nm=y at *;go_wp2_with fail
   go_region_held (λw'=>Up W2 w'/\AS w' w.heap.size 0 (Iz h.now)/\AS w' w.heap.size 1 (Iz h.last)/\AS w' w.heap.size 2 (Vz a1 h.sh.tg.length c1)/\AS w' w.heap.size 3 (Vz a2 h.sh.bs.length c2)/\AS w' w.heap.size 4 (Sx b o h.bs.length c3)/\AS w' w.heap.size 5 (Vz a4 h.ds.length c4)/\AS w' wr.heap.size 0 (Tz x0.nm)/\AS w' wr.heap.size 1 (Sx p q x0.ps.length c)/\AS w' wr.heap.size 2 (Sx g r x0.sl.length d)/\AS w' wr.heap.size 3 (Tz x0.ad)/\AS w' wr.heap.size 4 (Iz x0.si)/\AS w' wr.heap.size 5 (Iz x0.st)) (first|exact Gj b8|exact Gk b4 b3 sO sO)
    (first
     | (go_at_call 56;refine (HSH.out _ a0.drew).mono ?_;rintro e w3 ⟨⟨s1,k1,s2,k2,rfl,-,c9⟩,b6⟩;have b9:=D3 a0.drew b6;have c5:=(Hv.out.up (A4 _ _).drew).up b6)
     | (go_at_call 87;refine (Ut x0 _ _ x0.ad _ (HE.out.up b9) c5).mono ?_;rintro e w4 ⟨⟨u4,rfl,d6⟩,d7⟩;have c7:=c9.up d7)
     | (go_at_call 86;refine (WV _ _ _ _ _ c7 (d6.lst.ls Hsz.out)).mono ?_;rintro e w5 ⟨rfl,d9⟩))
   rename_i hHeld;have c8:=D3 a6 hHeld.1;have b5:=D3 a5 c8;clear hHeld b8 c9 c7 d6 b6 d7 d9 c5 b9;cases hq:pB (y.nj=K5 x0 x0.ad)
   .have HN:Hid (pB (CX h h.bs.length)=false):=NO.out (N8.1 hq);go_wp2_with fail;go_ret;exact⟨D4 HN.out.symm,b5⟩
   .have HY:Hid (CX h (k+1)):=YES.out (G7.1 hq);go_wp2_with fail;go_roundw
    case rel=>exact⟨k+1,oM,mO,HY.out,c8⟩
    case measure=>simp[intOf];omega
  .have HY:Hid (pB (CX h h.bs.length)=true):=M5 (by
    have:=HI.out;rwa [show k=h.bs.length by omega] at this)
   go_wp2_with fail;go_ret;exact⟨D4 HY.out.symm,D3 a5 hB⟩
end Go.Proofs.YtaffjphkobhagaaGreatDoor
