/- The program's chapter 13: what is asked is done, or refused. -/
import Derived.Test.YtmonodehegcfhaaGreatDoorJ18
import Derived.Test.YtmonodehegcfhaaGreatDoorEa2
import Derived.Test.YtmonodehegcfhaaGreatDoorJ8
import Derived.Laws.BitsAllLaws
import Derived.Test.YtmonodehegcfhaaGreatDoorShelf
import Derived.Test.YtmonodehegcfhaaGreatDoorJ13
import Derived.Laws.AppendOwnNone
import Derived.Test.YtmonodehegcfhaaGreatDoorJ6
set_option maxRecDepth 20000
set_option maxHeartbeats 4000000
namespace Go.Proofs.YtmonodehegcfhaaGreatDoor
open Go.Proofs.Tryz
open Go.RowKit
variable{b:Bk}{nm s:BA}{c x:Int}{l ls ss xs:List BA}{base k sb:Nat}{u v:Value}{w w':World}
theorem S4.up(h:S4 w base v b)(hb:Up w w'):S4 w' base v b:=by
 obtain⟨a1,c1,a2,c2,ps,e,h1,h2,h3⟩:=h;exact⟨a1,c1,a2,c2,ps,e,h1.up hb,h2,h3.up hb⟩
theorem S4.low{base':Nat}(h:S4 w base v b)(hb:base'<=base):S4 w base' v b:=by
 obtain⟨a1,c1,a2,c2,ps,e,h1,h2,h3⟩:=h;exact⟨a1,c1,a2,c2,ps,e,h1.low hb,h2,h3.low hb⟩
theorem S4.set{r j:Nat}(h:S4 w base v b)(hr:r<base):S4 (w.setCell ⟨r,j,none⟩ u) base v b:=by
 obtain⟨a1,c1,a2,c2,ps,e,h1,h2,h3⟩:=h;exact⟨a1,c1,a2,c2,ps,e,h1.set hr,h2,h3.setLow hr j u⟩
theorem S4.shape(h:S4 w base v b):∃a1 c1 a2 c2,v=.agg #[Vz a1 b.tg.length c1,Vz a2 b.bs.length c2]:=by
 obtain⟨a1,c1,a2,c2,ps,e,-⟩:=h;exact⟨a1,c1,a2,c2,e⟩
theorem Wz(w:World)(base:Nat):S4 w base (.agg #[Nz,Nz]) S2:=by
 refine⟨none,0,none,0,[],rfl,⟨B9 _ _ _ _,λp hp=>by simp at hp⟩,rfl,?_⟩;exact (My w base none).mk1 (B9 _ _ _ _)
def EK(nm:BA)(c:Int):Value:=if c=0 then .nilIface else .iface 258 (.agg #[.string nm,.iface 104 (.agg #[.int .i64 c])])
theorem UB(nm:BA):EK nm 0=.nilIface:=rfl
theorem UC(h:c≠0):EK nm c=.iface 258 (.agg #[Tz nm,.iface 104 (.agg #[Iz c])]):=by simp[EK,h]
theorem MF(h:EK nm c=v):Ending.returned (.tuple #[u,v])=.returned (.tuple #[u,EK nm c]):=by rw[h]
noncomputable def AA(b:Bk)(cR:Int):Int:=if K4 b=false then 1 else cR
noncomputable def X7(b:Bk)(cR:Int)(bN:Bk):Bk:=if K4 b=false then S2 else if cR=0 then bN else b
theorem RK(b:Bk)(v:Value)(nm:BA)(D:TypeId)(av:Value)(rF:FuncId)(cR:Int)(bN:Bk)(w:World)(h:Q6 w v b)
  (hwho:∀n w,(Go.method (n+1) D av "loop.example/maltrun/impl.who").run prog w=.ok (242,.agg #[Tz nm]) w)
  (href:∀n w,(Go.method (n+1) D av "loop.example/maltrun/impl.refusal").run prog w=.ok (rF,av) w)
  (hrun:∀(args:Array Value)(w:World),(callFunc rF args).run prog w=.ok (.enter rF args) w)
  (Href:J1 b->∀W,Up w W->Calls prog rF #[av,v] W λe w'=>e=.returned (Z7 cR)/\Up W w')
  (Hdone:J1 b->cR=0->∀W,Up w W->Calls prog 190 #[v,.iface D av] W λe w'=>(∃u,e=.returned u/\S4 w' W.heap.size u bN)/\Up W w') :
  Calls prog 166 #[v,.iface D av] w λe w'=>(∃u,e=.returned (.tuple #[u,EK nm (AA b cR)])/\S4 w' w.heap.size u (X7 b cR bN))/\Up w w':=by
 obtain⟨a1,c1,a2,c2,rfl,-,-⟩:=h.parts;have HR:Hid (J1 b->∀W,Up w W->Calls prog rF #[av,.agg #[Vz a1 b.tg.length c1,Vz a2 b.bs.length c2]] W λe w'=>e=.returned (Z7 cR)/\Up W w'):=Href;have HD:Hid (J1 b->cR=0->∀W,Up w W->Calls prog 190 #[.agg #[Vz a1 b.tg.length c1,Vz a2 b.bs.length c2],.iface D av] W λe w'=>(∃u,e=.returned u/\S4 w' W.heap.size u bN)/\Up W w'):=Hdone;clear Href Hdone;obtain⟨W1,b5,kA,kR,a9,c5⟩:=cbE2 w [Vz a1 (b).tg.length c1,Vz a2 (b).bs.length c2] 26 [Nz,Nz] 26;go_in;go_upto_region 1 with fail;try rw[b5]
 clear b5;have hk:=h.up a9;clear h;obtain⟨e0,e1⟩:=kA.c2';go_wp2_with fail;refine (IA b _ _ hk).mono ?_;rintro e w2 ⟨rfl,a3⟩;have c6:=a3.size;have b0:=kA.up a3 (by omega);have b1:=kR.up a3 (by omega);have b6:=hk.up a3;have a7:=D5 a9 a3;clear e0 e1 kA kR hk a9 a3;cases hok:K4 b
 ·have HC:Hid (EK nm (AA b cR)=.iface 258 (.agg #[Tz nm,.iface 104 (.agg #[Iz 1])])/\X7 b cR bN=S2):=⟨by simp[AA,hok,EK],by simp[X7,hok]⟩;go_wp2_with fail;refine (Gz nm _).mono ?_;rintro e w3 ⟨rfl,a0⟩;have a5:=b1.up a0 (by omega);have a6:=D5 a7 a0;obtain⟨⟨y0,y1⟩,q0,q1⟩:=a5.c2;go_wp2_with fail;refine O0 results166 underlying26 rfl M5 a5 rfl rfl ?_;exact⟨⟨_,MF HC.out.1,by rw[HC.out.2];exact Wz _ _⟩,K6 a6 (Nat.le_succ _) _ _⟩
 have b2:=Ab hok;obtain⟨s1,s2,s3⟩:=An b2;obtain⟨e0,e1⟩:=b0.c2';go_wp2_with fail;refine (HR.out b2 _ a7).mono ?_;rintro e w3 ⟨rfl,a0⟩;have c7:=a0.size;have b8:=b0.up a0 (by omega);have a5:=b1.up a0 (by omega);have b9:=b6.up a0;have a6:=D5 a7 a0;clear e0 e1 b0 b1 b6 a7 a0 HR;obtain⟨e0,e1⟩:=b8.c2';by_cases hc:cR=0
 ·subst hc;have HC:Hid (EK nm (AA b 0)=.nilIface/\X7 b 0 bN=bN):=⟨by simp[AA,hok,EK],by simp[X7,hok]⟩;have HD0:=HD.out b2 rfl _ a6;clear HD;rw[Nk];go_wp2_with fail;refine HD0.mono ?_;rintro e w4 ⟨⟨u,rfl,hu⟩,a4⟩;have a8:=a5.up a4 (by omega);have b3:=D5 a6 a4;obtain⟨i1,j1,i2,j2,rfl⟩:=hu.shape;clear e0 e1;obtain⟨⟨y0,y1⟩,q0,q1⟩:=a8.c2;go_wp2_with fail;refine O0 results166 underlying26 rfl M5 a8 rfl rfl ?_;exact⟨⟨_,MF HC.out.1,by rw[HC.out.2];exact ((hu.set (by omega)).set (by omega)).low (by omega)⟩,K6 b3 (Nat.le_succ _) _ _⟩
 ·have HC:Hid (EK nm (AA b cR)=.iface 258 (.agg #[Tz nm,.iface 104 (.agg #[Iz cR])])/\X7 b cR bN=b):=⟨by simp[AA,hok,EK,hc],by simp[X7,hok,hc]⟩;rw[Kd hc];go_wp2_with fail;refine (Fn b _ _ b9 (by omega) (by omega) (λy hy=>by have:=s3 y hy;omega)).mono ?_;rintro e w4 ⟨c4,a4⟩;have c8:=a4.size;have a8:=a5.up a4 (by omega);have b3:=D5 a6 a4;clear e0 e1;obtain⟨i1,j1,i2,j2,ps,rfl,p1,p2,p3⟩:=c4;have hu:S4 w4 w3.heap.size (.agg #[Vz i1 b.tg.length j1,Vz i2 b.bs.length j2]) b:=⟨i1,j1,i2,j2,ps,rfl,p1,p2,p3⟩;clear p1 p2 p3;go_wp2_with fail;refine (Gz nm _).mono ?_;rintro e w5 ⟨rfl,b4⟩;have b7:=a8.up b4 (by omega);have c0:=D5 b3 b4;have c3:=hu.up b4;obtain⟨⟨y0,y1⟩,q0,q1⟩:=b7.c2;go_wp2_with fail;refine O0 results166 underlying26 rfl M5 b7 rfl rfl ?_;exact⟨⟨_,MF HC.out.1,by rw[HC.out.2];exact ((c3.set (by omega)).set (by omega)).low (by omega)⟩,K6 c0 (Nat.le_succ _) _ _⟩
def BD(w:World):Prop:=w.cell? ⟨1,0,none⟩=some (Value.iface 210 (.agg #[(Value.pointer (some ⟨2,62,none⟩))]))
theorem BD.up(h:BD w)(hb:Up w w'):BD w':=(hb.cell (p:=⟨1,0,none⟩) (World.block_lt_of_cell? w ⟨1,0,none⟩ h)).trans h
theorem Mb(b:Bk)(v:Value)(nm:BA)(D:TypeId)(av:Value)(cd:Int)(bk:Bk)(w:World)(h:Q6 w v b)(hg:BD w)
  (Htry:∀W,Up w W->Calls prog 166 #[v,.iface D av] W λe w'=>(∃u,e=.returned (.tuple #[u,EK nm cd])/\S4 w' W.heap.size u bk)/\Up W w') :
  Calls prog 128 #[v,.iface D av] w λe w'=>(∃u,e=.returned (.tuple #[u,Iz cd])/\S4 w' w.heap.size u bk)/\Up w w':=by
 obtain⟨a1,c1,a2,c2,rfl,-,-⟩:=h.parts;clear h;obtain⟨W1,a9,kA,kR,a7,c3⟩:=cbE2 w [Vz a1 (b).tg.length c1,Vz a2 (b).bs.length c2] 26 [Nz,Nz] 26;have HT:=Htry W1 a7;clear Htry;have HG:Hid (BD w):=hg;clear hg;go_in;go_upto_region 1 with fail;try rw[a9]
 clear a9;obtain⟨e0,e1⟩:=kA.c2';go_wp2_with fail;refine HT.mono ?_;rintro e w2 ⟨⟨u,rfl,hu⟩,a6⟩;have c5:=a6.size;have b1:=kR.up a6 (by omega);have b2:=D5 a7 a6;obtain⟨i1,j1,i2,j2,rfl⟩:=hu.shape;clear e0 e1 kA kR a7 a6 HT;go_upto_region 3 with fail;obtain⟨W4,b0,kX,kT,a3,c4⟩:=cbE2 w2 [Vz i1 bk.tg.length j1,Vz i2 bk.bs.length j2] 26 [Iz 0] 104;try rw[b0]
 clear b0;have a4:=b1.up a3 (by omega);have a5:=D5 b2 a3;have b3:=hu.up a3;clear b1 b2;by_cases hc:cd=0
 ·subst hc;rw[UB];go_wp2_with fail;refine (Uo _ _).mono ?_;rintro e w5 ⟨rfl,c0⟩;obtain rfl:=c0.symm;obtain⟨⟨x0,x1⟩,-⟩:=kX.c2;obtain⟨⟨y0,y1⟩,q0,q1⟩:=a4.c2;go_wp2_with fail;refine O0 results128 underlying26 rfl M5 a4 rfl rfl ?_;exact⟨⟨_,rfl,((b3.set (by omega)).set (by omega)).low (by omega)⟩,K6 a5 (Nat.le_succ _) _ _⟩
 ·rw[UC hc];have t0:At W4 (w2.heap.size+1) 0 (Iz 0):=kT.1 0 _ rfl;have t1:W4.frozen? ⟨w2.heap.size+1,0,none⟩=false:=(kT.2.1 0 (by simp)).2;have HE:Hid (BD W4):=HG.out.up a5;go_wp2_with fail;refine (SG nm cd _ _ _ HE.out t0 t1).mono ?_;rintro e w5 ⟨rfl,W5,a0,rfl⟩;have b4:=(kX.up a0 (by omega)).other (q:=w2.heap.size+1) (j:=0) (u:=.int .i64 cd) (by omega);have a8:=(a4.up a0 (by omega)).other (q:=w2.heap.size+1) (j:=0) (u:=.int .i64 cd) (by omega);have b5:=(kT.up a0 (by omega)).set (j:=0) (u:=.int .i64 cd) (by simp);have b6:Up w (W5.setCell ⟨w2.heap.size+1,0,none⟩ (Iz cd)):=(D5 a5 a0).setCell (p:=⟨w2.heap.size+1,0,none⟩) (by show _<=w2.heap.size+1;omega) _;have b7:S4 (W5.setCell ⟨w2.heap.size+1,0,none⟩ (Iz cd)) W1.heap.size _ bk:=hu.up ((D5 a3 a0).setCell (p:=⟨w2.heap.size+1,0,none⟩) (by show _<=w2.heap.size+1;omega) _);clear kX a4 kT a5 b3 hu t0 t1 HE a3 a0;generalize W5.setCell ⟨w2.heap.size+1,0,none⟩ (Iz cd)=W6 at *;obtain⟨⟨x0,x1⟩,-⟩:=b4.c2;obtain⟨⟨y0,y1⟩,q0,q1⟩:=a8.c2;have t0:At W6 (w2.heap.size+1) 0 (Iz cd):=b5.1 0 _ rfl;have b8:=a8.up (A5 _ _).drew a8.2.2;have b9:=b7.up (A5 _ _).drew;go_wp2_with fail;go_region
  all_goals
   go_wp2_with fail;refine O0 results128 underlying26 rfl M5 b8 rfl rfl ?_;exact⟨⟨_,rfl,((b9.set (by omega)).set (by omega)).low (by omega)⟩,K6 b6.drew (Nat.le_succ _) _ _⟩
theorem Mc(h:Cm b nm ls=0):E3 (G7 b.bs) nm=true:=by
 cases hm:E3 (G7 b.bs) nm
 ·rw[Kw hm] at h;omega
 ·rfl
theorem MG(h:Cm b nm ls=0):I4 ls (O5 b nm):=by
 have hm:=Mc h;cases hp:pB (I4 ls (O5 b nm))
 ·rw[LV hm hp] at h;omega
 ·exact K5.1 hp
theorem Pt(hok:J1 b)(h:Cm b nm ls=0):ls.length<=8:=by
 obtain⟨-,a0⟩:=Dx (Mc h);have hp:=MG h;rw[Dj (A0 a0)] at hp;have h1:=V8 hp;have h2:=((An hok).2.2 b.bs[L1 b nm] (by simp)).2;omega
theorem SI(ss:List BA)(v:Value)(s:BA)(w:World)(h:Ls w v ss):
  Calls prog 217 #[v,Tz s] w λe w'=>e=.returned (Iz (T5 ss s))/\w'=w:=by
 obtain⟨a,c,rfl,hn,-,a0⟩:=h;unfold maxLen at hn;go_in;go_wp2;go_loop [8] (λi=>∃k:Nat,k<=ss.length/\i=.int .i64 k/\E3 (ss.take k) s=false) (λi=>ss.length-(intOf i).toNat)
 case atStart=>exact⟨0,by omega,rfl,rfl⟩
 case round =>
  obtain⟨k,hk,rfl,a1⟩:=hrel;have Hal:Hid (E3 (ss.take k) s=false):=a1;clear a1;by_cases hp:k<ss.length
  ·obtain⟨b,o,rfl,hS,hb⟩:=a0 (by omega);have c0:=hS.cell hp;cases hq:(s.toList==(ss[k]).toList)
   ·have Hq:Hid (((ss[k]).toList==s.toList)=false):=by show _=_;rw[It];exact hq
    go_wp2;go_round
    case rel=>exact⟨k+1,by omega,by go_num,Ff hp Hal.out Hq.out⟩
    case measure=>simp[intOf];omega
   ·have Hq:Hid (((ss[k]).toList==s.toList)=true):=by show _=_;rw[It];exact hq
    go_wp2;go_ret;exact⟨U5 (Cq hp Hal.out Hq.out).symm,rfl⟩
  ·go_wp2;go_ret;exact⟨U5 (AN (FP hp Hal.out)).symm,rfl⟩
theorem Fv(ss:List BA)(v:Value)(s:BA)(w:World)(h:Ls w v ss):
  Calls prog 215 #[v,Tz s] w λe w'=>e=.returned (.bool (E3 ss s))/\w'=w:=by
 obtain⟨a,c,rfl,-⟩:=id h;go_in;go_wp2_with (go_at_call 217;refine Sx (SI ss _ _ _ h) ?_)
 all_goals
  go_ret;refine⟨D8 ?_,rfl⟩;rw[← KV];try simp_all
theorem En(h0:0<=x)(h1:x<18446744073709551616):IntKind.u64.wrap x=x:=by
 rw[IntKind.wrap_u64];omega
theorem XS(_:k<=7):(2:Int) ^ k=((2 ^ k:Nat):Int):=by simp
theorem SK(h:k<=7):2 ^ k<=128:=Nat.pow_le_pow_right (n:=2) (by omega) h
theorem WC{n:Nat}(hn:n<256)(hk:k<=7):IntKind.u64.wrap ((n:Int)+IntKind.u64.wrap (2 ^ k))=((n+2 ^ k:Nat):Int):=by
 have h:=SK hk;rw[XS hk];generalize 2 ^ k=m at *;rw[En (x:=(m:Int)) (by omega) (by omega),En (by omega) (by omega)];omega
theorem SL{P:BA->Bool}(hk:k<l.length):G5 (l.take (k+1)) P=G5 (l.take k) P+(if P l[k]=true then 2 ^ k else 0):=by
 rw[A8 hk,LG,B8,Nat.min_eq_left (by omega)]
theorem Jf(tg picked:List BA)(u v:Value)(w:World)(h:Ls w u tg)(h2:Ls w v picked)(h8:tg.length<=8):
  Calls prog 210 #[u,v] w λe w'=>e=.returned (.int .u64 (G5 tg (E3 picked):Nat))/\w'=w:=by
 obtain⟨a,c,rfl,-,-,a0⟩:=h;obtain⟨a2,c2,rfl,-⟩:=id h2;go_in;go_wp2;go_loop [5,6,7,10] (λx _ _ i=>∃k:Nat,k<=tg.length/\i=.int .i64 k/\x=.int .u64 (G5 (tg.take k) (E3 picked):Nat)) (λ_ _ _ i=>tg.length-(intOf i).toNat)
 case atStart=>exact⟨0,by omega,rfl,rfl⟩
 case round =>
  obtain⟨k,hk,rfl,rfl⟩:=hrel;by_cases hp:k<tg.length
  ·obtain⟨b,o,rfl,hS,hb⟩:=a0 (by omega);have c0:=hS.cell hp;have Hb:=SL (P:=E3 picked) hp;have a1:G5 (tg.take k) (E3 picked)<256:=Ag (by rw[B8];omega) _;cases hq:E3 picked tg[k]
   ·have HB:Hid (G5 (tg.take (k+1)) (E3 picked)=G5 (tg.take k) (E3 picked)):=by show _=_;rw[Hb,hq];simp
    clear Hb;go_wp2_with (go_at_call 215;refine Sx (Fv picked _ _ _ h2) ?_)
    go_round
    case rel=>exact⟨k+1,by omega,by go_num,by rw[HB.out]⟩
    case measure=>simp[intOf];omega
   ·have HB:Hid (G5 (tg.take (k+1)) (E3 picked)=G5 (tg.take k) (E3 picked)+2 ^ k):=by show _=_;rw[Hb,if_pos hq]
    clear Hb;go_wp2_with (go_at_call 215;refine Sx (Fv picked _ _ _ h2) ?_)
    go_round
    case rel =>
     refine⟨k+1,by omega,by go_num,?_⟩;rw[HB.out,WC a1 (by omega)]
    case measure=>simp[intOf];omega
  ·have HB:Hid (G5 (tg.take k) (E3 picked)=G5 tg (E3 picked)):=by show _=_;rw[D2 (by omega)]
   go_wp2;go_ret;exact⟨congrArg (λn:Nat=>Ending.returned (.int .u64 (n:Int))) HB.out,rfl⟩
end Go.Proofs.YtmonodehegcfhaaGreatDoor
namespace Go.Proofs.YtmonodehegcfhaaGreatDoor
open Go.Proofs.Tryz
open Go.RowKit Go.Shelf
variable{b:Bk}{nm s:BA}{c x:Int}{l ls ss xs:List BA}{base k sb:Nat}{u v:Value}{w w':World}
theorem UD(n:Nat)(w:World)(h1:1<=n)(h2:n<=1000):
  Calls prog 184 #[Nz,Iz (n:Int)] w
   λe w'=>(∃u,e=.returned u/\F7 w' w.heap.size u [])/\Up w w':=by
 obtain⟨ii,hi,a0,a3,a1⟩:=info_parts V7;have h:=Any8.slices_Grow_grow Tryz.growS ii (Ez) hi a0 (by omega) none 0 0 n [] w (A4 _) (by omega) (by rw[a1];omega) (by omega) (by simp) (λ_=>rfl) (λa ha=>by cases ha);refine Calls.mono h ?_;rintro e w' ⟨rfl,rfl⟩;have a4:=grownCap_ge w (0+n) 0 9;have a2:=grownCap_le_maxLen w (0+n) 0 9 (by unfold maxLen;omega);refine⟨⟨_,rfl,rfl,.inr ⟨_,_,_,rfl,A4 _,heap_alloc_new _ _,Nat.zero_le _,a2,?_,by simp⟩⟩,(A5 _ _).drew.alloc (by simp) _⟩;have hz:(Value.string ⟨#[]⟩).cells.size=1:=rfl;rw[Array.size_append,Array.size_append,size_zeroCells,size_zeroCells,hz];simp only[List.size_toArray,List.length_nil];show 0+(0+n-0)*1+(grownCap w (0+n) 0 9-(0+n))*1=grownCap w (0+n) 0 9*1
 omega
theorem UE(w:World):Calls prog 184 #[Nz,Iz 0] w λe w'=>(∃u,e=.returned u/\F7 w' w.heap.size u [])/\Up w w':=by
 go_in;go_wp2;go_ret;exact⟨⟨_,rfl,B9 _ _ _ _⟩,A5 _ _⟩
theorem UF(n:Nat)(w:World)(h2:n<=1000):Calls prog 184 #[Nz,Iz (n:Int)] w λe w'=>(∃u,e=.returned u/\F7 w' w.heap.size u [])/\Up w w':=by
 rcases C3 n with h|h
 ·subst h;exact UE w
 ·exact UD n w h h2
theorem YG(ho:F7 w base u xs)(h:Ls w v ss)(hn:xs.length+ss.length<=1000)(hb:base<=w.heap.size):
  ∃u' w',(Builtin.append_ #[23,23] 23 #[u,v]).run prog w=.ok u' w'/\F7 w' base u' (xs++ss)/\w.grownBy w' u.ownBlock:=by
 obtain⟨ii,hi,a3,a4,a5⟩:=info_parts V7;obtain⟨a,c,rfl,-,-,a1⟩:=h;rcases C3 ss.length with h0|h0
 ·obtain rfl:=C4.1 h0;exact⟨u,w,BI base 23 23 9 ii 1 underlying23 hi _ _ _ ho a c,by simpa using ho,E2 _ _⟩
 ·obtain⟨g,o,rfl,hS,hg⟩:=a1 h0;obtain⟨v1,w1,hr,a0,a2,-⟩:=run_append_own (P:=prog) w base 23 23 9 ii _ 1 16 underlying23 hi a3 a4 a5 rfl (by decide) u xs.length (xs.map Value.string) ho ⟨g,o,none⟩ ss.length c (ss.map Value.string) (by simp) (S0 hS) (CJ ss) (by unfold maxLen;omega) (by omega) hb;refine⟨v1,w1,hr,?_,a2⟩;unfold F7;rw[B0,List.map_append];exact a0
def AG(L:List (Value×List BA))(k:Nat):List BA:=((L.take k).map (·.2)).flatten
theorem GH(L:List (Value×List BA))(k:Nat)(hk:k<L.length):AG L (k+1)=AG L k++(L[k]).2:=by
 rw[AG,AG,A8 hk,List.map_append,List.flatten_append];simp
theorem RL(L:List (Value×List BA)):∀(d k:Nat),k+d<=L.length->(AG L k).length<=(AG L (k+d)).length
 | 0,_,_=>A4 _
 | d+1,k,h=>by
  have h1:=RL L d k (by omega);have h2:=GH L (k+d) (by omega);rw[← Nat.add_assoc,h2,B0];omega
def Gj(w:World)(sb:Nat)(L:List (Value×List BA)):Prop:=∀(i:Nat)(f:Value×List BA),L[i]?=some f->w.cell? ⟨sb,i,none⟩=some f.1/\Ls w f.1 f.2
theorem Gj.up{L:List (Value×List BA)}(h:Gj w sb L)(hb:Up w w')(hs:sb<w.heap.size):Gj w' sb L:=λi f hf=>⟨(hb.cell (p:=⟨sb,i,none⟩) hs).trans (h i f hf).1,(h i f hf).2.up hb⟩
theorem QO(L:List (Value×List BA))(sb:Nat)(w:World)(h:Gj w sb L)(hsb:sb<w.heap.size)(hL:L.length<=10)(hn:(AG L L.length).length<=900):
  Calls prog 152 #[Sz sb L.length L.length] w
   λe w'=>(∃u,e=.returned u/\F7 w' w.heap.size u (AG L L.length))/\Up w w':=by
 have Hle:Hid (∀k,k<=L.length->(AG L k).length<=900):=λk hk=>by
  have:=RL L (L.length-k) k (by omega);rw[show k+(L.length-k)=L.length by omega] at this;omega
 go_in;go_wp2_with fail;go_loop [3,11] (λz i=>∃k:Nat,k<=L.length/\i=.int .i64 (k:Int)/\z=.int .i64 ((AG L k).length:Int)) (λ_ i=>L.length-(intOf i).toNat)
 case atStart=>exact⟨0,by omega,rfl,by simp[AG]⟩
 case round =>
  obtain⟨k,hk,rfl,rfl⟩:=hrel;have a5:=Hle.out k hk;by_cases hp:k<L.length
  ·obtain⟨c0,l0⟩:=h k _ (A0 hp);have a0:=Hle.out (k+1) hp;have HS:Hid ((AG L (k+1)).length=(AG L k).length+(L[k]).2.length):=by show _=_;rw[GH L k hp,B0]
   rw[HS.out] at a0;generalize L[k]=f0 at *;obtain⟨fv,fs⟩:=f0;simp only at c0 l0 a0 HS;obtain⟨fa,fc,a1,-⟩:=id l0;subst a1;clear l0;generalize hcl:(AG L k).length=n0 at *;go_wp2_with fail;go_round
   case rel=>exact⟨k+1,by omega,by go_num,by rw[HS.out];go_num⟩
   case measure=>simp[intOf];omega
  ·obtain rfl:k=L.length:=by omega
   go_wp2_with fail;refine (UF (AG L L.length).length w (by omega)).mono ?_;rintro e w1 ⟨⟨u,rfl,ho⟩,a4⟩;have HC:Hid (Gj w sb L):=h;clear h hn a5;obtain⟨ua,uc,hu⟩:=I7 ho;subst hu;go_wp2_with fail;go_loopw [6,27] (λu i w'=>∃(k:Nat),k<=L.length/\i=.int .i64 (k:Int)/\F7 w' w.heap.size u (AG L k)/\Up w w') (λ_ i _=>L.length-(intOf i).toNat)
   case atStart=>exact⟨0,by omega,rfl,by simpa [AG] using ho,a4⟩
   case round =>
    clear ho a4;obtain⟨k,hk,rfl,ho,hB⟩:=hrel;by_cases hp:k<L.length
    ·obtain⟨c0,l0⟩:=(HC.out.up hB hsb) k _ (A0 hp);have a0:=Hle.out (k+1) hp;rw[GH L k hp,B0] at a0;obtain⟨u',w',hr,a2,a3⟩:=YG ho l0 (by omega) hB.size;have a6:=M1 hB ho a3 (A4 _);rw[← GH L k hp] at a2;generalize L[k]=f0 at *;obtain⟨fv,fs⟩:=f0;simp only at c0 l0 hr;obtain⟨fa,fc,a1,-⟩:=id l0;subst a1;clear a0 ho a3 l0;go_wp2_with (at_builtin;refine Bc _ rfl _ _ _ _ rfl _ _ _ _ rfl rfl hr ?_)
     go_roundw
     case rel=>exact⟨k+1,by omega,by go_num,a2,a6⟩
     case measure=>simp[intOf];omega
    ·obtain rfl:k=L.length:=by omega
     go_wp2_with fail;go_ret;exact⟨⟨_,rfl,ho⟩,hB⟩
end Go.Proofs.YtmonodehegcfhaaGreatDoor
namespace Go.Proofs.YtmonodehegcfhaaGreatDoor
open Go.Proofs.Tryz
open Go.RowKit
variable{b:Bk}{nm s:BA}{c x:Int}{l ls ss xs:List BA}{base k sb:Nat}{u v:Value}{w w':World}
theorem WD{L:List (Value×List BA)}(h:s∈AG L L.length):∃i,∃hi:i<L.length,s∈(L[i]).2:=by
 rw[AG,List.take_length,List.mem_flatten] at h;obtain⟨l,hl,hs⟩:=h;obtain⟨f,hf,rfl⟩:=List.mem_map.1 hl;obtain⟨i,hi,rfl⟩:=B7 hf;exact⟨i,hi,hs⟩
theorem UG{L:List (Value×List BA)}(h:Gj w sb L):∀s∈AG L L.length,s.size<=maxLen:=λs hs=>by
 obtain⟨i,hi,hm⟩:=WD hs;obtain⟨_,_,_,_,hz,_⟩:=(h i _ (A0 hi)).2;exact hz s hm
theorem UH{f:BA->Bool}(hk:k<ss.length):(ss.take (k+1)).filter f=(ss.take k).filter f++(if f ss[k]=true then [ss[k]] else []):=by
 rw[A8 hk,List.filter_append];congr 1
 by_cases h:f ss[k]=true
 ·simp[h]
 ·simp[h]
theorem WF(ss:List BA)(f:BA->Bool)(k:Nat):((ss.take k).filter f).length<=k:=by
 have h1:=List.length_filter_le f (ss.take k);rw[B8] at h1;omega
theorem UI(ss:List BA)(v:Value)(L:List (Value×List BA))(sb:Nat)(w:World)(h:Ls w v ss)(hs:ss.length<=100)(hc:Gj w sb L)(hsb:sb<w.heap.size)(hL:L.length<=10)(hn:(AG L L.length).length<=900):
  Calls prog 208 #[v,Sz sb L.length L.length] w λe w'=>(∃u,e=.returned u/\F7 w' w.heap.size u (ss.filter (E3 (AG L L.length))))/\Up w w':=by
 obtain⟨ii,hi,a7,a8,a9⟩:=info_parts V7;have Hz:=UG hc;obtain⟨a,c,rfl,-,-,a1⟩:=h;go_in;go_wp2_with fail;refine (QO L sb w hc hsb hL hn).mono ?_;rintro e w1 ⟨⟨u,rfl,ho⟩,a3⟩;have HL:Hid (∀W,Up w1 W->Ls W u (AG L L.length)):=λW hW=>(ho.lst.ls Hz).up hW;obtain⟨ua,uc,hu⟩:=I7 ho;subst hu;clear ho Hz hc hn;generalize hcat:AG L L.length=cat at *;have Hcat:Hid (AG L L.length=cat):=hcat;clear hcat
 have a2:Hid (0<ss.length->∃b o,a=some ⟨b,o,none⟩/\F9 w1 b o ss/\b<w1.heap.size):=λhp=>by
  obtain⟨g,o,e,hS,hg⟩:=a1 hp;exact⟨g,o,e,hS.up a3 hg,A2 hg a3.size⟩
 clear a1;go_wp2_with fail;go_loopw [6,13] (λx i w'=>∃k:Nat,k<=ss.length/\i=.int .i64 (k:Int)/\F7 w' w1.heap.size x ((ss.take k).filter (E3 cat))/\Up w1 w') (λ_ i _=>ss.length-(intOf i).toNat)
 case atStart=>exact⟨0,by omega,rfl,B9 _ _ _ _,A5 _ _⟩
 case round =>
  obtain⟨k,hk,rfl,hx,hB⟩:=hrel;by_cases hp:k<ss.length
  ·obtain⟨g,o,rfl,hS,hg⟩:=a2.out (by omega);have c0:=(hS.up hB hg).cell hp;have HF:=UH (f:=E3 cat) hp;have Hl:=WF ss (E3 cat) k;have HC:=HL.out wr hB;generalize ss[k]=s0 at *;go_wp2_with fail;refine (Fv cat _ s0 _ HC).mono ?_;rintro e w2 ⟨rfl,b4⟩;obtain rfl:=b4.symm;clear c0;cases hq:E3 cat s0
   ·rw[hq,if_neg (by simp),List.append_nil] at HF;have HX:Hid (F7 wr w1.heap.size u6 ((ss.take (k+1)).filter (E3 cat))):=by show _;rw[HF];exact hx
    clear hx HF;go_wp2_with fail;go_roundw
    case rel=>exact⟨k+1,by omega,by go_num,HX.out,hB⟩
    case measure=>simp[intOf];omega
   ·rw[hq,if_pos rfl] at HF;have HF':Hid ((ss.take (k+1)).filter (E3 cat)=(ss.take k).filter (E3 cat)++[s0]):=HF;clear HF;generalize (ss.take k).filter (E3 cat)=xs at *;have a0:=World.ownsRow.alloc hx (Kz [Tz s0] 9);have a5:=hB.alloc hB.size (Kz [Tz s0] 9);have b5:=hB.size;obtain⟨xa,xc,a4⟩:=I7 hx;subst a4;clear hx;go_wp2_with (at_builtin;refine wpList_append_own _ rfl _ _ 23 rfl w1.heap.size 9 ii _ 1 16 underlying23 hi a7 a8 a9 rfl (by decide) _ _ _ rfl a0 ⟨wr.heap.size,0,none⟩ 1 1 [Tz s0] rfl rfl (AD _ _ _) (DG s0) (by unfold maxLen;omega) (by omega) (by simp;omega) ?_)
    intro v' w2 hown2 hgr2 _;have b1:=M1 a5 a0 hgr2 (A4 _);have a6:F7 w2 w1.heap.size v' (xs++[s0]):=by unfold F7;simpa using hown2
    obtain⟨ya,yc,b0⟩:=I7 a6;subst b0;clear a0 hgr2 hown2 a5;go_wp2_with fail;go_roundw
    case rel=>exact⟨k+1,by omega,by go_num,by rw[HF'.out];exact a6,b1⟩
    case measure=>simp[intOf];omega
  ·obtain rfl:k=ss.length:=by omega
   rw[List.take_length] at hx;have b2:=D5 a3 hB;have b3:=a3.size;obtain⟨xa,xc,a4⟩:=I7 hx;subst a4;go_wp2_with fail;go_ret;have e:=Hcat.out;subst e;exact⟨⟨_,rfl,I8 hx b3⟩,b2⟩
theorem QP(ps:List Bv)(p:Bv)(k:Nat)(v:Value)(base vb:Nat)(w:World)(hk:k<=ps.length)(hn:ps.length<=100)(hrow:w.ownsRow base 115 3 v ps.length (E8 ps))(hone:∀u∈E8 ps,u.oneCell'=true)(hB:CU w vb p)(hop:∀u∈O3 p,u.oneCell'=true)(hne:v.ownBlock≠some vb)(hz:base<=w.heap.size):
  Calls prog 207 #[v,Iz k,Sz vb 1 1] w
   λe w'=>∃u,e=.returned u/\w'.ownsRow base 115 3 u (ps.length+1) (E8 (ps.take k++p::ps.drop k))/\w.grownBy w' v.ownBlock/\P0 w v u:=by
 by_cases h0:k=ps.length
 ·subst h0;rw[List.take_length,List.drop_length];exact SE ps p v base vb w hn hrow hB hop hz
 ·obtain⟨g,c,rfl⟩:=I6 hrow (by omega);have a0:vb≠g:=λe=>hne (by rw[e];rfl);by_cases hr:ps.length+1<=c
  ·refine (QJ ps p k g c base vb w (by omega) hn hr hrow hone hB hop a0).mono ?_;rintro e w' ⟨rfl,h1,h2⟩;exact⟨_,rfl,h1,h2,λg' hg'=>.inl hg'⟩
  ·refine (QK ps p k g c base vb w (by omega) hn (by omega) hrow hone hB hop hz).mono ?_;rintro e w' ⟨u,rfl,h1,h2,h3⟩;exact⟨u,rfl,h1,L2 h2,λg' hg'=>.inr (h3 g' hg')⟩
noncomputable def Ch(b:Bk)(nm:BA)(ls:List BA):Int:=if (G0 nm&&pB (I4 ls b.tg))=false then 2 else if E3 (G7 b.bs) nm=true then 3 else if 5<=b.bs.length then 4 else 0
theorem KK(b:Bk)(nm:BA)(ls:List BA):AA b (Ch b nm ls)=N6 b nm ls/\X7 b (Ch b nm ls) ⟨b.tg,b.bs.take (U3 b nm)++⟨nm,[],ls⟩::b.bs.drop (U3 b nm)⟩=K3 b nm ls:=by
 cases hb:K4 b
 ·exact⟨by simp[AA,N6,hb],by simp[X7,K3,hb]⟩
 ·have e:N6 b nm ls=Ch b nm ls:=by simp[N6,Ch,hb]
  exact⟨by rw[e];simp[AA,hb],by unfold K3;rw[e];simp[X7,hb]⟩
theorem Pu(b:Bk)(v:Value)(nm:BA)(lv:Value)(ls:List BA)(w:World)(h:Q6 w v b)(hok:J1 b)(hl:Ls w lv ls)(hnz:nm.size<=maxLen):
  Calls prog 243 #[.agg #[Tz nm,lv],v] w λe w'=>e=.returned (Z7 (Ch b nm ls))/\Up w w':=by
 obtain⟨a1,c1,a2,c2,rfl,ht,-⟩:=h.parts;obtain⟨la,lc,rfl,-⟩:=id hl;have c5:b.bs.length<=5:=hok.2.1;obtain⟨W1,b2,kA,kB,a7,c4⟩:=cbE2 w [Tz nm,Vz la ls.length lc] 180 [Vz a1 (b).tg.length c1,Vz a2 (b).bs.length c2] 26;go_in;go_upto_region 1 with fail;try rw[b2]
 clear b2;have b3:=h.up a7;have b4:=hl.up a7;have b5:=ht.up a7;obtain⟨e0,e1⟩:=kA.c2';obtain⟨d0,d1⟩:=kB.c2';go_wp2_with fail;refine (AJ nm _ hnz).mono ?_;rintro e w2 ⟨rfl,a0⟩;have c6:=a0.size;have a9:=kA.up a0 (by omega);have b0:=kB.up a0 (by omega);have b6:=b3.up a0;have b7:=b4.up a0;have b8:=b5.up a0;have a3:=D5 a7 a0;clear e0 e1 d0 d1 kA kB b3 b4 b5 a7 a0 h hl ht;cases hnm:G0 nm
 ·have HV:Hid (Z7 (Ch b nm ls)=.iface 104 (.agg #[Iz 2])):=by show _=_;simp[Ch,hnm,Z7]
  go_wp2_with fail;go_ret;exact⟨Bn HV.out,a3⟩
 obtain⟨e0,e1⟩:=a9.c2';obtain⟨d0,d1⟩:=b0.c2';go_wp2_with fail;refine (De ls b.tg _ _ _ b7 b8).mono ?_;rintro e w3 ⟨rfl,a6⟩;have c7:=a6.size;have b9:=a9.up a6 (by omega);have b1:=b0.up a6 (by omega);have c0:=b6.up a6;have a4:=D5 a3 a6;clear e0 e1 d0 d1 a9 b0 b6 b7 b8 a3 a6;cases hpt:pB (I4 ls b.tg)
 ·have HV:Hid (Z7 (Ch b nm ls)=.iface 104 (.agg #[Iz 2])):=by show _=_;simp[Ch,hnm,hpt,Z7]
  go_wp2_with fail;go_ret;exact⟨Bn HV.out,a4⟩
 obtain⟨e0,e1⟩:=b9.c2';obtain⟨d0,d1⟩:=b1.c2';go_wp2_with fail;refine (Gb b _ nm _ c0 hok).mono ?_;rintro e w4 ⟨rfl,a8⟩;have c8:=a8.size;have c3:=b1.up a8 (by omega);have a5:=D5 a4 a8;clear e0 e1 d0 d1 b9 b1 c0 a4 a8;generalize Ga (G7 b.bs) nm=q at *;cases hm:E3 (G7 b.bs) nm
 ·obtain⟨d0,d1⟩:=c3.c2';by_cases h5:b.bs.length=5
  ·have HV:Hid (Z7 (Ch b nm ls)=.iface 104 (.agg #[Iz 4])):=by show _=_;simp[Ch,hnm,hpt,hm,h5,Z7]
   rw[h5] at d1;go_wp2_with fail;go_ret;exact⟨Bn HV.out,a5⟩
  ·have HV:Hid (Z7 (Ch b nm ls)=.nilIface):=by show _=_;simp[Ch,hnm,hpt,hm,Z7];omega
   have c9:¬((b.bs.length:Int)=5):=by omega
   go_wp2_with fail;go_ret;exact⟨Bn HV.out,a5⟩
 ·have HV:Hid (Z7 (Ch b nm ls)=.iface 104 (.agg #[Iz 3])):=by show _=_;simp[Ch,hnm,hpt,hm,Z7]
  go_wp2_with fail;go_ret;exact⟨Bn HV.out,a5⟩
end Go.Proofs.YtmonodehegcfhaaGreatDoor
