/- The laws' sizes of lists of batches. -/
import Derived.Test.YtaffjphkobhagaaGreatDoorJ45
import Derived.Test.YtaffjphkobhagaaGreatDoorJ46
set_option maxRecDepth 20000
set_option maxHeartbeats 2000000
namespace Go.Proofs.YtaffjphkobhagaaGreatDoor
open Proofs.Tryz
variable{x:Ba}{bs:List Rb}{b base j o r:Nat}{u v:Value}{w w' w1:World}
section
open Go.RowKit
def Mq(w:World)(b o:Nat)(bs:List Rb):Prop:=∀(i:Nat)(x:Rb),bs[i]?=some x->∃rv sv,w.rangeAt b (o+i*6) [.string x.nm,rv,sv,.string x.ad,.int .i64 x.si,.int .i64 x.st]/\Ew w x rv sv
def GM(w:World)(v:Value)(bs:List Rb):Prop:=∃a c,v=.slice a bs.length c/\bs.length<=maxLen/\(0<bs.length->∃b o,a=some ⟨b,o,none⟩/\Mq w b o bs/\b<w.heap.size)
theorem Mq.up(h:Mq w b o bs)(hb:Up w w')(hB:b<w.heap.size):Mq w' b o bs:=λi x hx=>by
 obtain⟨rv,sv,h1,h2⟩:=h i x hx;exact⟨rv,sv,Gi h1 hb hB,h2.up hb⟩
theorem GM.up(h:GM w v bs)(hb:Up w w'):GM w' v bs:=by
 obtain⟨a,c,rfl,h1,h2⟩:=h;exact⟨a,c,rfl,h1,λhp=>by obtain⟨b,o,e,hr,a0⟩:=h2 hp;exact⟨b,o,e,hr.up hb a0,A1 a0 hb.size⟩⟩
theorem Mq.open(h:Mq w b o bs){k}(hk):∃a1 c1 a2 c2,(AS w b (o+k*6) (Tz (bs[k]).nm)/\AS w b (o+k*6+1) (Vz a1 (bs[k]).ps.length c1)/\AS w b (o+k*6+2) (Vz a2 (bs[k]).sl.length c2)/\AS w b (o+k*6+3) (Tz (bs[k]).ad)/\AS w b (o+k*6+4) (Iz (bs[k]).si)/\AS w b (o+k*6+5) (Iz (bs[k]).st))/\Ew w bs[k] (Vz a1 (bs[k]).ps.length c1) (Vz a2 (bs[k]).sl.length c2):=by
 obtain⟨rv,sv,hr,hv⟩:=h k _ (A0 hk);obtain⟨a1,c1,rfl⟩:=hv.r.shape;obtain⟨a2,c2,rfl⟩:=hv.s.shape;exact⟨a1,c1,a2,c2,⟨hr 0 _ rfl,hr 1 _ rfl,hr 2 _ rfl,hr 3 _ rfl,hr 4 _ rfl,hr 5 _ rfl⟩,hv⟩
def Ad(bs:List Rb)(k:Nat):Prop:=∀(i:Nat)(x:Rb),i<k->bs[i]?=some x->x.ps.length<=1048576/\x.sl.length<=1048576
theorem AaM(bs:List Rb)(v:Value)(l:Int)(w:World)(hl:0<=l)(hl':l<=1048576)(h:GM w v bs):
  Calls prog 10 #[v,Iz l] w
   λe' w'=>(∃x:Int,e'=.returned (Iz x)/\(0<=x->(bs.length:Int)<=l/\Ad bs bs.length)/\x<=1048576)/\Up w w':=by
 obtain⟨a,c,rfl,hn,a0⟩:=h;unfold maxLen at hn;by_cases h0:l-bs.length<0
 .go_in;go_wp2;go_ret;exact⟨⟨_,rfl,oM,oM⟩,A4 _ _⟩
 have H0:Hid ((bs.length:Int)<=l):=by show _<=_;omega
 go_in;go_wp2;go_loopw [1,5] (λx i w'=>∃(k:Nat)(y:Int),k<=bs.length/\i=.int .i64 k/\x=.int .i64 y/\0<=y/\y<=1048576/\Ad bs k/\Up w w') (λ_ i _=>bs.length-(intOf i).toNat)
 case atStart=>exact⟨0,_,oM,rfl,rfl,oM,oM,λi x hi=>oM,A4 _ _⟩
 case round =>
  obtain⟨k,y,hk,rfl,rfl,hy,a4,a5,hB⟩:=hrel;have Hsm:Hid (Ad bs k):=a5;clear a5;by_cases hp:k<bs.length
  .obtain⟨b,o,ha,hr,hb⟩:=a0 oM;subst ha;obtain⟨a1,c1,a2,c2,⟨e0,e1,e2,e3,e4,e5⟩,hv⟩:=(hr.up hB hb).open hp;have YES:Hid _:=λhy=>Du Hsm.out hp hy;generalize bs[k]=x0 at *;clear hr;go_wp2_with fail;refine (Ac4 x0 _ _ _ hv _ hy a4).mono ?_;rintro e' w1 ⟨⟨x,rfl,a3,a8⟩,a7⟩;have a6:=D3 hB a7;clear e0 e1 e2 e3 e4 e5;by_cases hx:x<0
   .go_wp2_with fail;go_ret;exact⟨⟨_,rfl,oM,oM⟩,a6⟩
   .have HY:Hid (Ad bs (k+1)):=YES.out ⟨(a3 oM).1,(a3 oM).2.1⟩;clear a3;go_wp2_with fail;go_roundw
    case rel=>exact⟨k+1,x,oM,mO,rfl,oM,oM,HY.out,a6⟩
    case measure=>simp[intOf];omega
  .have HY:Hid (Ad bs bs.length):=by
    have:=Hsm.out;rwa [show k=bs.length by omega] at this
   go_wp2_with fail;go_ret;exact⟨⟨_,rfl,λ_=>⟨H0.out,HY.out⟩,a4⟩,hB⟩
theorem Ag9:(prog.info? 52).map (λi=>(i.zero,i.size,i.bytes))=some (some (.agg #[Ez,Nz,Nz,Ez,Iz 0,Iz 0]),6,96):=sI
theorem UO(n:Nat)(hn:n<=1048576):∃C:Array Value,C.size=n*6/\∀w,(Instr.makeSlice 35 (Iz (n)) (Iz (n))).run prog w=.ok (Sy w.heap.size n n) (w.alloc (.cells C 52)):=by
 obtain⟨i,hi,hz⟩:=B6.1 Ag9;simp at hz;obtain⟨hz,hs,hb⟩:=hz;refine⟨madeCells (Value.agg #[Ez,Nz,Nz,Ez,Iz 0,Iz 0]).cells _,size_madeCells _ _,λw=>?_⟩;have:=run_make w 35 52 i _ underlying35 hi hz .i64 .i64 n n oM oM (by grind) oM;grind
def Bp(x:Rb)(b1 b2:Nat):List Value:=[.string x.nm,.slice (some ⟨b1,0,none⟩) x.ps.length x.ps.length,.slice (some ⟨b2,0,none⟩) x.sl.length x.sl.length,.string x.ad,.int .i64 x.si,.int .i64 x.st]
def BZ(w:World)(b:Nat)(bs:List Rb):Prop:=∀(i:Nat)(x:Rb),bs[i]?=some x->∃b1 b2,w.rangeAt b (i*6) (Bp x b1 b2)/\AO w (b+1) x b1 b2
theorem BZ.up(h:BZ w b bs)(hb:Up w w')(hB:b<w.heap.size):BZ w' b bs:=λi x hx=>by
 obtain⟨b1,b2,h1,h2⟩:=h i x hx;exact⟨b1,b2,Gi h1 hb hB,h2.up hb⟩
theorem AO.setCells{base b1 b2 r:Nat}{x}(hr:r<base):∀(vs)(o) {w},AO w base x b1 b2->AO (w.setCells r o vs) base x b1 b2
 | [],_,_,h=>h
 | _::vs,_,_,h=>AO.setCells hr vs _ (h.set hr)
theorem AaN{k b1 b2:Nat}(hk:k<bs.length)(h:BZ w1 b (bs.take k))(ht:P7 w1 b 0 (bs.length*6))(ho:AO w1 (b+1) bs[k] b1 b2):BZ (w1.setCells b (k*6) (Bp bs[k] b1 b2)) b (bs.take (k+1)):=by
 intro i p hp;by_cases hi:i<k
 .obtain⟨x1,x2,h1,h2⟩:=h i p (by
   rw[List.getElem?_take] at hp ⊢;rw[if_pos oM] at hp;rwa[if_pos hi])
  exact⟨x1,x2,World.rangeAt_setCells_apart h1 b _ _ (.inr (.inl (by simp[Bp];omega))),AO.setCells oM _ _ h2⟩
 .have a0:i=k:=by
   grind
  subst a0;rw[List.getElem?_take,if_pos oM,A0 hk] at hp;obtain rfl:=A5 hp;refine⟨b1,b2,World.rangeAt_setCells_same _ _ _ _ (λj hj=>?_),AO.setCells oM _ _ ho⟩;have:=ht.1 (i*6+j) (by simp[Bp] at hj;omega);simpa using this
theorem AaO(bs:List Rb)(v:Value)(w:World)(h:GM w v bs)(hn:bs.length<=1048576)(hsm:Ad bs bs.length):
  Calls prog 17 #[v] w λe w'=>(∃b,e=.returned (Sy b bs.length bs.length)/\BZ w' b bs/\w.heap.size<=b/\b<w'.heap.size/\P7 w' b 0 (bs.length*6))/\Up w w':=by
 obtain⟨a,c,rfl,a7,a4⟩:=h;obtain⟨C,hC,a9⟩:=UO bs.length hn;have HC:Hid (C.size=bs.length*6):=hC;have Hsm:Hid (Ad bs bs.length):=hsm;clear hC hsm;go_in;go_wp2;(try dsimp only[Iz,Sy,Sx,Nz,Vz,Tz,Ez,Pz]);go_loopw [4] (λi w'=>∃k:Nat,k<=bs.length/\i=.int .i64 k/\BZ w' w.heap.size (bs.take k)/\P7 w' w.heap.size 0 (bs.length*6)/\w.heap.size<w'.heap.size/\Up w w') (λi _=>bs.length-(intOf i).toNat)
 case atStart=>exact⟨0,oM,rfl,λi p hp=>by simp at hp,by rw[← HC.out];exact Bt _ _ _,dC,by go_grown⟩
 case round =>
  obtain⟨k,hk,rfl,a5,a6,a3,hB⟩:=hrel;have Hra:Hid (BZ wr w.heap.size (bs.take k)):=a5;have Hth:Hid (P7 wr w.heap.size 0 (bs.length*6)):=a6;clear a5 a6;by_cases hp:k<bs.length
  .obtain⟨b,o,ha,hr,hb⟩:=a4 oM;subst ha;obtain⟨a1,c1,a2,c2,⟨e0,e1,e2,e3,e4,e5⟩,hv⟩:=(hr.up hB hb).open hp;obtain⟨np,ns⟩:=Hsm.out k _ hp (A0 hp);have Hst:Hid (∀w1 b1 b2,Up wr w1->AO w1 (w.heap.size+1) bs[k] b1 b2->BZ (w1.setCells w.heap.size (k*6) (Bp bs[k] b1 b2)) w.heap.size (bs.take (k+1))):=λw1 b1 b2 a0 ho=>AaN hp (Hra.out.up a0 a3) (P8 Hth.out a0 a3) ho;generalize bs[k]=x0 at *;clear hr;go_wp2_with fail;refine (Ac5 x0 _ _ _ hv np ns).mono ?_;rintro e' w1 ⟨⟨b1,b2,rfl,ho⟩,a0⟩;have a8:=ho.low (base':=w.heap.size+1) oM;clear e0 e1 e2 e3 e4 e5
   go_wp2_with (refine wpList_store_mid rfl 52 _ _ rfl w.heap.size (k*6) _ rfl rfl (λj hj=>by
     have:=(P8 Hth.out a0 a3).1 (k*6+j) (by simp at hj;omega);simpa using this) Aa6 (by simp[Value.oneCell']) ?_)
   go_roundw
   case rel=>exact⟨k+1,oM,mO,Hst.out w1 b1 b2 a0 a8,Bc (P8 Hth.out a0 a3) _ _ _,A1 (A1 a3 a0.size) (BK _ _ _ _),X7 _ _ _ _ _ _ (D3 hB a0) (A3 _)⟩
   case measure=>simp[intOf];omega
  .have HD:Hid (BZ wr w.heap.size bs):=by have:=Hra.out;rwa [D0 oM] at this
   go_wp2_with fail;go_ret;exact⟨⟨_,rfl,HD.out,A3 _,a3,Hth.out⟩,hB⟩
theorem Wm:(prog.info? 80).map (·.size)=some 3:=sI
theorem Ag6:(prog.info? 34).map (·.size)=some 2:=sI
theorem UK(x:Ba)(hv nv:Value)(w:World)(h1:Ls w hv x.has)(h2:Ls w nv x.nj)(hn:x.has.length<=1048576)(hn2:x.nj.length<=1048576):
  Calls prog 77 #[.agg #[Tz x.nm,hv,nv]] w λe w'=>(∃hu nu,e=.returned (.agg #[Tz x.nm,hu,nu])/\Y8 w' w.heap.size hu x.has/\Y8 w' w.heap.size nu x.nj)/\Up w w':=by
 obtain⟨a1,c1,rfl,-⟩:=id h1;obtain⟨a2,c2,rfl,-⟩:=id h2;go_in;go_upto_region 2 with fail;obtain⟨W1,b0,kP,kR,kO,b3,b4⟩:=cbE3 w [Tz x.nm,Vz a1 x.has.length c1,Vz a2 x.nj.length c2] 117 [Ez,Nz,Nz] 80 [Ez,Nz,Nz] 80;rw[b0];clear b0;obtain⟨W2,b5,a5,b6,b7,a6,d1⟩:∃W2,W1.setCell ⟨w.heap.size+2,0,none⟩ (Tz x.nm)=W2/\CB W2 w.heap.size [Tz x.nm,Vz a1 x.has.length c1,Vz a2 x.nj.length c2]/\CB W2 (w.heap.size+1) [Ez,Nz,Nz]/\CB W2 (w.heap.size+2) [Tz x.nm,Nz,Nz]/\Up w W2/\W2.heap.size=w.heap.size+3:=⟨_,rfl,kP.other oM,kR.other oM,kO.set (j:=0) dC,J4 b3 oM _,by simpa using b4⟩;obtain⟨⟨p0,p1,p2⟩,-⟩:=kP.c3;obtain⟨⟨o0,o1,o2⟩,f0,f1,f2⟩:=kO.c3;go_upto_region 3 with fail;try rw[b5]
 clear b5 p0 p1 p2 o0 o1 o2 f0 f1 f2 kP kR kO b3 b4;obtain⟨⟨p0,p1,p2⟩,-⟩:=a5.c3;go_wp2_with fail;refine (KC x.has _ _ (h1.up a6) hn).mono ?_;rintro e w3 ⟨⟨hu,rfl,a4⟩,a0⟩;rw[d1] at a4;have e0:=a0.size;have c7:=a5.up a0 oM;have c8:=b6.up a0 oM;have a8:=b7.up a0 oM;have c9:=D3 a6 a0;obtain⟨b1,d2⟩:=a4.shape;subst d2;clear p0 p1 p2 a5 b6 b7 a6 a0;obtain⟨W4,b8,b9,c4,c5,c6,a7,d9⟩:∃W4,w3.setCell ⟨w.heap.size+2,1,none⟩ (Sy b1 x.has.length x.has.length)=W4/\CB W4 w.heap.size [Tz x.nm,Vz a1 x.has.length c1,Vz a2 x.nj.length c2]/\CB W4 (w.heap.size+1) [Ez,Nz,Nz]/\CB W4 (w.heap.size+2) [Tz x.nm,Sy b1 x.has.length x.has.length,Nz]/\Y8 W4 (w.heap.size+3) (Sy b1 x.has.length x.has.length) x.has/\Up w W4/\W4.heap.size=w3.heap.size:=⟨_,rfl,c7.other oM,c8.other oM,a8.set (j:=1) dC,a4.set oM,J4 c9 oM _,dC⟩;obtain⟨⟨o0,o1,o2⟩,f0,f1,f2⟩:=a8.c3;go_upto_region 4 with fail;try rw[b8]
 clear b8 o0 o1 o2 f0 f1 f2 c7 c8 a8 a4 c9;obtain⟨⟨p0,p1,p2⟩,-⟩:=b9.c3;go_wp2_with fail;refine (KC x.nj _ _ (h2.up a7) hn2).mono ?_;rintro e w5 ⟨⟨nu,rfl,a9⟩,a3⟩;have e1:=a3.size;have d0:=c4.up a3 oM;have d4:=c5.up a3 oM;have d5:=c6.up a3;have d6:=a9.low (base':=w.heap.size+3) oM;have d7:=D3 a7 a3;obtain⟨b2,d3⟩:=a9.shape;subst d3;clear p0 p1 p2 b9 c4 c5 a7 a3 c6 a9;obtain⟨⟨o0,o1,o2⟩,f0,f1,f2⟩:=d4.c3;obtain⟨⟨r0,r1,r2⟩,g0,g1,g2⟩:=d0.c3;have d8:=d0.other (q:=w.heap.size+2) (j:=2) (u:=Sy b2 x.nj.length x.nj.length) oM;go_wp2_with fail;refine Vr results77 underlying80 rfl Wm d8 rfl ?_;refine⟨⟨_,_,rfl,?_,?_⟩,Mr (J4 d7 oM _) oM _ _ _⟩
 .exact ((((d5.set oM).set oM).set oM).set oM).low oM
 .exact ((((d6.set oM).set oM).set oM).set oM).low oM
theorem Afd:(prog.info? 80).map (λi=>(i.zero,i.size,i.bytes))=some (some (.agg #[Ez,Nz,Nz]),3,64):=sI
theorem Ty(n:Nat)(hn:n<=1048576):∃C:Array Value,C.size=n*3/\∀w,(Instr.makeSlice 32 (Iz (n)) (Iz (n))).run prog w=.ok (Sy w.heap.size n n) (w.alloc (.cells C 80)):=by
 obtain⟨i,hi,hz⟩:=B6.1 Afd;simp at hz;obtain⟨hz,hs,hb⟩:=hz;refine⟨madeCells (Value.agg #[Ez,Nz,Nz]).cells _,size_madeCells _ _,λw=>?_⟩;have:=run_make w 32 80 i _ underlying32 hi hz .i64 .i64 n n oM oM (by grind) oM;grind
theorem TA(bs:List Ba)(v:Value)(w:World)(h:Bs w v bs)(hn:bs.length<=1048576)(hsm:∀y∈bs,y.has.length<=1048576/\y.nj.length<=1048576):
  Calls prog 40 #[v] w λe w'=>(∃u,e=.returned u/\Ea w' w.heap.size u bs)/\Up w w':=by
 obtain⟨a,c,rfl,hm,a4⟩:=h;obtain⟨C,hC,b3⟩:=Ty bs.length hn;have HC:Hid (C.size=bs.length*3):=hC;have Hm:Hid (bs.length<=maxLen):=hm;clear hC hm;go_in;go_wp2;(try dsimp only[Iz,Sy,Sx,Nz,Vz,Tz,Ez,Pz]);go_loopw [4] (λi w'=>∃k:Nat,k<=bs.length/\i=.int .i64 k/\DI w' w.heap.size (bs.take k)/\P7 w' w.heap.size 0 (bs.length*3)/\w.heap.size<w'.heap.size/\Up w w') (λi _=>bs.length-(intOf i).toNat)
 case atStart=>exact⟨0,oM,rfl,λi p hp=>by simp at hp,by rw[← HC.out];exact Bt _ _ _,dC,by go_grown⟩
 case round =>
  obtain⟨k,hk,rfl,a8,a9,a3,hB⟩:=hrel;have Hra:Hid (DI wr w.heap.size (bs.take k)):=a8;have Hth:Hid (P7 wr w.heap.size 0 (bs.length*3)):=a9;clear a8 a9;by_cases hp:k<bs.length
  .obtain⟨b,o,rfl,hS,hb⟩:=a4 oM;obtain⟨a1,d1,a2,d2,c0,c1,c2,l1,l2,z0⟩:=((hS.at hp).up hB hb).cells;obtain⟨s1,s2⟩:=hsm bs[k] dC;have HS:Hid (∀(w1:World)(hu nu:Value),DI w1 w.heap.size (bs.take k)->P7 w1 w.heap.size 0 (bs.length*3)->Y8 w1 (w.heap.size+1) hu (bs[k]).has->Y8 w1 (w.heap.size+1) nu (bs[k]).nj->DI _ w.heap.size (bs.take (k+1))):=λw1 hu nu g1 g2 g3 g4=>ZA hp g1 g2 g3 g4 z0;generalize bs[k]=x0 at *;go_wp2_with fail;refine (UK x0 _ _ _ l1 l2 s1 s2).mono ?_;rintro e w1 ⟨⟨hu,nu,rfl,a6,a7⟩,a0⟩;have HS1:Hid _:=HS.out w1 hu nu (Hra.out.up a0 a3) (P8 Hth.out a0 a3) (a6.low oM) (a7.low oM);have b0:=D3 hB a0;have a5:=A1 a3 a0.size;have Hth1:Hid (P7 w1 w.heap.size 0 (bs.length*3)):=P8 Hth.out a0 a3;obtain⟨b1,rfl⟩:=a6.shape;obtain⟨b2,rfl⟩:=a7.shape;clear c0 c1 c2 l1 l2 hS HS a6 a7 a0 hB Hra Hth
   go_wp2_with (refine wpList_store_mid rfl 80 _ _ rfl w.heap.size (k*3) _ rfl rfl (λj hj=>by
     have:=Hth1.out.1 (k*3+j) (by simp at hj;omega);simpa using this) Wm (by simp[Value.oneCell']) ?_)
   go_roundw
   case rel=>exact⟨k+1,oM,mO,HS1.out,Bc Hth1.out _ _ _,A1 a5 (BK _ _ _ _),X7 _ _ _ _ _ _ b0 (A3 _)⟩
   case measure=>simp[intOf];omega
  .go_wp2_with fail;go_ret;exact⟨⟨_,rfl,w.heap.size,rfl,by have:=Hra.out;rwa [D0 oM] at this,Hth.out,A3 _,a3,Hm.out⟩,hB⟩
theorem Ea.shape{bs:List Ba}(h:Ea w base v bs):∃b,v=Sy b bs.length bs.length:=by
 obtain⟨b,rfl,-⟩:=h;exact⟨b,rfl⟩
theorem MY.set(h:MY w b o x)(hr:r<b):MY (w.setCell ⟨r,j,none⟩ u) b o x:=by
 obtain⟨hv,nv,hg,h1,h2,h3⟩:=h;refine⟨hv,nv,λi v hi=>?_,h1.set oM,h2.set oM,h3⟩;rw[C1 _ _ _ _ (by grind)];exact hg i v hi
theorem Ea.set{bs:List Ba}(h:Ea w base v bs)(hr:r<base):Ea (w.setCell ⟨r,j,none⟩ u) base v bs:=by
 obtain⟨b,rfl,h1,ht,h0,h2,h3⟩:=h;exact⟨b,rfl,λi x hx=>(h1 i x hx).set oM,Sd ht (Au (Ax _ _) u) h2 gG,h0,by simpa using h2,h3⟩
theorem Ea.low{base' bs}(h:Ea w base v bs)(hb:base'<=base):Ea w base' v bs:=by
 obtain⟨b,rfl,h1,ht,h0,h2⟩:=h;exact⟨b,rfl,h1,ht,oM,h2⟩
theorem Yn(b:Bk)(v:Value)(w:World)(h:Z5 w v b)(hs:Qx b):
  Calls prog 16 #[v] w λe w'=>(∃u,e=.returned u/\BkO w' w.heap.size u b)/\Up w w':=by
 obtain⟨a1,c1,a2,c2,rfl,h1,h2⟩:=h.parts;obtain⟨g1,g2,g3⟩:=hs;go_in;go_upto_region 2 with fail;obtain⟨W1,a9,kP,kR,kO,a5,c4⟩:=cbE3 w [Vz a1 b.tg.length c1,Vz a2 b.bs.length c2] 25 [Nz,Nz] 34 [Nz,Nz] 34;try rw[a9]
 clear a9;obtain⟨⟨p0,p1⟩,-⟩:=kP.c2;go_wp2_with fail;refine (KC b.tg _ _ (h1.up a5) g1).mono ?_;rintro e w3 ⟨⟨tu,rfl,a4⟩,a0⟩;rw[c4] at a4;have d4:=a0.size;have b6:=kP.up a0 oM;have b7:=kR.up a0 oM;have a8:=kO.up a0 oM;have b8:=D3 a5 a0;obtain⟨b1,c5⟩:=a4.shape;subst c5;clear p0 p1 kP kR kO a5 a0;obtain⟨W4,b0,b3,b4,b5,a6,a7,d2⟩:∃W4,w3.setCell ⟨w.heap.size+2,0,none⟩ (Sy b1 b.tg.length b.tg.length)=W4/\CB W4 w.heap.size [Vz a1 b.tg.length c1,Vz a2 b.bs.length c2]/\CB W4 (w.heap.size+1) [Nz,Nz]/\CB W4 (w.heap.size+2) [Sy b1 b.tg.length b.tg.length,Nz]/\Y8 W4 (w.heap.size+3) (Sy b1 b.tg.length b.tg.length) b.tg/\Up w W4/\W4.heap.size=w3.heap.size:=⟨_,rfl,b6.other oM,b7.other oM,a8.set (j:=0) dC,a4.set oM,J4 b8 oM _,dC⟩;obtain⟨⟨o0,o1⟩,f0,f1⟩:=a8.c2;go_upto_region 3 with fail;try rw[b0]
 clear b0 o0 o1 f0 f1 b6 b7 a8 a4 b8;obtain⟨⟨p0,p1⟩,-⟩:=b3.c2;go_wp2_with fail;refine (TA b.bs _ _ (h2.up a7) g2 g3).mono ?_;rintro e w5 ⟨⟨nu,rfl,c3⟩,a3⟩;have d5:=a3.size;have b9:=b4.up a3 oM;have c7:=b5.up a3 oM;have c8:=a6.up a3
 have c9:b1<W4.heap.size:=by
  obtain⟨b',e,-,-,-,d3,-⟩:=a6;have:b1=b':=by simpa using e
  omega
 have d0:=D3 a7 a3;obtain⟨b2,c6⟩:=c3.shape;subst c6;clear p0 p1 b3 b4 b5 a7 a3 a6;obtain⟨⟨o0,o1⟩,f0,f1⟩:=c7.c2;obtain⟨⟨r0,r1⟩,g0,g1⟩:=b9.c2;have d1:=b9.other (q:=w.heap.size+2) (j:=1) (u:=Sy b2 b.bs.length b.bs.length) oM;go_wp2_with fail;refine AdI results16 underlying34 rfl Ag6 d1 rfl ?_;refine⟨⟨_,rfl,_,_,W4.heap.size,rfl,?_,?_,oM,λg hg=>?_⟩,Ws (J4 d0 oM _) oM _ _⟩
 .exact (((c8.set oM).set oM).set oM).low oM
 .exact (((c3.set oM).set oM).set oM)
 .simp[Value.ownBlock] at hg;omega
theorem UL(x:Ba)(hv nv hu nu:Value)(w:World)(h1:Ls w hv x.has)(h2:Ls w nv x.nj)(h3:Ls w hu x.has)(h4:Ls w nu x.nj):
  cU prog 116 #[.agg #[Tz x.nm,hv,nv],.agg #[Tz x.nm,hu,nu]] w (.bool true):=by
 obtain⟨a1,c1,rfl,-⟩:=id h1;obtain⟨a2,c2,rfl,-⟩:=id h2;obtain⟨a3,c3,rfl,-⟩:=id h3;obtain⟨a4,c4,rfl,-⟩:=id h4;delta cU;go_in;go_upto_region 1 with fail;obtain⟨W1,a7,kP,kR,a0,b2⟩:=cbE2 w [Tz x.nm,Vz a1 x.has.length c1,Vz a2 x.nj.length c2] 80 [Tz x.nm,Vz a3 x.has.length c3,Vz a4 x.nj.length c4] 80;try rw[a7]
 clear a7;obtain⟨⟨p0,p1,p2⟩,-⟩:=kP.c3;obtain⟨⟨r0,r1,r2⟩,-⟩:=kR.c3;go_wp2_with fail;refine (Mm x.has _ _ _ (h1.up a0) (h3.up a0)).mono ?_;rintro e w2 ⟨rfl,a6⟩;have a8:=kP.up a6 oM;have a9:=kR.up a6 oM;have a5:=D3 a0 a6;obtain⟨⟨p0,p1,p2⟩,-⟩:=a8.c3;obtain⟨⟨r0,r1,r2⟩,-⟩:=a9.c3;go_wp2_with fail;refine (Mm x.nj _ _ _ (h2.up a5) (h4.up a5)).mono ?_;rintro e w3 ⟨rfl,b1⟩;have b0:=D3 a5 b1;go_wp2_with fail;go_ret;exact⟨rfl,b0⟩
theorem TB(bs:List Ba)(va vb:Value)(w:World)(ha:Bs w va bs)(hb:Bs w vb bs):
  cU prog 62 #[va,vb] w (.bool true):=by
 obtain⟨a1,c1,rfl,hn,a0⟩:=ha;obtain⟨a2,c2,rfl,-,a7⟩:=hb;unfold maxLen at hn;delta cU;go_in;go_wp2;go_loopw [5] (λi w'=>∃k:Nat,k<=bs.length/\i=.int .i64 k/\Up w w') (λi _=>bs.length-(intOf i).toNat)
 case atStart=>exact⟨0,oM,rfl,A4 _ _⟩
 case round =>
  obtain⟨k,hk,rfl,hB⟩:=hrel;by_cases hp:k<bs.length
  .obtain⟨g1,o1,rfl,a8,a9⟩:=a0 oM;obtain⟨g2,o2,rfl,b0,b1⟩:=a7 oM;obtain⟨a3,d3,a4,d4,c3,c4,c5,l3,l4,-⟩:=((a8.at hp).up hB a9).cells;obtain⟨a5,d5,a6,d6,e3,e4,e5,l5,l6,-⟩:=((b0.at hp).up hB b1).cells;have HQ:Hid (∀W,Ls W (Vz a3 (bs[k]).has.length d3) (bs[k]).has->Ls W (Vz a4 (bs[k]).nj.length d4) (bs[k]).nj->Ls W (Vz a5 (bs[k]).has.length d5) (bs[k]).has->Ls W (Vz a6 (bs[k]).nj.length d6) (bs[k]).nj->Calls prog 116 #[.agg #[Tz (bs[k]).nm,Vz a3 (bs[k]).has.length d3,Vz a4 (bs[k]).nj.length d4],.agg #[Tz (bs[k]).nm,Vz a5 (bs[k]).has.length d5,Vz a6 (bs[k]).nj.length d6]] W λe w'=>e=.returned (.bool true)/\Up W w'):=λW q1 q2 q3 q4=>UL bs[k] _ _ _ _ W q1 q2 q3 q4;generalize bs[k]=x0 at *;go_wp2_with fail;go_region_with (go_at_call 116;refine (HQ.out _ (by exact l3) (by exact l4) (by exact l5) (by exact l6)).mono ?_;rintro e w1 ⟨rfl,b3⟩)
   all_goals
    have b2:=D3 hB.drew b3;clear c3 c4 c5 e3 e4 e5;go_wp2_with fail;go_roundw
    case rel=>exact⟨k+1,oM,mO,b2⟩
    case measure=>simp[intOf];omega
  .go_wp2_with fail;go_ret;exact⟨rfl,hB⟩
theorem Yo(b)(va vb)(w:World)(ha:Z5 w va b)(hb:Z5 w vb b):
  cU prog 24 #[va,vb] w (.bool true):=by
 obtain⟨a1,c1,a2,c2,rfl,h1,h2⟩:=ha.parts;obtain⟨a3,c3,a4,c4,rfl,h3,h4⟩:=hb.parts;delta cU;go_in;go_upto_region 1 with fail;obtain⟨W1,a7,kP,kR,a0,b2⟩:=cbE2 w [Vz a1 b.tg.length c1,Vz a2 b.bs.length c2] 34 [Vz a3 b.tg.length c3,Vz a4 b.bs.length c4] 34;try rw[a7]
 clear a7;obtain⟨⟨p0,p1⟩,-⟩:=kP.c2;obtain⟨⟨r0,r1⟩,-⟩:=kR.c2;go_wp2_with fail;refine (Mm b.tg _ _ _ (h1.up a0) (h3.up a0)).mono ?_;rintro e w2 ⟨rfl,a6⟩;have a8:=kP.up a6 oM;have a9:=kR.up a6 oM;have a5:=D3 a0 a6;obtain⟨⟨p0,p1⟩,-⟩:=a8.c2;obtain⟨⟨r0,r1⟩,-⟩:=a9.c2;go_wp2_with fail;refine (TB b.bs _ _ _ (h2.up a5) (h4.up a5)).mono ?_;rintro e w3 ⟨rfl,b1⟩;have b0:=D3 a5 b1;go_wp2_with fail;go_ret;exact⟨rfl,b0⟩
end
namespace Bd
open Go.Conc Go.ConcN Go.RowKit Go.Conc.Lib Go.ConcR.Gen Go.ConcN.Gen
open Ld (I8 none_ tp)
noncomputable def t10:Code:=.seq (.region 10 (E0 X5 10) false) .ret
noncomputable def t59:Code:=.seq (.region 5 (E0 X5 5) false) (.block 0 (.loop lpB))
noncomputable def t5:Code:=.seq t59 t10
noncomputable def t4:Code:=.seq (.region 4 (E0 X5 4) false) t5
noncomputable def t3:Code:=.seq (.region 3 (E0 X5 3) false) t4
noncomputable def Wn:Code:=.cond (.tmp 8) (.seq (.region 2 (E0 X5 2) false) .ret) .skip
section
variable {T:Array Value} {cs:List Frame} {k:List Item}
end
theorem Afe(hv:Value):Frame.enter prog 7 #[hv] .normal=ff 7 (#[hv]++Array.replicate 31 undef) [.code X5]:=sI
section
variable {h:House} {a1 a2 a3 a4:Option Addr} {c1 c2 c3 c4:Nat} {W:World} {V:Nat->Prop} {Post:Value->World->Prop} {c:Frame} {cs:List Frame} {gs:Array Goroutine} {sl:Option (Nat×Nat)} {t:Trace}
theorem TC(hn:NV W)(hE:F6 (z W))(H:HV (z W) h (Vz a1 h.sh.tg.length c1) (Vz a2 h.sh.bs.length c2) (Vz a3 h.bs.length c3) (Vz a4 h.ds.length c4))(hh:F0 prog none_ gs (G (Frame.enter prog 7 #[.agg (Hcz h a1 c1 a2 c2 a3 c3 a4 c4).toArray] .normal) (c::cs)) t)
  (kk:∀gs' V' sl' t' T',F0 prog none_ gs' (G (ff 7 T' [.inRegion (E0 X5 1) [],.code Wn,.code t3]) (c::cs)) t'->Has 32 T' [(8,.bool !pB (F2 h)),(1,Pz W.heap.size 0)]->Lw W V'->V'.heap[W.heap.size]?=some (.cells (Hcz h a1 c1 a2 c2 a3 c3 a4 c4).toArray 38 (0,0))->D9 prog Post (crowd gs' V' sl') t'):D9 prog Post (crowd gs W sl) t:=by
 rw[Afe] at hh;have hT:Has 32 (#[Value.agg (Hcz h a1 c1 a2 c2 a3 c3 a4 c4).toArray]++Array.replicate 31 undef) [(0,.agg (Hcz h a1 c1 a2 c2 a3 c3 a4 c4).toArray)]:=⟨dC,λp hp=>by simp at hp;subst hp;simp⟩;refine Agv 8 [.inRegion (E0 X5 1) [0,1,2],.code Wn,.code t3] [(2,Ez),(1,Pz W.heap.size 0),(0,.agg (Hcz h a1 c1 a2 c2 a3 c3 a4 c4).toArray)] [.cells (Hcz h a1 c1 a2 c2 a3 c3 a4 c4).toArray 38] hh hT (.refl hn) λgs sl t W1 T hh hT k1 hz _ hg=>?_;have a0:=hg 0 _ rfl;have a5:W.heap.size<W1.heap.size:=by rw[hz];exact Nat.lt_succ_self _
 refine CD 38 1 6 hh hT a0 λgs sl t d4 T hh hT=>?_;refine CC 19 [6] #[38] 7 hh hT (λx=>We k1.nv (k1.ends hE _ _) (k1.hv H _ _)) λgs w2 sl t v T hh hT hn2 hR hB=>?_;subst hR;have k2:=(k1.at d4).call hn2 hB;have a6:=(AE hB a5).trans a0;refine F4 (.unOp .not 4 _) 8 hh hT (λ_ e x=>Yc _ x e (hT.ei 7)) λgs sl t d5 T hh hT=>?_;exact kk gs _ sl t T hh (hT.sub dC) (k2.at _) a6
theorem AcM(hn:NV W)(hE:F6 (z W))(H:HV (z W) h (Vz a1 h.sh.tg.length c1) (Vz a2 h.sh.bs.length c2) (Vz a3 h.bs.length c3) (Vz a4 h.ds.length c4))(hok:¬F2 h):I8 prog 7 #[.agg (Hcz h a1 c1 a2 c2 a3 c3 a4 c4).toArray] W λv _=>v=Ez:=by
 intro Post c cs gs sl t hh kk;refine TC hn hE H hh λgs w2 sl t T hh hT k2 hH2=>?_;rw[F3 hok] at hT;refine E8 (CA (l':=[.inRegion (E0 X5 2) [0],.code .ret,.code t3]) (hT.gi 8) 4 sI) hh λgs sl t d0 hh=>?_;refine F4 (.assign (.const Ez)) 2 hh (hT.sub (l':=[]) dC) (λ_ e x=>S5 _ _ e) λgs sl t d1 T hh hT=>?_;refine E8 (Dv func7 results7 (hT.gi 2)) hh λgs sl t d2 hh=>?_;exact kk gs _ sl t _ hh k2.nv λτ d=>⟨rfl,k2.bl τ d⟩
theorem AcN(hn:NV W)(hE:F6 (z W))(H:KQ W V h (Vz a1 h.sh.tg.length c1) (Vz a2 h.sh.bs.length c2) (Vz a3 h.bs.length c3) (Vz a4 h.ds.length c4))(hok:F2 h)(hh:F0 prog none_ gs (G (Frame.enter prog 7 #[.agg (Hcz h a1 c1 a2 c2 a3 c3 a4 c4).toArray] .normal) (c::cs)) t)
  (kk:∀gs' W1 V' sl' t' T' Lb Sb,F0 prog (λl=>none_ l\/ShN (W1.heap.size+3) l) gs' (G (ff 7 T' [.inRegion (E0 X5 4) [3,4],.code t5]) (c::cs)) t'->Has 32 T' [(14,Sy Lb h.bs.length h.bs.length),(12,Sy Sb 1 1),(1,Pz W.heap.size 0)]->Lw W W1->W.heap.size<Sb->Sb<W1.heap.size->
   W1.heap[W.heap.size]?=some (.cells (Hcz h a1 c1 a2 c2 a3 c3 a4 c4).toArray 38 (0,0))->W1.heap[Sb]?=some (.cells #[Tz (L9 h)] 9 (0,0))->Ny W1 V' h.bs.length (Lp h) Lb []->D9 prog Post (crowd gs' V' sl') t'):D9 prog Post (crowd gs W sl) t:=by
 obtain⟨H0,hP⟩:=H.see (z W) (EQ rfl H.self);refine TC hn hE H0 hh λgs w2 sl t T hh hT k2 hH2=>?_;rw[G7.2 hok] at hT;refine E8 (CA (l':=[.inRegion (E0 X5 3) [0,1,2,3],.code t4]) (hT.gi 8) 5 sI) hh λgs sl t d0 hh=>?_;replace hT:=hT.sub (l':=[(1,Pz W.heap.size 0)]) dC;refine CD 38 1 9 hh hT hH2 λgs sl t d1 T hh hT=>?_;have a6:=(D1.1 hH2).1;refine CC 20 [9] #[38] 10 hh hT (λx=>Ag5 k2.nv (k2.ends hE _ _) (Lib.tabBelow_of_tabIs hP _ k2.up) (k2.hv H0 _ _) hok (by have:=hok.1.1;have:=hok.1.2.1;omega)) λgs w3 sl t v T hh hT hn3 hR hB3=>?_;subst hR;have k3:Lw W w3:=(k2.at d1).call hn3 hB3;have a7:=(AE hB3 a6).trans hH2;have a0:=(D1.1 a7).1;refine Agv 6 [.inRegion (E0 X5 4) [1,2,3,4],.code t5] [(12,Sy w3.heap.size 1 1),(3,Sy w3.heap.size 1 1),(11,Sy w3.heap.size 1 1),(10,Tz (L9 h)),(9,.agg (Hcz h a1 c1 a2 c2 a3 c3 a4 c4).toArray),(1,Pz W.heap.size 0)] [.cells #[Tz (L9 h)] 9 (0,0)] hh hT k3 λgs sl t w4 T hh hT k4 hz hold hg=>?_;have a8:=hg 0 _ rfl;have a9:=(hold _ a0).trans a7;have a5:w3.heap.size<w4.heap.size:=by rw[hz];exact Nat.lt_succ_self _
 clear hz hold hg;generalize w3.heap.size=Sb at hT a8 a0 a5;refine CD 38 1 13 hh hT a9 λgs sl t d7 T hh hT=>?_;refine NA (d:=some 14) (.call {callee:=.value (.func 21),args:=#[.tmp 13],argTypes:=#[38]}) hh (λ_ e w=>Dw _ e rfl (by simp only[List.map_toArray,List.map_cons,List.map_nil];rw[hT.ei 13]) func21 sI sI w) λgs sl t d8 hf hh=>?_;obtain⟨b3,bb,oo,b0,b1⟩:=(H.up ((k4.at d7).at d8)).hse k4.nv hok;refine Ac2 rfl b0 b1 hh λgs V' sl t Lb hh hB=>?_;rw[hf] at hh;have b2:=hT.put 14 (Sy Lb h.bs.length h.bs.length) aS dC;exact kk gs _ V' sl t _ Lb Sb hh (b2.sub dC) ((k4.at d7).at d8) a0 a5 a9 a8 hB
end
end Bd
end Go.Proofs.YtaffjphkobhagaaGreatDoor
