/- The laws' marks over a house of one's own: written, and held. -/
import Derived.Test.YtgecdacgmehmbaaGreatDoorJ48
import Derived.Test.YtgecdacgmehmbaaGreatDoorJ33
import Derived.Test.YtgecdacgmehmbaaGreatDoorJ38
import Derived.Test.YtgecdacgmehmbaaGreatDoorJ47
import Derived.Test.YtgecdacgmehmbaaGreatDoorJ44
import Derived.Test.YtgecdacgmehmbaaGreatDoorJ39
import Derived.Defers
import Derived.Test.YtgecdacgmehmbaaGreatDoorJ36
import Derived.Test.YtgecdacgmehmbaaGreatDoorJ10
set_option maxRecDepth 20000
set_option maxHeartbeats 8000000
namespace Go.Proofs.YtgecdacgmehmbaaGreatDoor
open Go.RowKit
def mkDs (m:Int) (n:Nat):List Done:=(List.range n).map λ(i:Nat)=>mkDn (m+3*i)
theorem AaX (m:Int) (n:Nat):(mkDs m n).length=n:=by simp[mkDs]
theorem Adt (m:Int) (n:Nat):MarkedD (mkDs m n) m n:=λi hi=>by simp[mkDs,hi]
theorem AhR {ys:List Done} {m:Int} {n:Nat} (hl:ys.length=n) (h:MarkedD ys m n):ys=mkDs m n:=by
 refine List.ext_getElem? λi=>?_;by_cases hi:i<n
 ·rw[h i hi];exact (Adt m n i hi).symm
 ·rw[C6 (by omega),C6 (by rw[AaX];omega)]
def mkH (h:House):House:=⟨h.now,h.last,mkBk h.sh,mkA mkRb szRb (mkEnd h.sh) h.bs,mkDs (mkEnd h.sh+szA szRb h.bs) h.ds.length⟩
def endH (h:House):Int:=mkEnd h.sh+szA szRb h.bs+3*h.ds.length
structure LitH (h:House):Prop where
 k:Lit h.sh
 n:h.bs.length<=100
 x:∀x∈h.bs,x.ps.length<=100/\x.sl.length<=100
 d:h.ds.length<=100
structure HQ (w:World) (base:Nat) (h:House) (tv bv xv dv:Value):Prop where
 k:BkF w base (.agg #[tv,bv]) h.sh
 x:∃ps,RbsQ w base xv ps/\ps.map (·.1)=h.bs
 d:w.ownsRow base 124 3 dv h.ds.length (rowsF Done.cells h.ds)
theorem HP.q {w:World} {base:Nat} {h:House} {tv bv xv dv:Value} (H:HP w base h tv bv xv dv):HQ w base h tv bv xv dv:=⟨H.k,H.x.imp λ_ x=>⟨x.1.q,x.2⟩,H.d.1⟩
theorem HQ.up {w w':World} {base:Nat} {h:House} {tv bv xv dv:Value} (H:HQ w base h tv bv xv dv) (hb:Below w.heap.size w w'):HQ w' base h tv bv xv dv:=⟨H.k.up hb,H.x.imp λ_ x=>⟨x.1.up hb,x.2⟩,E0 H.d hb⟩
theorem HQ.shapes {w:World} {base:Nat} {h:House} {tv bv xv dv:Value} (H:HQ w base h tv bv xv dv):∃a1 c1 a2 c2 a3 c3 a4 c4,tv=.slice a1 h.sh.things.length c1/\bv=.slice a2 h.sh.bs.length c2/\xv=.slice a3 h.bs.length c3/\dv=.slice a4 h.ds.length c4:=by
 obtain⟨a1,c1,a2,c2,e⟩:=H.k.shape;obtain⟨ps,h1,h2⟩:=H.x;obtain⟨a3,c3,e3⟩:=E9 h1.m;obtain⟨a4,c4,e4⟩:=E9 H.d;simp at e;rw[show ps.length=h.bs.length by rw[← h2,B3]] at e3;exact⟨a1,c1,a2,c2,a3,c3,a4,c4,e.1,e.2,e3,e4⟩
theorem Fam.kp {T:List Nat} {w w':World} {B:Nat} {q:Option Nat} {fs:List (Value×List ByteArray)} (h:Fam w B q fs) (hk:KpT T w w') (h1:9∉T):Fam w' B q fs:=⟨λf hf=>hk _ _ _ _ _ _ h1 (h.own f hf),h.ap,h.av⟩
theorem BkF.kp {T:List Nat} {w w':World} {base:Nat} {v:Value} {b:Bk} (h:BkF w base v b) (hk:KpT T w w') (h1:9∉T) (h2:118∉T):BkF w' base v b:=by
 obtain⟨a1,c1,a2,c2,ps,rfl,hB,hm,hF⟩:=h;exact⟨a1,c1,a2,c2,ps,rfl,⟨hk _ _ _ _ _ _ h2 hB.1,λp hp=>⟨hk _ _ _ _ _ _ h1 (hB.2 p hp).1,hk _ _ _ _ _ _ h1 (hB.2 p hp).2.1,(hB.2 p hp).2.2⟩⟩,hm,hF.kp hk h1⟩
theorem Af4 (h:House) (base:Nat) (tv bv xv dv:Value) (w:World) (H:HQ w base h tv bv xv dv) (hl:LitH h) (hz:base<=w.heap.size) :
  Calls Tryz.prog 15 #[.agg #[.int .i64 h.now,.int .i64 h.last,tv,bv,xv,dv],.int .i64 1] w λe w'=>e=.returned (.int .i64 (endH h))/\HQ w' base (mkH h) tv bv xv dv/\Below base w w'/\KpT [9,118,71,73,81,124] w w':=by
 obtain⟨a1,c1,a2,c2,a3,c3,a4,c4,rfl,rfl,rfl,rfl⟩:=H.shapes;obtain⟨lk,ln,lx,ld⟩:=hl;have Hlid:Hid ((szBas h.sh.bs<=201*h.sh.bs.length)/\szA szRb h.bs<=1004*h.bs.length):=⟨Aa2 h.sh.bs lk.2.2,AeI 1004 _ λx hx=>by have:=lx x hx;simp only[szRb];omega⟩;have Hme:Hid (mkEnd h.sh=1+h.sh.things.length+szBas h.sh.bs):=rfl;obtain⟨ps,hps,hpm⟩:=H.x;obtain⟨W1,hW1,kA,hB1,hs1⟩:∃W1,w.alloc (.cells #[.int .i64 h.now,.int .i64 h.last,.slice a1 h.sh.things.length c1,.slice a2 h.sh.bs.length c2,.slice a3 h.bs.length c3,.slice a4 h.ds.length c4] 41)=W1/\W1.ownsRow w.heap.size 41 6 (.slice (some ⟨w.heap.size,0,none⟩) 1 1) 1 [.int .i64 h.now,.int .i64 h.last,.slice a1 h.sh.things.length c1,.slice a2 h.sh.bs.length c2,.slice a3 h.bs.length c3,.slice a4 h.ds.length c4]/\Below w.heap.size w W1/\W1.heap.size=w.heap.size+1:=⟨_,rfl,B8 w _ 1 (A3 _) (by unfold maxLen;omega) rfl,(A4 _ _).alloc (A3 _) _,by simp⟩;have hk1:=(H.k.off (A3 _)).up hB1;have hx1:=hps.up hB1;have hd1:=E0 H.d hB1;have hBB1:Below base w W1:=(A4 base w).trans (hB1.mono hz);have HK1:Hid (KpT [9,118,71,73,81,124] w W1):=(KpT.refl _ _).up hB1;have hm9:mkEnd h.sh<=30000:=by have:=Hlid.out.1;have:=lk.1;have:=lk.2.1;rw[Hme.out];omega
 have hm1:1<=mkEnd h.sh:=by rw[Hme.out];omega
 clear H hps hB1;go_enter Tryz.func15,Tryz.ntmps15
 go_upto_region 1 with fail
 try rw[hW1]
 clear hW1;obtain⟨e0,e1,e2,e3,e4,e5⟩:=(D8 kA).c6;go_wp2_with fail
 refine (Aj2 h.sh base _ W1 w.heap.size (by omega) hk1 lk (by omega)).mono ?_;rintro e w2 ⟨rfl,hk2,hb2,-,hp2⟩;have hz2:=hb2.size;have kA2:=hp2 _ _ _ _ _ _ (by decide) kA;have hx2:=hx1.kp hp2 (by decide) (by decide) (by decide);have hd2:=hp2 _ _ _ _ _ _ (by decide) hd1;have hBB2:=hBB1.trans hb2;have HK2:Hid (KpT [9,118,71,73,81,124] w w2):=HK1.out.trans (hp2.more (by decide));clear e0 e1 e2 e3 e4 e5 kA hx1 hd1 hBB1 hb2 hp2 hk1 HK1;obtain⟨e0,e1,e2,e3,e4,e5⟩:=(D8 kA2).c6;go_wp2_with fail
 refine (AhP h.bs base _ ps (mkEnd h.sh) w2 hx2 hpm (by omega) ln lx hm1 (by omega)).mono ?_;rintro e w3 ⟨rfl,⟨qs,hx3,hq3⟩,hb3,hp3⟩;have hz3:=hb3.size;have kA3:=hp3 _ _ _ _ _ _ (by decide) kA2;have hk3:=hk2.free.kp hp3 (by decide) (by decide);have hd3:=hp3 _ _ _ _ _ _ (by decide) hd2;have hBB3:=hBB2.trans hb3;have HK3:Hid (KpT [9,118,71,73,81,124] w w3):=HK2.out.trans (hp3.more (by decide));clear e0 e1 e2 e3 e4 e5 kA2 hx2 hd2 hBB2 hb3 hp3 hk2 HK2;obtain⟨e0,e1,e2,e3,e4,e5⟩:=(D8 kA3).c6;have hs9:=Hlid.out.2;go_wp2_with fail
 refine (Ajs h.ds base _ (mkEnd h.sh+szA szRb h.bs) w3 hd3 (by omega) (by omega) (by omega)).mono ?_;rintro e w4 ⟨rfl,⟨ys,hyl,hym,hoy⟩,hg4⟩;obtain rfl:=AhR hyl hym;have hp4:KpT [124] w3 w4:=(KpT.refl _ _).gr hd3 (by decide) hg4;have hk4:=hk3.kp hp4 (by decide) (by decide);have hx4:=hx3.kp hp4 (by decide) (by decide) (by decide);have hBB4:=F5 hBB3 (by omega) hd3 hg4 (A3 _);have HK4:Hid (KpT [9,118,71,73,81,124] w w4):=HK3.out.trans (hp4.more (by decide));have HQ4:Hid (HQ w4 base (mkH h) (.slice a1 h.sh.things.length c1) (.slice a2 h.sh.bs.length c2) (.slice a3 h.bs.length c3) (.slice a4 h.ds.length c4)):=⟨hk4,⟨qs,hx4,hq3⟩,hoy⟩;clear e0 e1 e2 e3 e4 e5 kA3 hx3 hd3 hBB3 hp4 hk3 HK3 hyl hym hoy hg4 hk4 hx4;go_wp2_with fail
 go_ret
 exact⟨rfl,HQ4.out,hBB4,HK4.out⟩
theorem Acu (h:House) (base:Nat) (tv bv xv dv:Value) (w:World) (H:HQ w base (mkH h) tv bv xv dv) (hl:LitH h) :
  Calls Tryz.prog 18 #[.agg #[.int .i64 h.now,.int .i64 h.last,tv,bv,xv,dv],.int .i64 1] w λe w'=>e=.returned (.int .i64 (endH h))/\Below w.heap.size w w':=by
 obtain⟨a1,c1,a2,c2,a3,c3,a4,c4,e1,e2,e3,e4⟩:=H.shapes;rw[show (mkH h).sh.things.length=h.sh.things.length from M5 _ _] at e1;rw[show (mkH h).sh.bs.length=h.sh.bs.length from L7 _ _] at e2;rw[show (mkH h).bs.length=h.bs.length from Z0 _ _] at e3;rw[show (mkH h).ds.length=h.ds.length from AaX _ _] at e4;subst e1 e2 e3 e4;obtain⟨lk,ln,lx,ld⟩:=hl;have Hlid:Hid ((szBas h.sh.bs<=201*h.sh.bs.length)/\szA szRb h.bs<=1004*h.bs.length):=⟨Aa2 h.sh.bs lk.2.2,AeI 1004 _ λx hx=>by have:=lx x hx;simp only[szRb];omega⟩;have Hme:Hid (mkEnd h.sh=1+h.sh.things.length+szBas h.sh.bs):=rfl;obtain⟨ps,hps,hpm⟩:=H.x;obtain⟨W1,hW1,kA,hB1,hs1⟩:=K6 w [.int .i64 h.now,.int .i64 h.last,.slice a1 h.sh.things.length c1,.slice a2 h.sh.bs.length c2,.slice a3 h.bs.length c3,.slice a4 h.ds.length c4] 41;have hk:BkF w base (.agg #[.slice a1 h.sh.things.length c1,.slice a2 h.sh.bs.length c2]) (mkBk h.sh):=H.k;have hd:w.ownsRow base 124 3 (.slice a4 h.ds.length c4) (mkDs (mkEnd h.sh+szA szRb h.bs) h.ds.length).length (rowsF Done.cells (mkDs (mkEnd h.sh+szA szRb h.bs) h.ds.length)):=H.d;have hpm:ps.map (·.1)=mkA mkRb szRb (mkEnd h.sh) h.bs:=hpm;have hm9:mkEnd h.sh<=30000:=by have:=Hlid.out.1;have:=lk.1;have:=lk.2.1;rw[Hme.out];omega
 have hm1:1<=mkEnd h.sh:=by rw[Hme.out];omega
 clear H;go_enter Tryz.func18,Tryz.ntmps18
 go_upto_region 1 with fail
 try rw[hW1]
 clear hW1;obtain⟨e0,e1,e2,e3,e4,e5⟩:=kA.c6;go_wp2_with fail
 refine (Af2 h.sh base _ W1 (hk.up hB1) lk).mono ?_;rintro e w2 ⟨rfl,hb2⟩;have hB2:=D5 hB1 hb2;have kA2:=kA.up hb2 (by omega);have hz2:=hb2.size;clear e0 e1 e2 e3 e4 e5 kA hB1 hb2;obtain⟨e0,e1,e2,e3,e4,e5⟩:=kA2.c6;have hn1:¬(mkEnd h.sh<0):=by omega
 go_wp2_with fail
 refine (AhQ h.bs base _ ps (mkEnd h.sh) w2 (hps.up hB2) hpm ln lx hm1 (by omega)).mono ?_;rintro e w3 ⟨rfl,hb3⟩;have hB3:=D5 hB2 hb3;have kA3:=kA2.up hb3 (by omega);clear e0 e1 e2 e3 e4 e5 kA2 hB2 hb3;obtain⟨e0,e1,e2,e3,e4,e5⟩:=kA3.c6;have hs9:=Hlid.out.2;have hn2:¬(mkEnd h.sh+(szA szRb h.bs:Int)<0):=by omega
 go_wp2_with fail
 refine (Ajt (mkDs (mkEnd h.sh+szA szRb h.bs) h.ds.length) base _ (mkEnd h.sh+szA szRb h.bs) w3 (E0 hd hB3) (by rw[AaX];exact Adt _ _) (by rw[AaX];omega) (by omega) (by omega)).mono ?_;rw[AaX];rintro e w4 ⟨rfl,hb4⟩;have hB4:=D5 hB3 hb4;clear e0 e1 e2 e3 e4 e5 kA3 hB3 hb4;have hn3:¬(mkEnd h.sh+(szA szRb h.bs:Int)+3*(h.ds.length:Int)<0):=by omega
 go_wp2_with fail
 go_ret
 exact⟨rfl,hB4⟩
noncomputable def askC (b:Bk) (nm:ByteArray) (ls:List ByteArray):Int:=askedC b (askR b nm ls)
noncomputable def askB (b:Bk) (nm:ByteArray) (ls:List ByteArray):Bk:=askedB b (askR b nm ls) (chg b (plN b nm) (askF ls))
theorem Anr {b b':Bk} {nm:ByteArray} {ls:List ByteArray} {cd:Int} (h:AskIs b nm ls cd b'):cd=askC b nm ls/\b'=askB b nm ls:=ask_is h
theorem Am4 {b:Bk} {nm:ByteArray} {ls:List ByteArray} (h:Szb b) (hn:∀s∈ls,s.size<=maxLen):Szb (askB b nm ls):=by
 unfold askB askedB;split
 ·exact AbG
 ·split
  ·exact Ai2 h hn
  ·exact h
theorem AdM (b:Bk) (v:Value) (nm:ByteArray) (lv:Value) (ls:List ByteArray) (w:World) (h:BkV w v b) (hl:Ls w lv ls) (hg:ErrT w) :
  Calls Tryz.prog 126 #[v,.string nm,lv] w λe w'=>(∃u,e=.returned (.tuple #[u,.int .i64 (askC b nm ls)])/\BkF w' w.heap.size u (askB b nm ls))/\Below w.heap.size w w':=by
 have hA:∀W,Below w.heap.size w W->Calls Tryz.prog 121 #[v,.iface 222 (.agg #[.string nm,lv])] W λe w'=>(∃u,e=.returned (.tuple #[u,.int .i64 (askC b nm ls)])/\BkF w' W.heap.size u (askB b nm ls))/\Below W.heap.size W w':=λW hW=>by
  refine Aen b v nm _ _ (askC b nm ls) (askB b nm ls) W (h.up hW) (hg.up hW) λX hX=>?_;unfold askC askB
  exact Aiq b v nm _ _ 264 (askR b nm ls) _ X ((h.up hW).up hX) (λn w=>Aio n _ _ w) (λn w=>AmV n _ _ w) ru_A
   (λhok Y hY=>AjG b v nm lv ls Y (((h.up hW).up hX).up hY) hok (((hl.up hW).up hX).up hY))
   (λhok hc Y hY=>Ads b v nm lv ls Y (((h.up hW).up hX).up hY) (((hl.up hW).up hX).up hY) (by have:=Ag7 hok (AcP hc);omega) hok (AeC (AcP hc)) (Aem (AcP hc)))
 obtain⟨a1,c1,a2,c2,rfl,-,-⟩:=h.parts;obtain⟨la,lc,rfl,-⟩:=id hl;have HA:Hid (∀W,Below w.heap.size w W->Calls Tryz.prog 121 #[.agg #[.slice a1 b.things.length c1,.slice a2 b.bs.length c2],.iface 222 (.agg #[.string nm,.slice la ls.length lc])] W λe w'=>(∃u,e=.returned (.tuple #[u,.int .i64 (askC b nm ls)])/\BkF w' W.heap.size u (askB b nm ls))/\Below W.heap.size W w'):=hA;clear hA h hg hl;obtain⟨W1,hW1,kA,kR,hB1,hs1⟩:=L8 w [.slice a1 (b).things.length c1,.slice a2 (b).bs.length c2] 37 [.slice none 0 0,.slice none 0 0] 37;go_enter Tryz.func126,Tryz.ntmps126
 go_upto_region 1 with fail
 try rw[hW1]
 clear hW1;obtain⟨e0,e1⟩:=kA.c2';go_wp2_with fail
 refine (HA.out _ hB1).mono ?_;rintro e w2 ⟨⟨u,rfl,hu⟩,hb2⟩;have kR2:=kR.up hb2 (by omega);have hB2:=D5 hB1 hb2;obtain⟨i1,j1,i2,j2,rfl⟩:=hu.shape;clear e0 e1 kA kR hB1 hb2 HA;obtain⟨⟨y0,y1⟩,q0,q1⟩:=kR2.c2;go_wp2_with fail
 refine J1 Tryz.results126 Tryz.underlying37 rfl I9 kR2 rfl rfl ?_;exact⟨⟨_,rfl,((hu.set (by omega)).set (by omega)).low (by omega)⟩,G3 hB2 (Nat.le_succ _) _ _⟩
noncomputable def askH (h:House) (k:Nat):House:=match h.bs[k]? with
 | none=>h
 | some x=>if 0<=x.si then h else if askC h.sh x.nm (rbOwn x)=0 then {h with sh:=askB h.sh x.nm (rbOwn x),bs:=h.bs.set k {x with si:=0}} else h
noncomputable def asksH (h:House):Nat->House
 | 0=>h
 | k+1=>askH (asksH h k) k
theorem Add {h:House} {k:Nat} {x:Rb} (hx:h.bs[k]?=some x):askH h k=if 0<=x.si then h else if askC h.sh x.nm (rbOwn x)=0 then {h with sh:=askB h.sh x.nm (rbOwn x),bs:=h.bs.set k {x with si:=0}} else h:=by unfold askH;rw[hx]
theorem AskAt.is {h h':House} {k:Nat} (H:AskAt h k h'):h'=askH h k:=by
 obtain⟨x,hx,⟨h0,rfl⟩|⟨h0,cd,b',ha,hc⟩⟩:=H
 ·rw[Add hx,if_pos h0]
 ·obtain⟨rfl,rfl⟩:=Anr ha
  rw[Add hx,if_neg (by omega)];rcases hc with⟨hc,rfl⟩|⟨hc,rfl⟩
  ·rw[if_neg hc]
  ·rw[if_pos hc]
theorem AsksTo.is {h:House}:∀{k:Nat} {h':House},AsksTo h k h'->h'=asksH h k
 | 0,_,e=>e
 | k+1,_,⟨m,hm,ha⟩=>by obtain rfl:=AsksTo.is hm;exact ha.is
theorem Alt (h:House) (k:Nat):(askH h k).now=h.now/\(askH h k).last=h.last/\(askH h k).ds=h.ds/\(askH h k).bs.length=h.bs.length:=by
 unfold askH;split
 ·exact⟨rfl,rfl,rfl,rfl⟩
 ·split
  ·exact⟨rfl,rfl,rfl,rfl⟩
  ·split
   ·exact⟨rfl,rfl,rfl,by simp⟩
   ·exact⟨rfl,rfl,rfl,rfl⟩
theorem Aak (h:House):∀k,(asksH h k).now=h.now/\(asksH h k).last=h.last/\(asksH h k).ds=h.ds/\(asksH h k).bs.length=h.bs.length
 | 0=>⟨rfl,rfl,rfl,rfl⟩
 | k+1=>by
  obtain⟨a1,a2,a3,a4⟩:=Alt (asksH h k) k;obtain⟨b1,b2,b3,b4⟩:=Aak h k;exact⟨a1.trans b1,a2.trans b2,a3.trans b3,a4.trans b4⟩
theorem Ans {h:House} (H:∀x∈h.bs,-1<=x.si) (k:Nat):∀x∈(askH h k).bs,-1<=x.si:=by
 unfold askH;split
 ·exact H
 ·split
  ·exact H
  ·split
   ·intro x hx
    rcases List.mem_or_eq_of_mem_set hx with h1|rfl
    ·exact H x h1
    ·show (-1:Int)<=0;omega
   ·exact H
theorem AgS {h:House} (H:∀x∈h.bs,-1<=x.si):∀k,∀x∈(asksH h k).bs,-1<=x.si
 | 0=>H
 | k+1=>Ans (AgS H k) k
def PH (w:World) (base y:Nat) (h:House):Prop:=∃tv bv xv dv,w.ownsRow base 41 6 (.slice (some ⟨y,0,none⟩) 1 1) 1 [.int .i64 h.now,.int .i64 h.last,tv,bv,xv,dv]/\HP w base h tv bv xv dv
theorem AgT {α:Type} {l:List α} {k:Nat} {a:α} (h:l[k]?=some a):l.set k a=l:=by
 obtain⟨hk,rfl⟩:=A2.1 h;exact List.set_getElem_self hk
theorem HP.since {w:World} {base g n cap k:Nat} {h:House} {tv bv tu bu dv:Value} {b':Bk} {x:Rb} (H:HP w base h tv bv (.slice (some ⟨g,0,none⟩) n cap) dv) (hx:h.bs[k]?=some x) (hb:BkF w base (.agg #[tu,bu]) b') (hz:Szb b') (s:Int) :
  HP (w.setCell ⟨g,k*6+4,none⟩ (.int .i64 s)) base {h with sh:=b',bs:=h.bs.set k {x with si:=s}} tu bu (.slice (some ⟨g,0,none⟩) n cap) dv:=by
 obtain⟨ps,h1,h2⟩:=H.x;have hx':=hx;rw[← h2,B0,B4] at hx';obtain⟨⟨y,ru,su⟩,hp,e⟩:=hx';obtain rfl:y=x:=e;have hg:w.grownBy (w.setCell ⟨g,k*6+4,none⟩ (.int .i64 s)) (Value.slice (some ⟨g,0,none⟩) n cap).ownBlock:=D9 (E1 _ _) _;have e1:(ps.set k (({y with si:=s}:Rb),ru,su)).map (·.2.1)=ps.map (·.2.1):=by rw[List.map_set];exact AgT (by rw[B0,hp];rfl)
 have e2:(ps.set k (({y with si:=s}:Rb),ru,su)).map (·.2.2)=ps.map (·.2.2):=by rw[List.map_set];exact AgT (by rw[B0,hp];rfl)
 refine⟨hb.step h1.1.1 (by decide) (by decide) hg,hz,⟨_,⟨h1.1.put (y:={y with si:=s}) hp (by omega) rfl rfl rfl rfl,?_,?_⟩,by rw[List.map_set,h2]⟩,⟨E4 H.d.1 hg (E5 H.d.1 h1.1.1 (by decide)),H.d.2⟩⟩
 ·rw[e1];exact h1.2.1
 ·rw[e2];exact h1.2.2
structure AQ (W:World) (h:House) (x:Rb) (X:World) (k11 k12:Option Value) (k16:Option Nat):Prop where
 B:Below W.heap.size W X
 s11:∀v,k11=some v->Lst X v (rbOwn x)
 s12:∀v,k12=some v->BkF X W.heap.size v (askB h.sh x.nm (rbOwn x))
 s16:∀y,k16=some y->X.ownsRow W.heap.size 37 2 (.slice (some ⟨y,0,none⟩) 1 1) 1 [.slice none 0 0,.slice none 0 0]
theorem AQ.up {W X X':World} {h:House} {x:Rb} {k11 k12:Option Value} {k16:Option Nat} (H:AQ W h x X k11 k12 k16) (hb:Below X.heap.size X X'):AQ W h x X' k11 k12 k16 :=
 ⟨D5 H.B hb,λv e=>(H.s11 v e).up hb,λv e=>(H.s12 v e).up hb,λy e=>E0 (H.s16 y e) hb⟩
theorem aq_nil (W:World) (h:House) (x:Rb):AQ W h x W none none none:=⟨A4 _ _,λ_ h=>(by cases h),λ_ h=>(by cases h),λ_ h=>(by cases h)⟩
theorem AQ.own {W X X':World} {h:House} {x:Rb} {k11 k12:Option Value} {k16:Option Nat} {v:Value} (H:AQ W h x X k11 k12 k16) (hb:Below X.heap.size X X') (hv:Lst X' v (rbOwn x)):AQ W h x X' (some v) k12 k16 :=
 {H.up hb with s11:=λu e=>by cases e;exact hv}
theorem AQ.ask {W X X':World} {h:House} {x:Rb} {k11 k12:Option Value} {k16:Option Nat} {v:Value} (H:AQ W h x X k11 k12 k16) (hb:Below X.heap.size X X') (hv:BkF X' X.heap.size v (askB h.sh x.nm (rbOwn x))):AQ W h x X' k11 (some v) k16 :=
 {H.up hb with s12:=λu e=>by cases e;exact hv.low H.B.size}
theorem AQ.new {W X:World} {h:House} {x:Rb} {k11 k12:Option Value} {k16:Option Nat} (H:AQ W h x X k11 k12 k16):AQ W h x (X.alloc (.cells #[.slice none 0 0,.slice none 0 0] 37)) k11 k12 (some X.heap.size) :=
 {H.up ((A4 _ _).alloc (A3 _) _) with s16:=λu e=>by cases e;exact B8 X _ 1 H.B.size (by unfold maxLen;omega) rfl}
theorem AQ.fin {W X:World} {h:House} {x:Rb} {k11:Option Value} {tu bu:Value} {y:Nat} (H:AQ W h x X k11 (some (.agg #[tu,bu])) (some y)) :
  Below W.heap.size W ((X.setCell ⟨y,0,none⟩ tu).setCell ⟨y,1,none⟩ bu)/\BkF ((X.setCell ⟨y,0,none⟩ tu).setCell ⟨y,1,none⟩ bu) W.heap.size (.agg #[tu,bu]) (askB h.sh x.nm (rbOwn x))/\CB ((X.setCell ⟨y,0,none⟩ tu).setCell ⟨y,1,none⟩ bu) y [tu,bu]:=by
 have h16:=H.s16 y rfl;have h1:=B2 h16 0 tu;have h2:=B2 h1.1 1 bu;have hg:X.grownBy ((X.setCell ⟨y,0,none⟩ tu).setCell ⟨y,1,none⟩ bu) (Value.slice (some ⟨y,0,none⟩) 1 1).ownBlock:=E3 h1.2 h2.2;exact⟨F5 H.B H.B.size h16 hg (A3 _),(H.s12 _ rfl).step h16 (by decide) (by decide) hg,D8 h2.1⟩
def chk (h:House) (j:Nat):Prop:=match j with
 | 0=>TimesOk h
 | 1=>DonesOk h
 | 2=>SafeP h.sh
 | 3=>NamesOk h
 | 4=>BatsOk h
 | 5=>NeedTo h h.bs.length
 | _=>HaveTo h h.bs.length
theorem R6 (h:House):HouseOk h↔∀j,j<7->chk h j:=by
 constructor
 ·rintro⟨t0,t1,t2,t3,t4,t5,t6⟩ j hj
  match j,hj with
  | 0,_=>exact t0
  | 1,_=>exact t1
  | 2,_=>exact t2
  | 3,_=>exact t3
  | 4,_=>exact t4
  | 5,_=>exact t5
  | 6,_=>exact t6
 ·intro t
  exact⟨t 0 (by omega),t 1 (by omega),t 2 (by omega),t 3 (by omega),t 4 (by omega),t 5 (by omega),t 6 (by omega)⟩
theorem AgU (h:House) (tv bv xv dv:Value) (w:World) (hE:Ends w) (H:HV w h tv bv xv dv) :
  Calls Tryz.prog 114 #[.agg #[.int .i64 h.now,.int .i64 h.last,tv,bv,xv,dv]] w λe w'=>e=.returned (.bool (pB (HouseOk h)))/\Below w.heap.size w w':=by
 obtain⟨a1,c1,a2,c2,a3,c3,a4,c4,rfl,rfl,rfl,rfl⟩:=H.shapes;have HE:Hid (Ends w):=hE;clear hE;have hB0:=(A4 w.heap.size w).alloc (A3 _) (.cells #[.int .i64 h.now,.int .i64 h.last,.slice a1 h.sh.things.length c1,.slice a2 h.sh.bs.length c2,.slice a3 h.bs.length c3,.slice a4 h.ds.length c4] 41);have hC:CB (w.alloc (.cells #[.int .i64 h.now,.int .i64 h.last,.slice a1 h.sh.things.length c1,.slice a2 h.sh.bs.length c2,.slice a3 h.bs.length c3,.slice a4 h.ds.length c4] 41)) w.heap.size [.int .i64 h.now,.int .i64 h.last,.slice a1 h.sh.things.length c1,.slice a2 h.sh.bs.length c2,.slice a3 h.bs.length c3,.slice a4 h.ds.length c4]:=E8 w _ _;go_enter Tryz.func114,Tryz.ntmps114
 go_upto_region 1 with fail
 generalize w.alloc (.cells #[.int .i64 h.now,.int .i64 h.last,.slice a1 h.sh.things.length c1,.slice a2 h.sh.bs.length c2,.slice a3 h.bs.length c3,.slice a4 h.ds.length c4] 41)=W1 at *;have hlt:=hC.2.2;have hF0:CB (W1.alloc (.cells #[.func (.func 132) #[] #[],.func (.func 133) #[] #[],.func (.func 134) #[] #[],.func (.func 135) #[] #[],.func (.func 136) #[] #[],.func (.func 137) #[] #[],.func (.func 138) #[] #[]] 65)) W1.heap.size [.func (.func 132) #[] #[],.func (.func 133) #[] #[],.func (.func 134) #[] #[],.func (.func 135) #[] #[],.func (.func 136) #[] #[],.func (.func 137) #[] #[],.func (.func 138) #[] #[]]:=E8 W1 _ _;have hBF:=(A4 W1.heap.size W1).alloc (A3 _) (.cells #[.func (.func 132) #[] #[],.func (.func 133) #[] #[],.func (.func 134) #[] #[],.func (.func 135) #[] #[],.func (.func 136) #[] #[],.func (.func 137) #[] #[],.func (.func 138) #[] #[]] 65);go_upto_region 2 with fail
 generalize W1.alloc (.cells #[.func (.func 132) #[] #[],.func (.func 133) #[] #[],.func (.func 134) #[] #[],.func (.func 135) #[] #[],.func (.func 136) #[] #[],.func (.func 137) #[] #[],.func (.func 138) #[] #[]] 65)=W2 at *;have hFlt:=hF0.2.2;go_wp2_with fail
 go_loopw [5,9] (λ_ i w'=>∃k:Nat,k<=7/\i=.int .i64 k/\(∀j,j<k->chk h j)/\Below W1.heap.size W1 w'/\Below W2.heap.size W2 w') (λ_ i _=>7-(intOf i).toNat)
 case atStart=>exact⟨0,by omega,rfl,λj hj=>by omega,hBF,A4 _ _⟩
 case round =>
  obtain⟨k,hk,rfl,hinv,hB,hBW⟩:=hrel;have HI:Hid (∀j,j<k->chk h j):=hinv;clear hinv;by_cases hp:k<7
  ·have hB01:=D5 hB0 hB
   have HV1:=H.up hB01;have hE1:=HE.out.up hB01;obtain⟨d0,d1,d2,d3,d4,d5⟩:=(hC.up hB hlt).c6;have hF:=hF0.up hBW hFlt;rcases (by omega:k=0∨k=1∨k=2∨k=3∨k=4∨k=5∨k=6) with rfl|rfl|rfl|rfl|rfl|rfl|rfl
   ·have cf:wr.cell? ⟨W1.heap.size,0,none⟩=some (.func (.func 132) #[] #[]):=hF.1 0 _ rfl
    go_wp2_with fail
    refine (Ajn h _ _ _ _ _ HV1).mono ?_;rintro e w3 ⟨rfl,hB3⟩;have hB13:=D5 hB hB3;have hB03:=D5 hB0 hB13;clear d0 d1 d2 d3 d4 d5 cf;cases hq:pB (chk h 0)
    ·have HN:Hid (pB (HouseOk h)=false):=F1 λt=>J0.1 hq (((R6 h).1 t) 0 (by omega))
     have hq':pB (chk h 0)=false:=hq;unfold chk at hq';go_wp2_with fail
     go_ret
     exact⟨D6 HN.out.symm,hB03⟩
    ·have HY:Hid (∀j,j<0+1->chk h j):=λj hj=>by
      rcases Nat.lt_or_ge j 0 with h'|h'
      ·exact HI.out j h'
      ·obtain rfl:j=0:=by omega
       exact F7.1 hq
     have hq':pB (chk h 0)=true:=hq;unfold chk at hq';go_wp2_with fail
     go_roundw
     case rel=>exact⟨1,by omega,by go_num,HY.out,hB13,D5 hBW hB3⟩
     case measure=>simp[intOf]
   ·have cf:wr.cell? ⟨W1.heap.size,1,none⟩=some (.func (.func 133) #[] #[]):=hF.1 1 _ rfl
    go_wp2_with fail
    refine (Ajp h _ _ _ _ _ HV1).mono ?_;rintro e w3 ⟨rfl,hB3⟩;have hB13:=D5 hB hB3;have hB03:=D5 hB0 hB13;clear d0 d1 d2 d3 d4 d5 cf;cases hq:pB (chk h 1)
    ·have HN:Hid (pB (HouseOk h)=false):=F1 λt=>J0.1 hq (((R6 h).1 t) 1 (by omega))
     have hq':pB (chk h 1)=false:=hq;unfold chk at hq';go_wp2_with fail
     go_ret
     exact⟨D6 HN.out.symm,hB03⟩
    ·have HY:Hid (∀j,j<1+1->chk h j):=λj hj=>by
      rcases Nat.lt_or_ge j 1 with h'|h'
      ·exact HI.out j h'
      ·obtain rfl:j=1:=by omega
       exact F7.1 hq
     have hq':pB (chk h 1)=true:=hq;unfold chk at hq';go_wp2_with fail
     go_roundw
     case rel=>exact⟨2,by omega,by go_num,HY.out,hB13,D5 hBW hB3⟩
     case measure=>simp[intOf]
   ·have cf:wr.cell? ⟨W1.heap.size,2,none⟩=some (.func (.func 134) #[] #[]):=hF.1 2 _ rfl
    go_wp2_with fail
    refine (Ajo h _ _ _ _ _ HV1).mono ?_;rintro e w3 ⟨rfl,hB3⟩;have hB13:=D5 hB hB3;have hB03:=D5 hB0 hB13;clear d0 d1 d2 d3 d4 d5 cf;cases hq:pB (chk h 2)
    ·have HN:Hid (pB (HouseOk h)=false):=F1 λt=>J0.1 hq (((R6 h).1 t) 2 (by omega))
     have hq':pB (chk h 2)=false:=hq;unfold chk at hq';go_wp2_with fail
     go_ret
     exact⟨D6 HN.out.symm,hB03⟩
    ·have HY:Hid (∀j,j<2+1->chk h j):=λj hj=>by
      rcases Nat.lt_or_ge j 2 with h'|h'
      ·exact HI.out j h'
      ·obtain rfl:j=2:=by omega
       exact F7.1 hq
     have hq':pB (chk h 2)=true:=hq;unfold chk at hq';go_wp2_with fail
     go_roundw
     case rel=>exact⟨3,by omega,by go_num,HY.out,hB13,D5 hBW hB3⟩
     case measure=>simp[intOf]
   ·have cf:wr.cell? ⟨W1.heap.size,3,none⟩=some (.func (.func 135) #[] #[]):=hF.1 3 _ rfl
    go_wp2_with fail
    refine (Ajr h _ _ _ _ _ HV1 (HI.out 2 (by omega)).book).mono ?_;rintro e w3 ⟨rfl,hB3⟩;have hB13:=D5 hB hB3;have hB03:=D5 hB0 hB13;clear d0 d1 d2 d3 d4 d5 cf;cases hq:pB (chk h 3)
    ·have HN:Hid (pB (HouseOk h)=false):=F1 λt=>J0.1 hq (((R6 h).1 t) 3 (by omega))
     have hq':pB (chk h 3)=false:=hq;unfold chk at hq';go_wp2_with fail
     go_ret
     exact⟨D6 HN.out.symm,hB03⟩
    ·have HY:Hid (∀j,j<3+1->chk h j):=λj hj=>by
      rcases Nat.lt_or_ge j 3 with h'|h'
      ·exact HI.out j h'
      ·obtain rfl:j=3:=by omega
       exact F7.1 hq
     have hq':pB (chk h 3)=true:=hq;unfold chk at hq';go_wp2_with fail
     go_roundw
     case rel=>exact⟨4,by omega,by go_num,HY.out,hB13,D5 hBW hB3⟩
     case measure=>simp[intOf]
   ·have cf:wr.cell? ⟨W1.heap.size,4,none⟩=some (.func (.func 136) #[] #[]):=hF.1 4 _ rfl
    go_wp2_with fail
    refine (AkS h _ _ _ _ _ hE1 HV1).mono ?_;rintro e w3 ⟨rfl,hB3⟩;have hB13:=D5 hB hB3;have hB03:=D5 hB0 hB13;clear d0 d1 d2 d3 d4 d5 cf;cases hq:pB (chk h 4)
    ·have HN:Hid (pB (HouseOk h)=false):=F1 λt=>J0.1 hq (((R6 h).1 t) 4 (by omega))
     have hq':pB (chk h 4)=false:=hq;unfold chk at hq';go_wp2_with fail
     go_ret
     exact⟨D6 HN.out.symm,hB03⟩
    ·have HY:Hid (∀j,j<4+1->chk h j):=λj hj=>by
      rcases Nat.lt_or_ge j 4 with h'|h'
      ·exact HI.out j h'
      ·obtain rfl:j=4:=by omega
       exact F7.1 hq
     have hq':pB (chk h 4)=true:=hq;unfold chk at hq';go_wp2_with fail
     go_roundw
     case rel=>exact⟨5,by omega,by go_num,HY.out,hB13,D5 hBW hB3⟩
     case measure=>simp[intOf]
   ·have cf:wr.cell? ⟨W1.heap.size,5,none⟩=some (.func (.func 137) #[] #[]):=hF.1 5 _ rfl
    go_wp2_with fail
    refine (Aj8 h _ _ _ _ _ hE1 HV1 (HI.out 2 (by omega)).book (HI.out 3 (by omega))).mono ?_;rintro e w3 ⟨rfl,hB3⟩;have hB13:=D5 hB hB3;have hB03:=D5 hB0 hB13;clear d0 d1 d2 d3 d4 d5 cf;cases hq:pB (chk h 5)
    ·have HN:Hid (pB (HouseOk h)=false):=F1 λt=>J0.1 hq (((R6 h).1 t) 5 (by omega))
     have hq':pB (chk h 5)=false:=hq;unfold chk at hq';go_wp2_with fail
     go_ret
     exact⟨D6 HN.out.symm,hB03⟩
    ·have HY:Hid (∀j,j<5+1->chk h j):=λj hj=>by
      rcases Nat.lt_or_ge j 5 with h'|h'
      ·exact HI.out j h'
      ·obtain rfl:j=5:=by omega
       exact F7.1 hq
     have hq':pB (chk h 5)=true:=hq;unfold chk at hq';go_wp2_with fail
     go_roundw
     case rel=>exact⟨6,by omega,by go_num,HY.out,hB13,D5 hBW hB3⟩
     case measure=>simp[intOf]
   ·have cf:wr.cell? ⟨W1.heap.size,6,none⟩=some (.func (.func 138) #[] #[]):=hF.1 6 _ rfl
    go_wp2_with fail
    refine (Als h _ _ _ _ _ hE1 HV1 (HI.out 2 (by omega)).book (HI.out 3 (by omega)) (HI.out 4 (by omega))).mono ?_;rintro e w3 ⟨rfl,hB3⟩;have hB13:=D5 hB hB3;have hB03:=D5 hB0 hB13;clear d0 d1 d2 d3 d4 d5 cf;cases hq:pB (chk h 6)
    ·have HN:Hid (pB (HouseOk h)=false):=F1 λt=>J0.1 hq (((R6 h).1 t) 6 (by omega))
     have hq':pB (chk h 6)=false:=hq;unfold chk at hq';go_wp2_with fail
     go_ret
     exact⟨D6 HN.out.symm,hB03⟩
    ·have HY:Hid (∀j,j<6+1->chk h j):=λj hj=>by
      rcases Nat.lt_or_ge j 6 with h'|h'
      ·exact HI.out j h'
      ·obtain rfl:j=6:=by omega
       exact F7.1 hq
     have hq':pB (chk h 6)=true:=hq;unfold chk at hq';go_wp2_with fail
     go_roundw
     case rel=>exact⟨7,by omega,by go_num,HY.out,hB13,D5 hBW hB3⟩
     case measure=>simp[intOf]
  ·have HY:Hid (pB (HouseOk h)=true):=G9 ((R6 h).2 λj hj=>HI.out j (by omega))
   go_wp2_with fail
   go_ret
   exact⟨D6 HY.out.symm,D5 hB0 hB⟩
end Go.Proofs.YtgecdacgmehmbaaGreatDoor
namespace Go.Proofs.YtgecdacgmehmbaaGreatDoor
open Go.ChangeShapes Go.WideShapes Go.ChangeAt Go.RowKit
theorem AjH:Tryz.prog.cellsOf 29=6:=by kernel_rfl
theorem Afq:Tryz.prog.cellsOf 105=3:=by kernel_rfl
theorem AjI:Tryz.prog.cellsOf 27=1:=by kernel_rfl
theorem Am5:Tryz.prog.cellsOf 26=1:=by kernel_rfl
theorem list5 {α:Type} {l:List α} (h:l.length=5):∃a b c d e,l=[a,b,c,d,e]:=by
 match l,h with
 | [a,b,c,d,e],_=>exact⟨a,b,c,d,e,rfl⟩
theorem Alu {H:Type} {enc:TypeId×Value->H} {w:World} {base:Nat} {sp:Nat->Bool} {held:Bool} {fuel:Nat} {cs:List Value} {x:DataW H×List MemPlace}
  (h:DataW.trod enc Tryz.prog w base sp held fuel 105 cs=some x):∃y:Done,cs=y.cellsL/\y.nm.size<=maxLen:=by
 obtain⟨xs,m,_,rfl,hl,hlen,hf⟩:=DataW.trod_struct Tryz.underlying105 h;rw[Afq] at hl;obtain⟨c0,c1,c2,rfl⟩:=Af8 hl;obtain⟨y0,y1,y2,rfl⟩:=Af8 (hlen.trans rfl:xs.length=3);have h0:DataW.trod enc Tryz.prog w base sp held m 9 (([c0,c1,c2].drop 0).take (Tryz.prog.cellsOf 9))=some y0:=hf 0 {name:= "Name",type:=9,offset:=0,embedded:=false,tag:= "",pkgPath:= "",byteOffset:=0} rfl;have h1:DataW.trod enc Tryz.prog w base sp held m 3 (([c0,c1,c2].drop 1).take (Tryz.prog.cellsOf 3))=some y1:=hf 1 {name:= "End",type:=3,offset:=1,embedded:=false,tag:= "",pkgPath:= "",byteOffset:=16} rfl;have h2:DataW.trod enc Tryz.prog w base sp held m 3 (([c0,c1,c2].drop 2).take (Tryz.prog.cellsOf 3))=some y2:=hf 2 {name:= "Tick",type:=3,offset:=2,embedded:=false,tag:= "",pkgPath:= "",byteOffset:=24} rfl;clear hf h;rw[O9] at h0;rw[AbU] at h1 h2;simp only[List.drop_succ_cons,List.drop_zero,List.take_succ_cons,List.take_zero] at h0 h1 h2;obtain⟨nm,rfl,rfl,z0⟩:=J4 h0;obtain⟨e,rfl,rfl,_⟩:=M7 h1;obtain⟨t,rfl,rfl,_⟩:=M7 h2;exact⟨⟨nm,e,t⟩,rfl,z0⟩
theorem Af5 {H:Type} {enc:TypeId×Value->H} {W:World} {base:Nat} {sp:Nat->Bool} {held:Bool} {fuel:Nat} {v:Value} {x:DataW H×List MemPlace}
  (h:DataW.trod enc Tryz.prog W base sp held fuel 27 [v]=some x):∃l,Dns W v l:=by
 rcases DataW.trod_slice Tryz.underlying27 h with⟨hcs,_⟩|⟨a,len,cap,elems,rest,n,_,hcs,_,hb,hl,hm,hlen,hel,_,_⟩
 ·obtain rfl:v=.slice none 0 0:=by simpa using hcs
  exact⟨[],_,_,rfl,by simp,λh=>by simp at h⟩
 ·obtain rfl:v=.slice (some a) len cap:=by simpa using hcs
  clear hcs h;rw[Afq] at hel
  have each:∀i,i<len->∃y:Done,W.cells? base (a.add (i*3)) 3=some y.cellsL/\y.nm.size<=maxLen:=by
   intro i hi;have h1:=hel i hi;rw[A0 (by omega)] at h1;obtain⟨cs,hc,ht⟩:=Option.bind_eq_some_iff.1 h1;obtain⟨y,rfl,r⟩:=Alu ht;exact⟨y,hc,r⟩
  obtain⟨l,hpl,hps⟩:=AaH len _ each;rcases C3 len with h0|h0
  ·subst h0
   exact⟨[],_,_,rfl,by simp,λh=>by simp at h⟩
  ·obtain⟨b,o,spot⟩:=a
   have hs:spot=none:=by
    obtain⟨q,hq,_⟩:=each 0 h0;simpa [Addr.add] using Abh (by omega) hq
   subst hs
   have hra:DnsAt W b o l:=by
    intro i q hq;have:=hps i q hq;rw[Addr.add_mid] at this;exact⟨M2 this.1,this.2⟩
   subst hpl;exact⟨l,_,cap,rfl,by omega,λ_=>⟨b,o,rfl,hra,World.block_lt_of_cell? W _ ((hra 0 l[0] (by simp[h0])).1 0 _ rfl)⟩⟩
theorem AhS {H:Type} {enc:TypeId×Value->H} {W:World} {base:Nat} {sp:Nat->Bool} {held:Bool} {fuel:Nat} {v:Value} {x:DataW H×List MemPlace}
  (h:DataW.trod enc Tryz.prog W base sp held fuel 26 [v]=some x):∃l,RsSrc W v l:=by
 rcases DataW.trod_slice Tryz.underlying26 h with⟨hcs,_⟩|⟨a,len,cap,elems,rest,n,_,hcs,_,hb,hl,hm,hlen,hel,_,_⟩
 ·obtain rfl:v=.slice none 0 0:=by simpa using hcs
  exact⟨[],_,_,rfl,by simp,λh=>by simp at h⟩
 ·obtain rfl:v=.slice (some a) len cap:=by simpa using hcs
  clear hcs h;rw[Aiy] at hel
  have each:∀i,i<len->∃y:Rb,∃rv sv:Value,W.cells? base (a.add (i*6)) 6=some [.string y.nm,rv,sv,.string y.ad,.int .i64 y.si,.int .i64 y.st]/\RbSrc W y rv sv:=by
   intro i hi;have h1:=hel i hi;rw[A0 (by omega)] at h1;obtain⟨cs,hc,ht⟩:=Option.bind_eq_some_iff.1 h1;obtain⟨y,rv,sv,rfl,r⟩:=Aj1 ht;exact⟨y,rv,sv,hc,r⟩
  obtain⟨bs,hpl,hps⟩:=AaH len _ each;rcases C3 len with h0|h0
  ·subst h0
   exact⟨[],_,_,rfl,by simp,λh=>by simp at h⟩
  ·obtain⟨b,o,spot⟩:=a
   have hs:spot=none:=by
    obtain⟨q,rv,sv,hq,_⟩:=each 0 h0;simpa [Addr.add] using Abh (by omega) hq
   subst hs
   have hra:RsAt W b o bs:=by
    intro i q hq;obtain⟨rv,sv,this,r⟩:=hps i q hq;rw[Addr.add_mid] at this;exact⟨rv,sv,M2 this,r⟩
   subst hpl;refine⟨bs,_,cap,rfl,by omega,λ_=>⟨b,o,rfl,hra,?_⟩⟩;obtain⟨rv,sv,hr,-⟩:=hra 0 bs[0] (by simp[h0]);exact World.block_lt_of_cell? W _ (hr 0 _ rfl)
theorem Af6 {H:Type} {enc:TypeId×Value->H} {w:World} {base:Nat} {sp:Nat->Bool} {held:Bool} {fuel:Nat} {cs:List Value} {x:DataW H×List MemPlace}
  (h:DataW.trod enc Tryz.prog w base sp held fuel 29 cs=some x):∃(y:House) (tv bv xv dv:Value),cs=[.int .i64 y.now,.int .i64 y.last,tv,bv,xv,dv]/\HSrc w y tv bv xv dv:=by
 obtain⟨xs,m,_,rfl,hl,hlen,hf⟩:=DataW.trod_struct Tryz.underlying29 h;rw[AjH] at hl;obtain⟨c0,c1,c2,c3,c4,c5,rfl⟩:=Aj0 hl;obtain⟨y0,y1,y2,y3,y4,rfl⟩:=list5 (hlen.trans rfl:xs.length=5);have h0:DataW.trod enc Tryz.prog w base sp held m 3 (([c0,c1,c2,c3,c4,c5].drop 0).take (Tryz.prog.cellsOf 3))=some y0:=hf 0 {name:= "Now",type:=3,offset:=0,embedded:=false,tag:= "",pkgPath:= "",byteOffset:=0} rfl;have h1:DataW.trod enc Tryz.prog w base sp held m 3 (([c0,c1,c2,c3,c4,c5].drop 1).take (Tryz.prog.cellsOf 3))=some y1:=hf 1 {name:= "Last",type:=3,offset:=1,embedded:=false,tag:= "",pkgPath:= "",byteOffset:=8} rfl;have h2:DataW.trod enc Tryz.prog w base sp held m 25 (([c0,c1,c2,c3,c4,c5].drop 2).take (Tryz.prog.cellsOf 25))=some y2:=hf 2 {name:= "Share",type:=25,offset:=2,embedded:=false,tag:= "",pkgPath:= "",byteOffset:=16} rfl;have h3:DataW.trod enc Tryz.prog w base sp held m 26 (([c0,c1,c2,c3,c4,c5].drop 4).take (Tryz.prog.cellsOf 26))=some y3:=hf 3 {name:= "Batches",type:=26,offset:=4,embedded:=false,tag:= "",pkgPath:= "",byteOffset:=64} rfl;have h4:DataW.trod enc Tryz.prog w base sp held m 27 (([c0,c1,c2,c3,c4,c5].drop 5).take (Tryz.prog.cellsOf 27))=some y4:=hf 4 {name:= "Dones",type:=27,offset:=5,embedded:=false,tag:= "",pkgPath:= "",byteOffset:=88} rfl;clear hf h;rw[AbU] at h0 h1;rw[AeY] at h2;rw[Am5] at h3;rw[AjI] at h4;simp only[List.drop_succ_cons,List.drop_zero,List.take_succ_cons,List.take_zero] at h0 h1 h2 h3 h4;obtain⟨now,rfl,rfl,_⟩:=M7 h0;obtain⟨last,rfl,rfl,_⟩:=M7 h1;obtain⟨b,tv,bv,e,l1,l2⟩:=AiG h2;obtain⟨rfl,rfl⟩:c2=tv/\c3=bv:=by simpa using e
 obtain⟨bs,l3⟩:=AhS h3;obtain⟨ds,l4⟩:=Af5 h4;exact⟨⟨now,last,b,bs,ds⟩,c2,c3,c4,c5,rfl,⟨l1,l2,l3,l4⟩⟩
end Go.Proofs.YtgecdacgmehmbaaGreatDoor
