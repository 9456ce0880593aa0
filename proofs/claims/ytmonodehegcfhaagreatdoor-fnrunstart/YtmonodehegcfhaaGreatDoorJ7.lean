/- Drawing: the reader is opened; slots; a phase. -/
import Derived.Test.YtmonodehegcfhaaGreatDoorJ2
import Derived.Deep.DeepCutAuto
set_option maxHeartbeats 4000000
namespace Go.Proofs.YtmonodehegcfhaaGreatDoor
open Go.Proofs.Tryz
open Go.RowKit
variable{tmps:Array Value}{x:Ba}{b:Bk}{bs:List Ba}{later:List BA}{cs:List Value}{j k n pb rk:Nat}{r:Option Nat}{p:Ph}{u:Value}{Z w w':World}
def T3(w:World)(pb:Nat)(p:Ph):Prop:=w.rangeAt pb 0 p.cells/\w.there pb 0 8
theorem T3.lt(h:T3 w pb p):pb<w.heap.size:=World.block_lt_of_cell? w _ (h.1 0 _ rfl)
theorem T3.cells(h:T3 w pb p):
  At w pb 0 (Tz p.nm)/\At w pb 1 (Iz p.k)/\At w pb 2 (Tz p.a)/\At w pb 3 (Tz p.b)/\
  At w pb 4 (Iz p.n)/\At w pb 5 (Iz p.wi)/\At w pb 6 (Tz p.t)/\At w pb 7 (Tz p.e) :=
 ⟨h.1 0 _ rfl,h.1 1 _ rfl,h.1 2 _ rfl,h.1 3 _ rfl,h.1 4 _ rfl,h.1 5 _ rfl,h.1 6 _ rfl,h.1 7 _ rfl⟩
theorem T3.frozen(h:T3 w pb p):
  w.frozen? ⟨pb,0,none⟩=false/\w.frozen? ⟨pb,1,none⟩=false/\w.frozen? ⟨pb,2,none⟩=false/\w.frozen? ⟨pb,3,none⟩=false/\w.frozen? ⟨pb,4,none⟩=false/\w.frozen? ⟨pb,5,none⟩=false/\w.frozen? ⟨pb,6,none⟩=false/\w.frozen? ⟨pb,7,none⟩=false :=
 ⟨(h.2 0 (by omega)).2,(h.2 1 (by omega)).2,(h.2 2 (by omega)).2,(h.2 3 (by omega)).2,(h.2 4 (by omega)).2,(h.2 5 (by omega)).2,(h.2 6 (by omega)).2,(h.2 7 (by omega)).2⟩
theorem T3.kept(h:T3 w pb p)(hg:w.grownBy w' r)(hne:some pb≠r):T3 w' pb p:=by
 have hb:=hg.block pb h.lt hne;refine⟨λj v hv=>?_,λj hj=>?_⟩
 ·rw[C2 (w:=w) (a:=⟨pb,0+j,none⟩) hb];exact h.1 j v hv
 ·rw[C2 (w:=w) (a:=⟨pb,0+j,none⟩) hb,World.frozen?_of_block (w:=w) (a:=⟨pb,0+j,none⟩) hb];exact h.2 j hj
theorem Fi(w:World)(p:Ph)(t:TypeId):T3 (w.alloc (Kz [Tz p.nm,Iz p.k,Tz p.a,Tz p.b,Iz p.n,Iz p.wi,Tz p.t,Tz p.e] t)) w.heap.size p:=by
 have hr:(w.alloc (Kz [Tz p.nm,Iz p.k,Tz p.a,Tz p.b,Iz p.n,Iz p.wi,Tz p.t,Tz p.e] t)).rangeAt w.heap.size 0 p.cells:=by
  intro j v hv;rw[Nat.zero_add,World.cell?_alloc_at]
  ·simpa [Ph.cells] using hv
  ·rfl
 refine⟨hr,λj hj=>⟨hr.isSome j hj,?_⟩⟩;simp[go_sem]
theorem Ck(h:w.rangeAt pb 0 cs)(hj:j<cs.length):(w.setCell ⟨pb,j,none⟩ u).rangeAt pb 0 (cs.set j u):=by
 intro i x hx;rw[List.getElem?_set] at hx;by_cases e:j=i
 ·subst e;rw[if_pos rfl,if_pos hj] at hx;obtain rfl:=A6 hx;have hc:=h j cs[j] (by simp);rw[Nat.zero_add] at hc ⊢
  exact World.cell?_setCell_same _ _ _ hc
 ·rw[if_neg e] at hx;rw[C1 _ _ _ _ (by simp<;>omega)];exact h i x hx
theorem Cl(h:w.there pb 0 n):(w.setCell ⟨pb,j,none⟩ u).there pb 0 n:=λi hi=>by
 have:=World.there_setCells h pb j [u] i hi;simpa [World.setCells] using this
theorem T3.set0(h:T3 w pb p)(s:BA):T3 (w.setCell ⟨pb,0,none⟩ (Tz s)) pb {p with nm:=s}:=⟨Ck h.1 (by simp[Ph.cells]),Cl h.2⟩
theorem T3.set1(h:T3 w pb p)(x:Int):T3 (w.setCell ⟨pb,1,none⟩ (Iz x)) pb {p with k:=x}:=⟨Ck h.1 (by simp[Ph.cells]),Cl h.2⟩
theorem T3.set2(h:T3 w pb p)(s:BA):T3 (w.setCell ⟨pb,2,none⟩ (Tz s)) pb {p with a:=s}:=⟨Ck h.1 (by simp[Ph.cells]),Cl h.2⟩
theorem T3.set5(h:T3 w pb p)(x:Int):T3 (w.setCell ⟨pb,5,none⟩ (Iz x)) pb {p with wi:=x}:=⟨Ck h.1 (by simp[Ph.cells]),Cl h.2⟩
theorem T3.set3(h:T3 w pb p)(s:BA):T3 (w.setCell ⟨pb,3,none⟩ (Tz s)) pb {p with b:=s}:=⟨Ck h.1 (by simp[Ph.cells]),Cl h.2⟩
theorem T3.set4(h:T3 w pb p)(x:Int):T3 (w.setCell ⟨pb,4,none⟩ (Iz x)) pb {p with n:=x}:=⟨Ck h.1 (by simp[Ph.cells]),Cl h.2⟩
theorem T3.set6(h:T3 w pb p)(s:BA):T3 (w.setCell ⟨pb,6,none⟩ (Tz s)) pb {p with t:=s}:=⟨Ck h.1 (by simp[Ph.cells]),Cl h.2⟩
theorem T3.set7(h:T3 w pb p)(s:BA):T3 (w.setCell ⟨pb,7,none⟩ (Tz s)) pb {p with e:=s}:=⟨Ck h.1 (by simp[Ph.cells]),Cl h.2⟩
theorem T3.other{qb:Nat}(h:T3 w pb p)(hne:pb≠qb):T3 (w.setCell ⟨qb,j,none⟩ u) pb p :=
 h.kept (r:=some qb) ⟨rfl,rfl,rfl,by simp,λi _ hr=>Below.heap_setCell _ _ _ _ (λe=>hr (by rw[e]))⟩ (by simpa using hne)
theorem T3.copy(h:T3 w pb p)(q:Ph):T3 ((((((((w.setCell ⟨pb,0,none⟩ (Tz q.nm)).setCell ⟨pb,1,none⟩ (Iz q.k)).setCell ⟨pb,2,none⟩ (Tz q.a)).setCell ⟨pb,3,none⟩ (Tz q.b)).setCell ⟨pb,4,none⟩ (Iz q.n)).setCell ⟨pb,5,none⟩ (Iz q.wi)).setCell ⟨pb,6,none⟩ (Tz q.t)).setCell ⟨pb,7,none⟩ (Tz q.e)) pb q :=
 (((((((h.set0 q.nm).set1 q.k).set2 q.a).set3 q.b).set4 q.n).set5 q.wi).set6 q.t).set7 q.e
theorem FW:(prog.info? 43).map (·.size)=some 8:=by kernel_rfl
theorem Cb{fn:Func}{q:Tmp}(h:fn.results=#[.cell q 43])(ht:tmps.getD q undef=Pz rk 0)(hZ:T3 Z rk p):
  (results fn tmps).run prog Z=.ok (.agg #[Tz p.nm,Iz p.k,Tz p.a,Tz p.b,Iz p.n,Iz p.wi,Tz p.t,Tz p.e]) Z:=by
 have hl:=run_loadVar_mid (P:=prog) Z rk 0 43 p.cells _ hZ.1 underlying43 rfl FW;have ha:(asAddr (Pz rk 0)).run prog Z=.ok ⟨rk,0,none⟩ Z:=by simp[go_sem]
 have a0:tmps[q]?.getD undef=Pz rk 0:=by simpa using ht
 simp only[results,h];simp[Sem.run_bind,Result.andThen,a0,ha,hl,Ph.cells]
def Oy:List BA:=[⟨#[115,49]⟩,⟨#[115,49]⟩,⟨#[115,50]⟩,⟨#[115,51]⟩,⟨#[107,101,103]⟩]
def Ph.sz(p:Ph):Prop:=p.nm.size<=maxLen/\p.a.size<=maxLen/\p.b.size<=maxLen/\p.t.size<=maxLen/\p.e.size<=maxLen/\-5000<=p.wi/\p.wi<=5000
theorem Jw:(⟨#[]⟩:BA).size<=maxLen:=by unfold maxLen;decide
def Oz:List BA:=[⟨#[97,108,101]⟩,⟨#[109,97,108,116]⟩]
def ES:List BA:=[⟨#[103,111,111,100]⟩,⟨#[115,97,118,101,100]⟩,⟨#[115,99,114,97,112,112,101,100]⟩]
theorem TS(h:TD later):∀s∈ES++later,s.size<=maxLen:=λs hs=>by
 rcases D0.1 hs with hs|hs
 ·exact Y6 (ss:=ES) (by decide) s hs
 ·exact h s hs
theorem OA(n lo hi:Int)(w:World):
  Calls prog 136 #[Iz n,Iz lo,Iz hi] w λe w'=>e=.returned (.bool (Ai n lo hi))/\w'=w:=by
 by_cases h1:lo<=n<;>by_cases h2:n<=hi
 all_goals
  go_in;go_wp2;go_ret;exact⟨D8 (by simp[Ai,h1,h2]),rfl⟩
theorem Dg(s:BA)(w:World)(hs:s.size<=maxLen):
  Calls prog 80 #[Tz s] w λe w'=>e=.returned (.bool (G0 s))/\w'=w:=by
 unfold maxLen at hs;by_cases h1:1<=s.size/\s.size<=8
 case neg =>
  have h2:Ai s.size 1 8=false:=(Fe _ _ _).2 (by omega);go_in;go_wp2_with (go_at_call 136;refine Sx (OA _ _ _ _) ?_)
  go_ret;exact⟨D8 (by simp only[G0];simp;omega),rfl⟩
 have hn:Hid (G0 s=AM s.data.toList):=by show G0 s=_;simp[G0,h1]
 have h2:Ai s.size 1 8=true:=(BX _ _ _).2 (by omega);go_in;go_wp2_with (go_at_call 136;refine Sx (OA _ _ _ _) ?_)
 go_loop [3] (λi=>∃k:Nat,k<=s.size/\i=.int .i64 k/\AM (s.data.toList.take k)=true) (λi=>s.size-(intOf i).toNat)
 case atStart=>exact⟨0,by omega,rfl,rfl⟩
 case round =>
  obtain⟨k,hk,rfl,a0⟩:=hrel;have Hal:Hid (AM (s.data.toList.take k)=true):=a0;clear a0;by_cases hp:k<s.size
  ·have HS:Hid (CH (s[k]'hp).toNat=true->AM (s.data.toList.take (k+1))=true):=by show _->_;intro hb;rw[Gq s k hp,Hal.out,hb];rfl
   have HN:Hid (CH (s[k]'hp).toNat=false->AM s.data.toList=false):=FK s k hp;go_wp2
   all_goals first
    | (go_ret;exact⟨D8 (by rw[hn.out];exact (HN.out (by rw[← Bool.not_eq_true,FJ];go_light;simp at *;omega)).symm),rfl⟩)
    | (go_round
       case rel=>exact⟨k+1,by omega,by go_num,HS.out (by rw[FJ];go_light;simp at *;omega)⟩
       case measure=>simp[intOf];omega)
  ·go_wp2;go_ret;exact⟨D8 (by rw[hn.out,Ip s k hp Hal.out]),rfl⟩
theorem AO(ss:List BA)(v:Value)(s:BA)(w:World)(h:Ls w v ss):
  Calls prog 137 #[v,Tz s] w λe w'=>e=.returned (.bool (E3 ss s))/\w'=w:=by
 obtain⟨a,c,rfl,hn,-,a0⟩:=h;unfold maxLen at hn;go_in;go_wp2;go_loop [5] (λi=>∃k:Nat,k<=ss.length/\i=.int .i64 k/\E3 (ss.take k) s=false) (λi=>ss.length-(intOf i).toNat)
 case atStart=>exact⟨0,by omega,rfl,rfl⟩
 case round =>
  obtain⟨k,hk,rfl,a1⟩:=hrel;have Hal:Hid (E3 (ss.take k) s=false):=a1;clear a1;by_cases hp:k<ss.length
  ·obtain⟨b,o,rfl,hS,hb⟩:=a0 (by omega);have c0:=hS.cell hp;cases hq:((ss[k]).toList==s.toList)
   ·have Hq:Hid (((ss[k]).toList==s.toList)=false):=hq;go_wp2;go_round
    case rel=>exact⟨k+1,by omega,by go_num,Ff hp Hal.out Hq.out⟩
    case measure=>simp[intOf];omega
   ·have Hq:Hid (((ss[k]).toList==s.toList)=true):=hq;go_wp2;go_ret;exact⟨D8 (Is hp Hq.out).symm,rfl⟩
  ·go_wp2;go_ret;exact⟨D8 (FP hp Hal.out).symm,rfl⟩
theorem ET(xs ys:List BA)(u v:Value)(w:World)(h:Ls w u xs)(h2:Ls w v ys):
  Calls prog 135 #[u,v] w λe w'=>e=.returned (.bool (O2 xs ys))/\w'=w:=by
 obtain⟨a,c,rfl,hn,-,a0⟩:=h;obtain⟨a2,c2,rfl,-⟩:=id h2;unfold maxLen at hn;go_in;go_wp2;go_loop [5] (λi=>∃k:Nat,k<=xs.length/\i=.int .i64 k/\O2 (xs.take k) ys=false) (λi=>xs.length-(intOf i).toNat)
 case atStart=>exact⟨0,by omega,rfl,rfl⟩
 case round =>
  obtain⟨k,hk,rfl,a1⟩:=hrel;have Hal:Hid (O2 (xs.take k) ys=false):=a1;clear a1;by_cases hp:k<xs.length
  ·obtain⟨b,o,rfl,hS,hb⟩:=a0 (by omega);have c0:=hS.cell hp;cases hq:E3 ys xs[k]
   ·have Hq:Hid (E3 ys xs[k]=false):=hq;go_wp2_with (go_at_call 137;refine Sx (AO ys _ _ _ h2) ?_)
    go_round
    case rel=>exact⟨k+1,by omega,by go_num,Qk hp Hal.out Hq.out⟩
    case measure=>simp[intOf];omega
   ·have Hq:Hid (E3 ys xs[k]=true):=hq;go_wp2_with (go_at_call 137;refine Sx (AO ys _ _ _ h2) ?_)
    go_ret;exact⟨D8 (Oj hp Hq.out).symm,rfl⟩
  ·go_wp2;go_ret;exact⟨D8 (RZ hp Hal.out).symm,rfl⟩
theorem Ax{m:Nat}(h:w'=w.drewN m):∃k,w'.drewN n=w.drewN k:=⟨_,by rw[h,World.drewN_drewN]⟩
theorem CC(ss all:List BA)(u v:Value)(w:World)(h:Ls w u ss)(h2:Ls w v all):
  Calls prog 81 #[u,v] w λe w'=>e=.returned (.bool (pB (I4 ss all)))/\∃m,w'=w.drewN m:=by
 obtain⟨a,c,rfl,hn,-,a1⟩:=h;obtain⟨a2,c2,rfl,-⟩:=id h2;unfold maxLen at hn;go_in;go_wp2;go_loopw [5] (λi w'=>∃k m:Nat,k<=ss.length/\i=.int .i64 k/\Ak ss all k/\Y9 ss k/\w'=w.drewN m) (λi _=>ss.length-(intOf i).toNat)
 case atStart=>exact⟨0,0,by omega,rfl,Ak.zero _ _,Y9.zero _,rfl⟩
 case round =>
  obtain⟨k,m,hk,rfl,a4,a0,hw⟩:=hrel;have Hw:Hid (wr=w.drewN m):=hw;clear hw;have Hal:Hid (Ak ss all k):=a4;have Hasc:Hid (Y9 ss k):=a0;clear a4 a0;by_cases hp:k<ss.length
  ·obtain⟨b,o,rfl,hS,hb⟩:=a1 (by omega);have c0:At wr b (o+k) (Tz ss[k]):=by rw[Hw.out];exact hS.cell hp
   cases hq:E3 all ss[k]
   ·have Hq:Hid (¬I4 ss all):=λh=>by rw[Kr h.1 hp] at hq;cases hq
    go_wp2_with fail;go_quiet ((go_at_call 137;exact Calls.quiet_of_same (AO all _ _ _ (by have e:=Hw.out;subst e;exact h2))))
    go_wp2;go_ret;exact⟨D8 (I5 Hq.out).symm,Ax Hw.out⟩
   have Hq:Hid (Ak ss all (k+1)):=Hal.out.step hp hq;cases k with
   | zero =>
    simp only[Nat.add_zero] at c0;go_wp2_with fail;go_quiet ((go_at_call 137;exact Calls.quiet_of_same (AO all _ _ _ (by have e:=Hw.out;subst e;exact h2))))
    go_wp2;go_roundw
    case rel=>obtain⟨m',a3⟩:=Ax (n:=nq) Hw.out;exact⟨1,m',by omega,by go_num,Hq.out,Y9.one _,a3⟩
    case measure=>simp[intOf];omega
   | succ k =>
    have c1:At wr b (o+k) (Tz ss[k]):=by rw[Hw.out];exact hS.cell (k:=k) (by omega)
    cases hl:T6 ss[k] ss[k+1]
    ·have Hl:Hid (¬I4 ss all):=λh=>by rw[Ok h.2 hp] at hl;cases hl
     unfold T6 at hl;go_wp2_with fail;go_quiet ((go_at_call 137;exact Calls.quiet_of_same (AO all _ _ _ (by have e:=Hw.out;subst e;exact h2))))
     go_wp2;go_ret;exact⟨D8 (I5 Hl.out).symm,Ax Hw.out⟩
    ·have Hl:Hid (Y9 ss (k+2)):=Hasc.out.step hp hl;unfold T6 at hl;go_wp2_with fail;go_quiet ((go_at_call 137;exact Calls.quiet_of_same (AO all _ _ _ (by have e:=Hw.out;subst e;exact h2))))
     go_wp2;go_roundw
     case rel=>obtain⟨m',a3⟩:=Ax (n:=nq) Hw.out;exact⟨k+1+1,m',by omega,by go_num,Hq.out,Hl.out,a3⟩
     case measure=>simp[intOf];omega
  ·go_wp2;go_ret;exact⟨D8 (L9 ⟨KT Hal.out hp,Kq Hasc.out hp⟩).symm,_,Hw.out⟩
theorem Mw(ss:List BA)(u:Value)(w:World)(h:Ls w u ss):
  Calls prog 134 #[u] w λe w'=>e=.returned (.bool (pB (CM ss)))/\∃m,w'=w.drewN m:=by
 obtain⟨a,c,rfl,hn,hz,a1⟩:=h;unfold maxLen at hn;by_cases h8:8<ss.length
 ·go_in;go_wp2;go_ret;exact⟨D8 (I5 λh=>by have:=h.1;omega).symm,0,rfl⟩
 have H8:Hid (ss.length<=8):=by show _<=_;omega
 go_in;go_wp2;go_loopw [3] (λi w'=>∃k m:Nat,k<=ss.length/\i=.int .i64 k/\Aa ss k/\Y9 ss k/\w'=w.drewN m) (λi _=>ss.length-(intOf i).toNat)
 case atStart=>exact⟨0,0,by omega,rfl,Aa.zero _,Y9.zero _,rfl⟩
 case round =>
  obtain⟨k,m,hk,rfl,a3,a0,hw⟩:=hrel;have Hw:Hid (wr=w.drewN m):=hw;clear hw;have Hal:Hid (Aa ss k):=a3;have Hasc:Hid (Y9 ss k):=a0;clear a3 a0;by_cases hp:k<ss.length
  ·obtain⟨b,o,rfl,hS,hb⟩:=a1 (by omega);have c0:At wr b (o+k) (Tz ss[k]):=by rw[Hw.out];exact hS.cell hp
   have z0:=hz ss[k] (by simp);cases hq:G0 ss[k]
   ·have Hq:Hid (¬CM ss):=λh=>by rw[KU h.2.1 hp] at hq;cases hq
    go_wp2_with fail;go_quiet ((go_at_call 80;exact Calls.quiet_of_same (Dg _ _ z0)))
    go_wp2;go_ret;exact⟨D8 (I5 Hq.out).symm,Ax Hw.out⟩
   have Hq:Hid (Aa ss (k+1)):=Hal.out.step hp hq;cases k with
   | zero =>
    simp only[Nat.add_zero] at c0;go_wp2_with fail;go_quiet ((go_at_call 80;exact Calls.quiet_of_same (Dg _ _ z0)))
    go_wp2;go_roundw
    case rel=>obtain⟨m',a2⟩:=Ax (n:=nq) Hw.out;exact⟨1,m',by omega,by go_num,Hq.out,Y9.one _,a2⟩
    case measure=>simp[intOf];omega
   | succ k =>
    have c1:At wr b (o+k) (Tz ss[k]):=by rw[Hw.out];exact hS.cell (k:=k) (by omega)
    cases hl:T6 ss[k] ss[k+1]
    ·have Hl:Hid (¬CM ss):=λh=>by rw[Ok h.2.2 hp] at hl;cases hl
     unfold T6 at hl;go_wp2_with fail;go_quiet ((go_at_call 80;exact Calls.quiet_of_same (Dg _ _ z0)))
     go_wp2;go_ret;exact⟨D8 (I5 Hl.out).symm,Ax Hw.out⟩
    ·have Hl:Hid (Y9 ss (k+2)):=Hasc.out.step hp hl;unfold T6 at hl;go_wp2_with fail;go_quiet ((go_at_call 80;exact Calls.quiet_of_same (Dg _ _ z0)))
     go_wp2;go_roundw
     case rel=>obtain⟨m',a2⟩:=Ax (n:=nq) Hw.out;exact⟨k+1+1,m',by omega,by go_num,Hq.out,Hl.out,a2⟩
     case measure=>simp[intOf];omega
  ·go_wp2;go_ret;exact⟨D8 (L9 ⟨H8.out,JG Hal.out hp,Kq Hasc.out hp⟩).symm,_,Hw.out⟩
def Lc(b:Bk)(k:Nat):Prop:=Aa (G7 b.bs) k/\Y9 (G7 b.bs) k/\AW b.tg b.bs k/\T9 b.bs k 0
def Eb(b:Bk)(k:Nat)(x:Ba):Prop:=G0 x.nm=true/\(∀y,0<k->b.bs[k-1]?=some y->T6 y.nm x.nm=true)/\I4 x.nj b.tg/\I4 x.has x.nj
theorem HU(h:bs[k]?=some x):(G7 bs)[k]?=some x.nm:=by rw[G7,B1,h];rfl
theorem VQ(h:J1 b)(hx:b.bs[k]?=some x):Eb b k x:=by
 have hk:=(A3.1 hx).1;have hb:=h.2.2.2.2.1 k x hk hx;refine⟨h.2.2.1 k _ (by rw[L8];exact hk) (HU hx),λy h0 hy=>?_,hb.1,hb.2⟩;exact h.2.2.2.1 (k-1) _ _ (by rw[L8];omega) (HU hy) (by rw[show k-1+1=k by omega];exact HU hx)
theorem MY(h:Lc b k)(hx:b.bs[k]?=some x)(h1:Eb b k x)(ha:T9 b.bs (k+1) 0):Lc b (k+1):=by
 have hk:=(A3.1 hx).1;refine⟨λi a hi he=>?_,λi a c hi he hc=>?_,λi y hi hy=>?_,ha⟩
 ·by_cases e:i=k
  ·subst e;rw[HU hx] at he;obtain rfl:=A6 he;exact h1.1
  ·exact h.1 i a (by omega) he
 ·by_cases e:i+1=k
  ·subst e;rw[HU hx] at hc;obtain rfl:=A6 hc;have hy:b.bs[i]?=some b.bs[i]:=A0 (by omega);rw[HU hy] at he;obtain rfl:=A6 he;exact h1.2.1 _ (by omega) (by rw[Nat.add_sub_cancel];exact hy)
  ·exact h.2.1 i a c (by omega) he hc
 ·by_cases e:i=k
  ·subst e;rw[hx] at hy;obtain rfl:=A6 hy;exact⟨h1.2.2.1,h1.2.2.2⟩
  ·exact h.2.2.1 i y (by omega) hy
theorem VR(h:Lc b k)(hk:¬k<b.bs.length)(ht:CM b.tg)(h5:b.bs.length<=5):J1 b :=
 ⟨ht,h5,JG h.1 (by rw[L8];exact hk),Kq h.2.1 (by rw[L8];exact hk),Ri h.2.2.1 hk,TB h.2.2.2 hk⟩
theorem Cc(b:Bk)(v:Value)(w:World)(h:Q6 w v b):
  Calls prog 79 #[v] w λe w'=>e=.returned (.bool (K4 b))/\Up w w':=by
 obtain⟨a1,c1,a2,c2,rfl,h1,h2⟩:=h.parts;have hC:CB (w.alloc (.cells #[.slice a1 (b).tg.length c1,.slice a2 (b).bs.length c2] 26)) w.heap.size [.slice a1 b.tg.length c1,.slice a2 b.bs.length c2]:=F3 w _ _;have a7:=(A5 w.heap.size w).alloc (A4 _) (.cells #[.slice a1 (b).tg.length c1,.slice a2 (b).bs.length c2] 26);have g1:=h1.inv.1;have g2:=h2.at.1;unfold maxLen at g1 g2;go_in;go_upto_region 1 with fail;generalize w.alloc (.cells #[.slice a1 (b).tg.length c1,.slice a2 (b).bs.length c2] 26)=W1 at *;have l1:=h1.up a7;have l2:=h2.up a7;clear h h1 h2;obtain⟨tv,b9⟩:∃tv,Value.slice a1 b.tg.length c1=tv:=⟨_,rfl⟩;rw[b9] at l1 hC;clear b9;obtain⟨e0,e1⟩:=hC.c2';have b1:=hC.2.2;go_wp2_with fail;refine (Mw b.tg tv _ l1).mono ?_;rintro e w2 ⟨rfl,m2,d0⟩;have hB:Up W1 w2:=by rw[d0];exact G4 (A5 _ _) _
 clear d0;cases ho:pB (CM b.tg)
 ·have Hq:Hid (K4 b=false):=I5 λh=>S1.1 ho h.1;go_wp2_with fail;go_ret;exact⟨D8 Hq.out.symm,D5 a7 hB⟩
 have Ho:Hid (CM b.tg):=K5.1 ho;clear ho;obtain⟨hc,hf⟩:=G9 hB;by_cases h5:5<b.bs.length
 ·have Hq:Hid (K4 b=false):=I5 λh=>by have:=h.2.1;omega
  go_wp2_with fail;go_ret;exact⟨D8 Hq.out.symm,D5 a7 hB⟩
 obtain⟨-,b4⟩:=l2.at;go_wp2_with fail;clear hc hf;go_loopw [3,4,5] (λi _ _ w'=>∃k:Nat,k<=b.bs.length/\i=.int .i64 k/\Lc b k/\Up W1 w') (λi _ _ _=>b.bs.length-(intOf i).toNat)
 case atStart=>exact⟨0,by omega,rfl,⟨Aa.zero _,Y9.zero _,AW.zero _ _,T9.zero _⟩,hB⟩
 case round =>
  clear hB;obtain⟨k,hk,rfl,c0,hB⟩:=hrel;have Hal:Hid (Lc b k):=c0;clear c0;have f0:=(hB.cell (p:=⟨w.heap.size,0,none⟩) b1).trans e0;have f1:=(hB.cell (p:=⟨w.heap.size,1,none⟩) b1).trans e1;have d2:=hB.size;by_cases hp:k<b.bs.length
  ·obtain⟨bb,o,rfl,hS,hb⟩:=b4 (by omega);obtain⟨a3,d3,a4,d4,c3,c4,c5,l3,l4,z0⟩:=((hS.at hp).up hB hb).cells;have Hx:Hid (b.bs[k]?=some b.bs[k]):=A0 hp;have HP:Hid (∀(m:Nat)(hm:m<b.bs.length),T9 b.bs k m->m<k->O2 (b.bs[k]).has (b.bs[m]).has=false->T9 b.bs k (m+1)):=λm hm h h1 h2=>h.step hp h1 h2
   have HA:Hid (∀(m:Nat)(hm:m<b.bs.length),m<k->O2 (b.bs[k]).has (b.bs[m]).has=true->K4 b=false):=λm hm h1 h2=>I5 λhb=>by
    rw[hb.2.2.2.2.2.at hp h1] at h2;cases h2
   generalize b.bs[k]=x0 at *;have HN:Hid (¬Eb b k x0->K4 b=false):=λh=>I5 λhb=>h (VQ hb Hx.out);have a8:CB (wr.alloc (.cells #[.string (x0).nm,.slice a3 (x0).has.length d3,.slice a4 (x0).nj.length d4] 115)) wr.heap.size [.string x0.nm,.slice a3 x0.has.length d3,.slice a4 x0.nj.length d4]:=F3 wr _ _;have b2:=(A5 wr.heap.size wr).alloc (A4 _) (.cells #[.string (x0).nm,.slice a3 (x0).has.length d3,.slice a4 (x0).nj.length d4] 115);go_upto_region 7 with fail;generalize wr.alloc (.cells #[.string (x0).nm,.slice a3 (x0).has.length d3,.slice a4 (x0).nj.length d4] 115)=W2 at *;have a0:=D5 hB b2;have l3:=l3.up b2;have l4:=l4.up b2;have b5:=l1.up a0;obtain⟨hv,c6⟩:∃hv,Value.slice a3 x0.has.length d3=hv:=⟨_,rfl⟩;obtain⟨nv,c7⟩:∃nv,Value.slice a4 x0.nj.length d4=nv:=⟨_,rfl⟩;rw[c6] at l3 a8;rw[c7] at l4 a8;have f0:=(a0.cell (p:=⟨w.heap.size,0,none⟩) b1).trans e0;have f1:=(a0.cell (p:=⟨w.heap.size,1,none⟩) b1).trans e1;have d8:=a8.2.2;obtain⟨⟨q0,q1,q2⟩,-⟩:=a8.c3;have d9:wr.heap.size≠w.heap.size:=by omega
   have b0:=hS.up a0 hb;clear c6 c7 c3 c4 c5 b2 hB hS d2;generalize wr.heap.size=xb at *;have Q0:Hid (∀n,Calls prog 80 #[.string x0.nm] (W2.drewN n) λe w''=>e=.returned (.bool (G0 x0.nm))/\∃m,w''=W2.drewN m):=λn=>Calls.quiet_of_same (Dg _ _ z0);have Q1:Hid (∀n,Calls prog 81 #[nv,tv] (W2.drewN n) λe w''=>e=.returned (.bool (pB (I4 x0.nj b.tg)))/\∃m,w''=W2.drewN m):=λn=>Calls.quiet_of (CC x0.nj b.tg nv tv _ l4.drewN b5.drewN);have Q2:Hid (∀n,Calls prog 81 #[hv,nv] (W2.drewN n) λe w''=>e=.returned (.bool (pB (I4 x0.has x0.nj)))/\∃m,w''=W2.drewN m):=λn=>Calls.quiet_of (CC x0.has x0.nj hv nv _ l3.drewN l4.drewN);cases hq:G0 x0.nm
   ·have Hq:Hid (¬Eb b k x0):=λh=>by rw[h.1] at hq;cases hq
    (go_wp2_with fail;go_quiet ((first|(go_at_call 80;exact Q0.out _)|(go_at_call_of 81 tv;exact Q1.out _)|(go_at_call_of 81 hv;exact Q2.out _)));go_wp2;go_ret;exact⟨D8 (HN.out (by first|exact Hq.out)).symm,D5 a7 (G4 a0 _)⟩)
   have H1:Hid (G0 x0.nm=true):=hq;cases k with
   | zero =>
    have H2:Hid (∀y,0<0->b.bs[0-1]?=some y->T6 y.nm x0.nm=true):=λy h=>by omega
    cases hq1:pB (I4 x0.nj b.tg)
    ·have Hq:Hid (¬Eb b (0) x0):=λh=>S1.1 hq1 h.2.2.1
     (go_wp2_with fail;go_quiet ((first|(go_at_call 80;exact Q0.out _)|(go_at_call_of 81 tv;exact Q1.out _)|(go_at_call_of 81 hv;exact Q2.out _)));go_wp2;go_ret;exact⟨D8 (HN.out (by first|exact Hq.out)).symm,D5 a7 (G4 a0 _)⟩)
    have H3:Hid (I4 x0.nj b.tg):=K5.1 hq1;cases hq2:pB (I4 x0.has x0.nj)
    ·have Hq:Hid (¬Eb b (0) x0):=λh=>S1.1 hq2 h.2.2.2
     (go_wp2_with fail;go_quiet ((first|(go_at_call 80;exact Q0.out _)|(go_at_call_of 81 tv;exact Q1.out _)|(go_at_call_of 81 hv;exact Q2.out _)));go_wp2;go_ret;exact⟨D8 (HN.out (by first|exact Hq.out)).symm,D5 a7 (G4 a0 _)⟩)
    have H4:Hid (Eb b (0) x0):=⟨H1.out,H2.out,H3.out,K5.1 hq2⟩;go_wp2_with fail;go_quiet ((first|(go_at_call 80;exact Q0.out _)|(go_at_call_of 81 tv;exact Q1.out _)|(go_at_call_of 81 hv;exact Q2.out _)))
    have b6:Up W1 (W2.drewN nq):=G4 a0 _;have x1:(W2.drewN nq).cell? ⟨xb,1,none⟩=some hv:=q1;have y1:(W2.drewN nq).cell? ⟨w.heap.size,1,none⟩=some (.slice (some ⟨bb,o,none⟩) b.bs.length c2):=f1;have lX:Ls (W2.drewN nq) hv x0.has:=l3;have sX:GN (W2.drewN nq) bb o b.bs:=b0;clear Q0 Q1 Q2 a0 q0 q1 q2 f0 f1 l3 l4 b5 b0 a8 HN H1 H2 H3 hq1 hq2 hq;generalize W2.drewN nq=X at *;go_wp2_with fail;go_loopw [5] (λj w'=>∃m n:Nat,m<=0/\j=.int .i64 m/\T9 b.bs (0) m/\w'=X.drewN n) (λj _=>0-(intOf j).toNat)
    case atStart=>exact⟨0,0,by omega,rfl,Hal.out.2.2.2,rfl⟩
    case round =>
     obtain⟨m,n,hm,rfl,a9,hw⟩:=hrel;have Hw:Hid (wr=X.drewN n):=hw;have Hap:Hid (T9 b.bs (0) m):=a9;clear hw a9;have b3:Up W1 wr:=by rw[Hw.out];exact G4 b6 _
     by_cases hmk:m<0
     ·omega
     ·have Hs:Hid (Lc b (0+1)):=MY Hal.out Hx.out H4.out (Hap.out.next hmk);go_wp2_with fail;go_roundw
      case rel=>exact⟨0+1,by omega,by go_num,Hs.out,b3⟩
      case measure=>simp[intOf];omega
   | succ k =>
    obtain⟨-,-,-,-,p0,-⟩:=(b0.at (k:=k) (by omega)).cells;have Hy:Hid (b.bs[k+1-1]?=some (b.bs[k]'(by omega))):=by show _=_;rw[Nat.add_sub_cancel];exact A0 _
    generalize b.bs[k]'(by omega)=y0 at *;cases hl:T6 y0.nm x0.nm
    ·have Hq:Hid (¬Eb b (k+1) x0):=λh=>by rw[h.2.1 y0 (by omega) Hy.out] at hl;cases hl
     unfold T6 at hl
     (go_wp2_with fail;go_quiet ((first|(go_at_call 80;exact Q0.out _)|(go_at_call_of 81 tv;exact Q1.out _)|(go_at_call_of 81 hv;exact Q2.out _)));go_wp2;go_ret;exact⟨D8 (HN.out (by first|exact Hq.out)).symm,D5 a7 (G4 a0 _)⟩)
    have H2:Hid (∀y,0<k+1->b.bs[k+1-1]?=some y->T6 y.nm x0.nm=true):=λy _ hy=>by
     rw[Hy.out] at hy;obtain rfl:=A6 hy;exact hl
    unfold T6 at hl;cases hq1:pB (I4 x0.nj b.tg)
    ·have Hq:Hid (¬Eb b (k+1) x0):=λh=>S1.1 hq1 h.2.2.1
     (go_wp2_with fail;go_quiet ((first|(go_at_call 80;exact Q0.out _)|(go_at_call_of 81 tv;exact Q1.out _)|(go_at_call_of 81 hv;exact Q2.out _)));go_wp2;go_ret;exact⟨D8 (HN.out (by first|exact Hq.out)).symm,D5 a7 (G4 a0 _)⟩)
    have H3:Hid (I4 x0.nj b.tg):=K5.1 hq1;cases hq2:pB (I4 x0.has x0.nj)
    ·have Hq:Hid (¬Eb b (k+1) x0):=λh=>S1.1 hq2 h.2.2.2
     (go_wp2_with fail;go_quiet ((first|(go_at_call 80;exact Q0.out _)|(go_at_call_of 81 tv;exact Q1.out _)|(go_at_call_of 81 hv;exact Q2.out _)));go_wp2;go_ret;exact⟨D8 (HN.out (by first|exact Hq.out)).symm,D5 a7 (G4 a0 _)⟩)
    have H4:Hid (Eb b (k+1) x0):=⟨H1.out,H2.out,H3.out,K5.1 hq2⟩;go_wp2_with fail;go_quiet ((first|(go_at_call 80;exact Q0.out _)|(go_at_call_of 81 tv;exact Q1.out _)|(go_at_call_of 81 hv;exact Q2.out _)))
    have b6:Up W1 (W2.drewN nq):=G4 a0 _;have x1:(W2.drewN nq).cell? ⟨xb,1,none⟩=some hv:=q1;have y1:(W2.drewN nq).cell? ⟨w.heap.size,1,none⟩=some (.slice (some ⟨bb,o,none⟩) b.bs.length c2):=f1;have lX:Ls (W2.drewN nq) hv x0.has:=l3;have sX:GN (W2.drewN nq) bb o b.bs:=b0;clear Q0 Q1 Q2 a0 q0 q1 q2 f0 f1 l3 l4 b5 b0 a8 HN H1 H2 H3 hq1 hq2 hq;clear p0;generalize W2.drewN nq=X at *;go_wp2_with fail;go_loopw [5] (λj w'=>∃m n:Nat,m<=k+1/\j=.int .i64 m/\T9 b.bs (k+1) m/\w'=X.drewN n) (λj _=>k+1-(intOf j).toNat)
    case atStart=>exact⟨0,0,by omega,rfl,Hal.out.2.2.2,rfl⟩
    case round =>
     obtain⟨m,n,hm,rfl,a9,hw⟩:=hrel;have Hw:Hid (wr=X.drewN n):=hw;have Hap:Hid (T9 b.bs (k+1) m):=a9;clear hw a9;have b3:Up W1 wr:=by rw[Hw.out];exact G4 b6 _
     by_cases hmk:m<k+1
     ·have b7:m<b.bs.length:=by omega
      obtain⟨a5,d5,a6,d6,-,r1,-,l5,-,-⟩:=(sX.at b7).cells;have d7:wr.cell? ⟨bb,o+m*3+1,none⟩=some (.slice a5 (b.bs[m]).has.length d5):=by rw[Hw.out];exact r1
      have e2:wr.cell? ⟨xb,1,none⟩=some hv:=by rw[Hw.out];exact x1
      have e3:wr.cell? ⟨w.heap.size,1,none⟩=some (.slice (some ⟨bb,o,none⟩) b.bs.length c2):=by rw[Hw.out];exact y1
      have HP1:Hid (O2 x0.has (b.bs[m]).has=false->T9 b.bs (k+1) (m+1)):=HP.out m b7 Hap.out hmk;have HA1:Hid (O2 x0.has (b.bs[m]).has=true->K4 b=false):=HA.out m b7 hmk;have c9:Ls wr hv x0.has:=by rw[Hw.out];exact lX
      have b8:Ls wr (.slice a5 (b.bs[m]).has.length d5) (b.bs[m]).has:=by rw[Hw.out];exact l5
      clear r1 l5;generalize b.bs[m]=y0 at *;obtain⟨uv,c8⟩:∃uv,Value.slice a5 y0.has.length d5=uv:=⟨_,rfl⟩;rw[c8] at d7 b8;clear c8;cases hs:O2 x0.has y0.has
      ·have Hs:Hid (T9 b.bs (k+1) (m+1)):=HP1.out hs;have Q3:Hid (∀n,Calls prog 135 #[hv,uv] (wr.drewN n) λe w''=>e=.returned (.bool false)/\∃m,w''=wr.drewN m):=λn=>by rw[← hs];exact Calls.quiet_of_same (ET x0.has y0.has hv uv _ c9.drewN b8.drewN)
       go_wp2_with fail;go_quiet ((go_at_call 135;exact Q3.out _))
       go_wp2_with fail;go_roundw
       case rel =>
        obtain⟨m',d1⟩:=Ax (n:=nq) Hw.out;exact⟨m+1,m',by omega,by go_num,Hs.out,d1⟩
       case measure=>simp[intOf];omega
      ·have Hs:Hid (K4 b=false):=HA1.out hs;have Q3:Hid (∀n,Calls prog 135 #[hv,uv] (wr.drewN n) λe w''=>e=.returned (.bool true)/\∃m,w''=wr.drewN m):=λn=>by rw[← hs];exact Calls.quiet_of_same (ET x0.has y0.has hv uv _ c9.drewN b8.drewN)
       go_wp2_with fail;go_quiet ((go_at_call 135;exact Q3.out _))
       go_wp2_with fail;go_ret;exact⟨D8 Hs.out.symm,D5 a7 (G4 b3 _)⟩
     ·have Hs:Hid (Lc b (k+1+1)):=MY Hal.out Hx.out H4.out (Hap.out.next hmk);go_wp2_with fail;go_roundw
      case rel=>exact⟨k+1+1,by omega,by go_num,Hs.out,b3⟩
      case measure=>simp[intOf];omega
  ·have Hq:Hid (K4 b=true):=L9 (VR Hal.out hp Ho.out (by omega));go_wp2_with fail;go_ret;exact⟨D8 Hq.out.symm,D5 a7 hB⟩
theorem OB(ss:List BA)(v:Value)(nm:BA)(w:World)(h:R8 w v ss)(hn:ss.length<=1000):
  Calls prog 141 #[v,Tz nm] w λe w'=>(∃u,e=.returned u/\R8 w' u (M7 ss nm)/\(u=v/\M7 ss nm=ss∨F7 w' w.heap.size u (M7 ss nm)))/\Up w w':=by
 have hT:=h;obtain⟨g,c,rfl,hS,hg,hc,b0⟩:=h;unfold maxLen at b0;obtain⟨ii,hi,a1,a2,a3⟩:=info_parts V7;have HT:Hid (R8 w (Sz g ss.length c) ss):=hT;clear hT;go_in;go_wp2_with fail;go_loop [5] (λi=>∃k:Nat,k<=ss.length/\i=.int .i64 k/\JI ss nm k) (λi=>ss.length-(intOf i).toNat)
 case atStart=>exact⟨0,by omega,rfl,λj s hj=>by omega⟩
 case round =>
  obtain⟨k,hk,rfl,a4⟩:=hrel;have Hlow:Hid (JI ss nm k):=a4;clear a4;by_cases hp:k<ss.length
  ·have c0:=hS k ss[k] (by simp[hp]);simp only[Nat.zero_add] at c0;cases hl:Op.bytesLess (ss[k]).toList nm.toList
   case true =>
    have Hl:Hid (DD ss[k] nm=true):=hl;go_wp2_with fail;go_round
    case rel=>exact⟨k+1,by omega,by go_num,MQ Hlow.out hp Hl.out⟩
    case measure=>simp[intOf];omega
   have Hl:Hid (DD ss[k] nm=false):=hl;cases hq:((ss[k]).toList==nm.toList)
   case true =>
    have Hq:Hid (M7 ss nm=ss):=KW ss nm k Hlow.out ⟨ss[k],by simp[hp],Hl.out,hq⟩;go_wp2_with fail;go_ret;exact⟨⟨_,rfl,by rw[Hq.out];exact HT.out,.inl ⟨rfl,Hq.out⟩⟩,A5 _ _⟩
   have Hq:Hid (M7 ss nm=ss.take k++nm::ss.drop k):=FU ss nm k Hlow.out hk (λs hs=>by
    obtain⟨_,rfl⟩:=A3.1 hs;exact⟨Hl.out,hq⟩)
   go_wp2_with fail
   obtain⟨o2,a0⟩:∃o2:Nat,(if c=k then some (⟨g,0,none⟩:Addr) else some ⟨g,k,none⟩)=some ⟨g,o2,none⟩/\F9 w g o2 (ss.drop k):=by
    by_cases h7:c=k
    ·exact⟨0,by rw[if_pos h7],λi s hs=>by
      have:=(A3.1 hs).1;simp at this;omega⟩
    ·exact⟨k,by rw[if_neg h7],by have:=hS.drop k;simpa using this⟩
   obtain⟨a0,-⟩:=a0;have Nb:((w.alloc (Kz [] 9)).alloc (Kz [Tz nm] 9)).drew.cell? ⟨w.heap.size+1,0,none⟩=some (Tz nm):=by simp[go_sem]
   have a6:some (w.heap.size+1)≠(Vz (some ⟨w.heap.size,0,none⟩) 0 0).ownBlock:=by simp[Value.ownBlock]
   have Nc:((w.alloc (Kz [Tz nm] 9)).alloc (Kz [] 9)).drew.cell? ⟨w.heap.size,0,none⟩=some (Tz nm):=by simp[go_sem]
   have a7:some w.heap.size≠(Vz (some ⟨w.heap.size+1,0,none⟩) 0 0).ownBlock:=by simp[Value.ownBlock]
   have b1:k<=c:=by omega
   have Fa:=(Cz hS (A5 w.heap.size w)).drew;have Fb:=((Cz hS (A5 w.heap.size w)).alloc (Kz [Tz nm] 9)).drew;have Fc:=(Cz (hS.alloc (Kz [Tz nm] 9)) ((A5 w.heap.size w).alloc (A4 _) (Kz [Tz nm] 9))).drew;rw[show (w.alloc (Kz [Tz nm] 9)).heap.size=w.heap.size+1 by simp] at Fc
   go_region_law (first
    | (revert h2;intro h2;refine J0 rfl _ _ 23 rfl w.heap.size 9 ii _ 1 16 underlying23 hi a1 a2 a3 rfl (by decide) _ _ _ rfl h2.1 ⟨g,o2,none⟩ (ss.length-k) _ ((ss.drop k).map Value.string) rfl (by simp) (S0 (Gr h2.2.1 a0 hc)) (CJ _) (by unfold maxLen;omega) (by omega) h2.2.2.size ?_;intro v3 w3 hown3 hgrow3;have h3:=h2.grow hg hgrow3 hown3;clear h2 hown3 hgrow3)
    | (revert h1;intro h1;refine J0 rfl _ _ 23 rfl w.heap.size 9 ii _ 1 16 underlying23 hi a1 a2 a3 rfl (by decide) _ _ _ rfl (by first|exact h1.1|exact (h1.alloc _).1) _ 1 1 [Tz nm] rfl rfl (by first|exact AD _ _ _|exact Kp a5) (DG nm) (by unfold maxLen;omega) (by omega) (by first|exact h1.2.2.size|exact (h1.alloc _).2.2.size) ?_;intro v2 w2 hown2 hgrow2;first|have h2:=h1.grow hg hgrow2 hown2|have h2:=(h1.alloc _).grow hg hgrow2 hown2;clear h1 hown2 hgrow2)
    | (refine J0 rfl _ _ 23 rfl w.heap.size 9 ii _ 1 16 underlying23 hi a1 a2 a3 rfl (by decide) _ 0 [] rfl (by first|exact Fa.1|exact Fb.1|exact Fc.1) ⟨g,0,none⟩ k _ ((ss.take k).map Value.string) rfl (by simp;omega) (by first|exact S0 (Fa.2.1.take k)|exact S0 (Fb.2.1.take k)|exact S0 (Fc.2.1.take k)) (CJ _) (by unfold maxLen;omega) (by omega) (by first|exact Fa.2.2.size|exact Fb.2.2.size|exact Fc.2.2.size) ?_;intro v1 w1 hown1 hgrow1;first|(have h1:=Fa.grow hg hgrow1 hown1)|(have h1:=Fb.grow hg hgrow1 hown1;have a5:=hgrow1.cell Nb a6)|(have h1:=Fc.grow hg hgrow1 hown1;have a5:=hgrow1.cell Nc a7);clear hown1 hgrow1))
   all_goals
    have HT3:R8 w3 v3 (M7 ss nm):=by
     rw[Hq.out];exact R8.own (n:=0+k+1+(ss.length-k)) (by simpa using h3.1) (by simp;omega) (I6 h3.1 (by omega))
    have a8:F7 w3 w.heap.size v3 (M7 ss nm):=by
     unfold F7;rw[Hq.out];have:=h3.1;have e1:(ss.take k++nm::ss.drop k).length=0+k+1+(ss.length-k):=by simp;omega
     rw[e1];simpa using this
    have a9:=h3.2.2;clear h3;go_wp2_with fail;go_ret;exact⟨⟨_,rfl,HT3,.inr a8⟩,a9⟩
  ·have Hq:Hid (M7 ss nm=ss.take k++nm::ss.drop k):=FU ss nm k Hlow.out hk (λs hs=>by
    have:=(A3.1 hs).1;omega)
   go_wp2_with fail
   obtain⟨o2,a0⟩:∃o2:Nat,(if c=k then some (⟨g,0,none⟩:Addr) else some ⟨g,k,none⟩)=some ⟨g,o2,none⟩/\F9 w g o2 (ss.drop k):=by
    by_cases h7:c=k
    ·exact⟨0,by rw[if_pos h7],λi s hs=>by
      have:=(A3.1 hs).1;simp at this;omega⟩
    ·exact⟨k,by rw[if_neg h7],by have:=hS.drop k;simpa using this⟩
   obtain⟨a0,-⟩:=a0;have Nb:((w.alloc (Kz [] 9)).alloc (Kz [Tz nm] 9)).drew.cell? ⟨w.heap.size+1,0,none⟩=some (Tz nm):=by simp[go_sem]
   have a6:some (w.heap.size+1)≠(Vz (some ⟨w.heap.size,0,none⟩) 0 0).ownBlock:=by simp[Value.ownBlock]
   have Nc:((w.alloc (Kz [Tz nm] 9)).alloc (Kz [] 9)).drew.cell? ⟨w.heap.size,0,none⟩=some (Tz nm):=by simp[go_sem]
   have a7:some w.heap.size≠(Vz (some ⟨w.heap.size+1,0,none⟩) 0 0).ownBlock:=by simp[Value.ownBlock]
   have b1:k<=c:=by omega
   have Fa:=(Cz hS (A5 w.heap.size w)).drew;have Fb:=((Cz hS (A5 w.heap.size w)).alloc (Kz [Tz nm] 9)).drew;have Fc:=(Cz (hS.alloc (Kz [Tz nm] 9)) ((A5 w.heap.size w).alloc (A4 _) (Kz [Tz nm] 9))).drew;rw[show (w.alloc (Kz [Tz nm] 9)).heap.size=w.heap.size+1 by simp] at Fc
   go_region_law (first
    | (revert h2;intro h2;refine J0 rfl _ _ 23 rfl w.heap.size 9 ii _ 1 16 underlying23 hi a1 a2 a3 rfl (by decide) _ _ _ rfl h2.1 ⟨g,o2,none⟩ (ss.length-k) _ ((ss.drop k).map Value.string) rfl (by simp) (S0 (Gr h2.2.1 a0 hc)) (CJ _) (by unfold maxLen;omega) (by omega) h2.2.2.size ?_;intro v3 w3 hown3 hgrow3;have h3:=h2.grow hg hgrow3 hown3;clear h2 hown3 hgrow3)
    | (revert h1;intro h1;refine J0 rfl _ _ 23 rfl w.heap.size 9 ii _ 1 16 underlying23 hi a1 a2 a3 rfl (by decide) _ _ _ rfl (by first|exact h1.1|exact (h1.alloc _).1) _ 1 1 [Tz nm] rfl rfl (by first|exact AD _ _ _|exact Kp a5) (DG nm) (by unfold maxLen;omega) (by omega) (by first|exact h1.2.2.size|exact (h1.alloc _).2.2.size) ?_;intro v2 w2 hown2 hgrow2;first|have h2:=h1.grow hg hgrow2 hown2|have h2:=(h1.alloc _).grow hg hgrow2 hown2;clear h1 hown2 hgrow2)
    | (refine J0 rfl _ _ 23 rfl w.heap.size 9 ii _ 1 16 underlying23 hi a1 a2 a3 rfl (by decide) _ 0 [] rfl (by first|exact Fa.1|exact Fb.1|exact Fc.1) ⟨g,0,none⟩ k _ ((ss.take k).map Value.string) rfl (by simp;omega) (by first|exact S0 (Fa.2.1.take k)|exact S0 (Fb.2.1.take k)|exact S0 (Fc.2.1.take k)) (CJ _) (by unfold maxLen;omega) (by omega) (by first|exact Fa.2.2.size|exact Fb.2.2.size|exact Fc.2.2.size) ?_;intro v1 w1 hown1 hgrow1;first|(have h1:=Fa.grow hg hgrow1 hown1)|(have h1:=Fb.grow hg hgrow1 hown1;have a5:=hgrow1.cell Nb a6)|(have h1:=Fc.grow hg hgrow1 hown1;have a5:=hgrow1.cell Nc a7);clear hown1 hgrow1))
   all_goals
    have HT3:R8 w3 v3 (M7 ss nm):=by
     rw[Hq.out];exact R8.own (n:=0+k+1+(ss.length-k)) (by simpa using h3.1) (by simp;omega) (I6 h3.1 (by omega))
    have a8:F7 w3 w.heap.size v3 (M7 ss nm):=by
     unfold F7;rw[Hq.out];have:=h3.1;have e1:(ss.take k++nm::ss.drop k).length=0+k+1+(ss.length-k):=by simp;omega
     rw[e1];simpa using this
    have a9:=h3.2.2;clear h3;go_wp2_with fail;go_ret;exact⟨⟨_,rfl,HT3,.inr a8⟩,a9⟩
end Go.Proofs.YtmonodehegcfhaaGreatDoor
