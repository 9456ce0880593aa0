/- What the row's list gives: the errors package's handle of the type error; a world for the witness. -/
import Derived.Test.YtmonodehegcfhaaGreatDoorRows
import Derived.Test.YtmonodehegcfhaaGreatDoorJ6
import Derived.Test.YtmonodehegcfhaaGreatDoorJ25
import Derived.LaidHandle
import Derived.Test.YtmonodehegcfhaaGreatDoorJ43
import Derived.Test.YtmonodehegcfhaaGreatDoorJ9
import Derived.Test.YtmonodehegcfhaaGreatDoorJ16
import Derived.Test.YtmonodehegcfhaaGreatDoorJ12
import Derived.Test.YtmonodehegcfhaaGreatDoorJ31
import Derived.Test.YtmonodehegcfhaaGreatDoorJ23
import Derived.Test.YtmonodehegcfhaaGreatDoorXr
import Derived.Test.YtmonodehegcfhaaGreatDoorJ35
set_option maxRecDepth 20000
set_option maxHeartbeats 8000000
namespace Go.Proofs.YtmonodehegcfhaaGreatDoor
open Go.Proofs.Tryz
open Go.ChangeShapes Go.WideShapes Go.ChangeAt Go.RowKit
variable{b:Bk}{nm:BA}{h h':House}{cd:Int}{ls nj:List BA}{ps:List Ph}{bs:List Rb}{sl:List Sl}{k:Nat}{x y:Rb}{W:World}
theorem etN:prog.globalNamed "errors.errorType"=some 1:=by kernel_rfl
theorem rtN:(prog.cutTypes.find? (·.1 == "internal/reflectlite.rtype")).map (·.2)=some 210:=by kernel_rfl
theorem YZ:((List.range prog.types.size).filter λt=>prog.rowNamed t [101,114,114,111,114])=[62]:=by kernel_rfl
theorem BD.of_laid(h:laidMetH prog [("errors.errorType",Rows.laid_errors_errorType)] W):BD W:=by
 have h':laidMet prog [] W/\handlesMet prog [("errors.errorType",Rows.laid_errors_errorType)] W:=h;obtain⟨a0,u,ty,e1,e2,e3,e4,e5⟩:=h'.2 _ (D1.2 rfl);have en:a0=[101,114,114,111,114]:=(A6 e1).symm;subst en;obtain rfl:=A6 (rtN.symm.trans e2);have hm:ty∈(List.range prog.types.size).filter λt=>prog.rowNamed t [101,114,114,111,114]:=List.mem_filter.2 ⟨List.mem_range.2 e3,e4⟩;rw[YZ] at hm;obtain rfl:=D1.1 hm;have hh:typeHandle prog 62=(Value.pointer (some ⟨2,62,none⟩)):=by kernel_rfl
 rw[hh] at e5;unfold BD;simpa using World.var?_cell etN e5 0
theorem Qf(h:laidMetH prog [("errors.errorType",Rows.laid_errors_errorType),("loop.example/maltrun/impl.recEndNames",Rows.laid_loop_example_maltrun_impl_recEndNames)] W):P2 W/\BD W:=by
 have h':laidMet prog [("loop.example/maltrun/impl.recEndNames",Rows.laid_loop_example_maltrun_impl_recEndNames)] W/\handlesMet prog [("errors.errorType",Rows.laid_errors_errorType)] W:=h;have h2:laidMet prog [] W/\handlesMet prog [("errors.errorType",Rows.laid_errors_errorType)] W:=⟨laidMet_nil _ _,h'.2⟩;exact⟨P2.of_laid h'.1,BD.of_laid h2⟩
noncomputable def Ju(os:Os):World :=
 {MX os with heap:=(MX os).heap.modify 1 fun
   | .cells _ t frozen=>.cells #[(Value.iface 210 (.agg #[(Value.pointer (some ⟨2,62,none⟩))]))] t frozen
   | o=>o}
theorem VB(os:Os)(args:Array Value):laidMetH prog [("errors.errorType",Rows.laid_errors_errorType),("loop.example/maltrun/impl.recEndNames",Rows.laid_loop_example_maltrun_impl_recEndNames)] ((Ju os).forCall (λ_ _=>0) ⟨#[],args,[]⟩).memory :=
 laidMetH_of_parts (laidMet_of_run (ps:=[.cell 0 0,.cell 0 1,.cell 0 2]) 8 (by kernel_rfl) (by kernel_rfl) (by kernel_rfl)) (by kernel_rfl)
end Go.Proofs.YtmonodehegcfhaaGreatDoor
namespace Go.Proofs.YtmonodehegcfhaaGreatDoor
open Go.Proofs.Tryz
open Go.RowKit
variable{b:Bk}{nm:BA}{h h':House}{cd:Int}{ls nj:List BA}{ps:List Ph}{bs:List Rb}{sl:List Sl}{k:Nat}{x y:Rb}{W:World}
theorem VC(h:House)(tv bv xv dv:Value)(w:World)(hE:P2 w)(H:HV w h tv bv xv dv)(hok:J1 h.sh)(hN:Cf h)(hBt:DA h):
  Calls prog 40 #[.agg #[Iz h.now,Iz h.last,tv,bv,xv,dv]] w λe w'=>e=.returned (.bool (pB (CR h h.bs.length)))/\Up w w':=by
 obtain⟨a1,c1,a2,c2,a3,c3,a4,c4,rfl,rfl,rfl,rfl⟩:=H.shapes;obtain⟨b4,b5⟩:=H.x.inv rfl;unfold maxLen at b4;have HK:=H.book;clear H;have HE:Hid (P2 w):=hE;have HM:Hid (J1 h.sh/\Cf h):=⟨hok,hN⟩;have HBt:Hid (DA h):=hBt;clear hE hok hN hBt;have g0:=Th;have b3:=(A5 w.heap.size w).alloc (A4 _) (.cells (Hcz h a1 c1 a2 c2 a3 c3 a4 c4).toArray 30);have hC:CB (w.alloc (.cells (Hcz h a1 c1 a2 c2 a3 c3 a4 c4).toArray 30)) w.heap.size (Hcz h a1 c1 a2 c2 a3 c3 a4 c4):=F3 w _ _;go_in;go_upto_region 1 with fail;generalize w.alloc (.cells (Hcz h a1 c1 a2 c2 a3 c3 a4 c4).toArray 30)=W1 at *;have c5:=hC.2.2;obtain⟨d0,d1,d2,d3,d4,d5⟩:=hC.c6;go_wp2_with fail;(try dsimp only[Iz,Sz,Sy,Nz,Vz,Tz,Ez,Pz]);go_loopw [4,5,6,10] (λ_ _ _ i w'=>∃k:Nat,k<=h.bs.length/\i=.int .i64 k/\CR h k/\Up W1 w') (λ_ _ _ i _=>h.bs.length-(intOf i).toNat)
 case atStart=>exact⟨0,by omega,rfl,λi b hi=>by omega,A5 _ _⟩
 case round =>
  obtain⟨k,hk,rfl,hinv,hB⟩:=hrel;have HI:Hid (CR h k):=hinv;clear hinv d0 d1 d2 d3 d4 d5;by_cases hp:k<h.bs.length
  ·obtain⟨b,o,e7,hS,hb⟩:=b5 (by omega);subst e7;have b6:=D5 b3 hB;obtain⟨p,q,c,g,r,d,⟨e0,e1,e2,e3,e4,e5⟩,hv⟩:=((hS.at hp).up b6 hb).open;have NO:Hid (¬(0<=(h.bs[k]).si->BZ (K7 h.bs[k]) (P5 h.sh (h.bs[k]).nm).has)->pB (CR h h.bs.length)=false):=λhn=>I5 λt=>hn (t k _ hp (A0 hp));have YES:Hid ((0<=(h.bs[k]).si->BZ (K7 h.bs[k]) (P5 h.sh (h.bs[k]).nm).has)->CR h (k+1)):=λhy=>EG (P:=λ_ (b:Rb)=>0<=b.si->BZ (K7 b) (P5 h.sh b.nm).has) HI.out hp hy;have Hsi:Hid (-1<=(h.bs[k]).si):=(HBt.out k _ hp (A0 hp)).1.2.2.2.2.2.1;have Hmem:Hid ((h.bs[k]).nm∈G7 h.sh.bs):=HM.out.2.2.2 _ (List.mem_map.2 ⟨h.bs[k],by simp,rfl⟩);generalize h.bs[k]=x0 at *;clear hS;have a5:=hB.alloc hB.size (Kz [Tz x0.nm,Sy p q x0.ps.length c,Sy g r x0.sl.length d,Tz x0.ad,Iz x0.si,Iz x0.st] 40);have hX:CB (wr.alloc (Kz [Tz x0.nm,Sy p q x0.ps.length c,Sy g r x0.sl.length d,Tz x0.ad,Iz x0.si,Iz x0.st] 40)) wr.heap.size [Tz x0.nm,Sy p q x0.ps.length c,Sy g r x0.sl.length d,Tz x0.ad,Iz x0.si,Iz x0.st]:=F3 wr _ _;have b7:=hv.up ((A5 wr.heap.size wr).alloc (A4 _) (Kz [Tz x0.nm,Sy p q x0.ps.length c,Sy g r x0.sl.length d,Tz x0.ad,Iz x0.si,Iz x0.st] 40));go_upto_region 4 with fail;generalize wr.alloc (Kz [Tz x0.nm,Sy p q x0.ps.length c,Sy g r x0.sl.length d,Tz x0.ad,Iz x0.si,Iz x0.st] 40)=W2 at *;obtain⟨f0,f1,f2,f3,f4,f5⟩:=hX.c6;obtain⟨d0,d1,d2,d3,d4,d5⟩:=(hC.up a5 c5).c6;have a6:=hX.2.2;have a7:w.heap.size<W2.heap.size:=A2 c5 a5.size;have b8:=D5 b3 a5;have a8:Up W2 W2/\At W2 w.heap.size 0 (Iz h.now)/\At W2 w.heap.size 1 (Iz h.last)/\At W2 w.heap.size 2 (Vz a1 h.sh.tg.length c1)/\At W2 w.heap.size 3 (Vz a2 h.sh.bs.length c2)/\At W2 w.heap.size 4 (Sy b o h.bs.length c3)/\At W2 w.heap.size 5 (Vz a4 h.ds.length c4)/\At W2 wr.heap.size 0 (Tz x0.nm)/\At W2 wr.heap.size 1 (Sy p q x0.ps.length c)/\At W2 wr.heap.size 2 (Sy g r x0.sl.length d)/\At W2 wr.heap.size 3 (Tz x0.ad)/\At W2 wr.heap.size 4 (Iz x0.si)/\At W2 wr.heap.size 5 (Iz x0.st):=⟨A5 _ _,d0,d1,d2,d3,d4,d5,f0,f1,f2,f3,f4,f5⟩;have HSH:Hid (∀W,Up w W->Calls prog 93 #[.agg #[Iz h.now,Iz h.last,Vz a1 h.sh.tg.length c1,Vz a2 h.sh.bs.length c2,Sy b o h.bs.length c3,Vz a4 h.ds.length c4],.agg #[Tz x0.nm,Sy p q x0.ps.length c,Sy g r x0.sl.length d,Tz x0.ad,Iz x0.si,Iz x0.st]] W λe w'=>(∃b1 k1 b2 k2,e=.returned (.agg #[Tz (P5 h.sh x0.nm).nm,Vz b1 (P5 h.sh x0.nm).has.length k1,Vz b2 (P5 h.sh x0.nm).nj.length k2])/\Ls w' (Vz b1 (P5 h.sh x0.nm).has.length k1) (P5 h.sh x0.nm).has/\Ls w' (Vz b2 (P5 h.sh x0.nm).nj.length k2) (P5 h.sh x0.nm).nj)/\Up W w'):=λW hW=>KQ h x0 a1 a2 (some ⟨b,o,none⟩) a4 c1 c2 c3 c4 p q c g r d W (HK.up hW) HM.out.1 Hmem.out;clear e0 e1 e2 e3 e4 e5 hv d0 d1 d2 d3 d4 d5 f0 f1 f2 f3 f4 f5;have Hsz:Hid (∀s∈K7 x0,s.size<=maxLen):=Ah b7;have Hv:Hid (T1 W2 x0 (Sy p q x0.ps.length c) (Sy g r x0.sl.length d)):=b7;clear b7;generalize hy:P5 h.sh x0.nm=y at *;by_cases hsi:x0.si=-1
   ·have HY:Hid (CR h (k+1)):=YES.out λh0=>by omega
    have e8:Up W2 W2/\At W2 w.heap.size 0 (Iz h.now)/\At W2 w.heap.size 1 (Iz h.last)/\At W2 w.heap.size 2 (Vz a1 h.sh.tg.length c1)/\At W2 w.heap.size 3 (Vz a2 h.sh.bs.length c2)/\At W2 w.heap.size 4 (Sy b o h.bs.length c3)/\At W2 w.heap.size 5 (Vz a4 h.ds.length c4)/\At W2 wr.heap.size 0 (Tz x0.nm)/\At W2 wr.heap.size 1 (Sy p q x0.ps.length c)/\At W2 wr.heap.size 2 (Sy g r x0.sl.length d)/\At W2 wr.heap.size 3 (Tz x0.ad)/\At W2 wr.heap.size 4 (Iz (-1))/\At W2 wr.heap.size 5 (Iz x0.st):=by rw[← hsi];exact a8
    obtain⟨-,-,-,-,-,-,-,f0,f1,f2,f3,f4,f5⟩:=e8;have Hs1:Hid (x0.si=-1):=hsi;clear hsi a8;go_upto_region 5 with (go_at_call 94;refine (Jr _ _ _ _ _ _ _ _ _ _).mono ?_;rintro e w3 ⟨rfl,a0⟩)
    have e9:=D5 a5 a0;clear f0 f1 f2 f3 f4 f5;go_wp2_with fail;go_quiet (fail);go_wp2_with fail;go_roundw
    case rel=>exact⟨k+1,by omega,by go_num,HY.out,G4 e9 _⟩
    case measure=>simp[intOf];omega
   ·have H0:Hid (0<=x0.si):=by have:=Hsi.out;show _<=_;omega
    have Hs1:Hid (¬x0.si=-1):=hsi;obtain⟨-,-,-,-,-,-,-,f0,f1,f2,f3,f4,f5⟩:=id a8;clear hsi;go_upto_region 5 with (go_at_call 94;refine (Lx _ _ _ _ _ _ _ _ _ _ _ Hs1.out).mono ?_;rintro e w3 ⟨rfl,a0⟩)
    have c7:=Gh a7 a6 a8 a0;have f6:=Hv.out.up a0;have a9:=D5 b8 a0;clear f0 f1 f2 f3 f4 f5 a8;have c8:Up w3 w3/\At w3 w.heap.size 0 (Iz h.now)/\At w3 w.heap.size 1 (Iz h.last)/\At w3 w.heap.size 2 (Vz a1 h.sh.tg.length c1)/\At w3 w.heap.size 3 (Vz a2 h.sh.bs.length c2)/\At w3 w.heap.size 4 (Sy b o h.bs.length c3)/\At w3 w.heap.size 5 (Vz a4 h.ds.length c4)/\At w3 wr.heap.size 0 (Tz x0.nm)/\At w3 wr.heap.size 1 (Sy p q x0.ps.length c)/\At w3 wr.heap.size 2 (Sy g r x0.sl.length d)/\At w3 wr.heap.size 3 (Tz x0.ad)/\At w3 wr.heap.size 4 (Iz x0.si)/\At w3 wr.heap.size 5 (Iz x0.st):=⟨A5 _ _,c7.2⟩;have f7:w.heap.size<w3.heap.size:=A2 a7 a0.size;have f8:wr.heap.size<w3.heap.size:=A2 a6 a0.size;have b9:=D5 a5 a0;clear c7;go_wp2_with fail
    go_region_held (λw'=>Up w3 w'/\At w' w.heap.size 0 (Iz h.now)/\At w' w.heap.size 1 (Iz h.last)/\At w' w.heap.size 2 (Vz a1 h.sh.tg.length c1)/\At w' w.heap.size 3 (Vz a2 h.sh.bs.length c2)/\At w' w.heap.size 4 (Sy b o h.bs.length c3)/\At w' w.heap.size 5 (Vz a4 h.ds.length c4)/\At w' wr.heap.size 0 (Tz x0.nm)/\At w' wr.heap.size 1 (Sy p q x0.ps.length c)/\At w' wr.heap.size 2 (Sy g r x0.sl.length d)/\At w' wr.heap.size 3 (Tz x0.ad)/\At w' wr.heap.size 4 (Iz x0.si)/\At w' wr.heap.size 5 (Iz x0.st)) (first|exact Gg c8|exact Gh f7 f8 (by assumption) (by assumption))
     (first
      | (go_at_call 95;refine (Ll x0 _ _ _ (HE.out.up a9.drew) (f6.up (A5 _ _).drew)).mono ?_;rintro e w4 ⟨⟨u4,rfl,d7⟩,d8⟩;have b0:=D5 a9.drew d8)
      | (go_at_call 93;refine (HSH.out _ b0).mono ?_;rintro e w5 ⟨⟨s1,k1,s2,k2,rfl,d9,-⟩,e6⟩;have c9:=d7.up e6)
      | (go_at_call 96;refine (De _ _ _ _ _ (c9.lst.ls Hsz.out) d9).mono ?_;rintro e w6 ⟨rfl,f9⟩))
    rename_i hHeld;have d6:=D5 b9 hHeld.1;have c0:=D5 b3 d6;clear hHeld c8 d9 d7 c9 d8 e6 f9 b0;cases hq:pB (I4 (K7 x0) y.has)
    ·have HN:Hid (pB (CR h h.bs.length)=false):=NO.out λt=>S1.1 hq ⟨t H0.out,Ui x0⟩;go_wp2_with fail;go_ret;exact⟨D8 HN.out.symm,c0⟩
    ·have HY:Hid (CR h (k+1)):=YES.out λ_=>(K5.1 hq).1;go_wp2_with fail;go_roundw
     case rel=>exact⟨k+1,by omega,by go_num,HY.out,d6⟩
     case measure=>simp[intOf];omega
  ·have HY:Hid (pB (CR h h.bs.length)=true):=L9 (by
    have:=HI.out;rwa [show k=h.bs.length by omega] at this)
   go_wp2_with fail;go_ret;exact⟨D8 HY.out.symm,D5 b3 hB⟩
def X8(h:House)(j:Nat):Prop:=match j with
 | 0=>DY h
 | 1=>U0 h
 | 2=>BW h.sh
 | 3=>Cf h
 | 4=>DA h
 | 5=>DB h h.bs.length
 | _=>CR h h.bs.length
theorem Co(h:House):F6 h↔∀j,j<7->X8 h j:=by
 constructor
 ·rintro⟨t0,t1,t2,t3,t4,t5,t6⟩ j hj;match j,hj with
  | 0,_=>exact t0
  | 1,_=>exact t1
  | 2,_=>exact t2
  | 3,_=>exact t3
  | 4,_=>exact t4
  | 5,_=>exact t5
  | 6,_=>exact t6
 ·intro t;exact⟨t 0 (by omega),t 1 (by omega),t 2 (by omega),t 3 (by omega),t 4 (by omega),t 5 (by omega),t 6 (by omega)⟩
theorem Eu(h:House)(tv bv xv dv:Value)(w:World)(hE:P2 w)(H:HV w h tv bv xv dv):
  Calls prog 8 #[.agg #[Iz h.now,Iz h.last,tv,bv,xv,dv]] w λe w'=>e=.returned (.bool (pB (F6 h)))/\Up w w':=by
 obtain⟨a1,c1,a2,c2,a3,c3,a4,c4,rfl,rfl,rfl,rfl⟩:=H.shapes;have HE:Hid (P2 w):=hE;clear hE;have a8:=(A5 w.heap.size w).alloc (A4 _) (.cells (Hcz h a1 c1 a2 c2 a3 c3 a4 c4).toArray 30);have hC:CB (w.alloc (.cells (Hcz h a1 c1 a2 c2 a3 c3 a4 c4).toArray 30)) w.heap.size (Hcz h a1 c1 a2 c2 a3 c3 a4 c4):=F3 w _ _;go_in;go_upto_region 1 with fail;generalize w.alloc (.cells (Hcz h a1 c1 a2 c2 a3 c3 a4 c4).toArray 30)=W1 at *;have b4:=hC.2.2;have b3:CB (W1.alloc (Kz [.func (.func 34) #[] #[],.func (.func 35) #[] #[],.func (.func 36) #[] #[],.func (.func 37) #[] #[],.func (.func 38) #[] #[],.func (.func 39) #[] #[],.func (.func 40) #[] #[]] 38)) W1.heap.size [.func (.func 34) #[] #[],.func (.func 35) #[] #[],.func (.func 36) #[] #[],.func (.func 37) #[] #[],.func (.func 38) #[] #[],.func (.func 39) #[] #[],.func (.func 40) #[] #[]]:=F3 W1 _ _;have b5:=(A5 W1.heap.size W1).alloc (A4 _) (Kz [.func (.func 34) #[] #[],.func (.func 35) #[] #[],.func (.func 36) #[] #[],.func (.func 37) #[] #[],.func (.func 38) #[] #[],.func (.func 39) #[] #[],.func (.func 40) #[] #[]] 38);go_upto_region 2 with fail;generalize W1.alloc (Kz [.func (.func 34) #[] #[],.func (.func 35) #[] #[],.func (.func 36) #[] #[],.func (.func 37) #[] #[],.func (.func 38) #[] #[],.func (.func 39) #[] #[],.func (.func 40) #[] #[]] 38)=W2 at *;have b1:=b3.2.2;go_wp2_with fail;(try dsimp only[Iz,Sz,Sy,Nz,Vz,Tz,Ez,Pz]);go_loopw [5,9] (λ_ i w'=>∃k:Nat,k<=7/\i=.int .i64 k/\(∀j,j<k->X8 h j)/\Up W1 w'/\Up W2 w') (λ_ i _=>7-(intOf i).toNat)
 case atStart=>exact⟨0,by omega,rfl,λj hj=>by omega,b5,A5 _ _⟩
 case round =>
  obtain⟨k,hk,rfl,hinv,hB,a9⟩:=hrel;have HI:Hid (∀j,j<k->X8 h j):=hinv;clear hinv;by_cases hp:k<7
  ·have b0:=D5 a8 hB;have HV1:=H.up b0;have b2:=HE.out.up b0;obtain⟨d0,d1,d2,d3,d4,d5⟩:=(hC.up hB b4).c6;have hF:=b3.up a9 b1;rcases (by omega:k=0∨k=1∨k=2∨k=3∨k=4∨k=5∨k=6) with rfl|rfl|rfl|rfl|rfl|rfl|rfl
   ·have cf:At wr W1.heap.size 0 (.func (.func 34) #[] #[]):=hF.1 0 _ rfl;go_wp2_with fail;refine (SZ h _ _ _ _ _ HV1).mono ?_;rintro e w3 ⟨rfl,a7⟩;have a0:=D5 hB a7;have a5:=D5 a8 a0;clear d0 d1 d2 d3 d4 d5 cf;cases hq:pB (X8 h 0)
    ·have HN:Hid (pB (F6 h)=false):=I5 λt=>S1.1 hq (((Co h).1 t) 0 (by omega));have a6:pB (X8 h 0)=false:=hq;unfold X8 at a6;go_wp2_with fail;go_ret;exact⟨D8 HN.out.symm,a5⟩
    ·have HY:Hid (∀j,j<0+1->X8 h j):=λj hj=>by
      rcases Nat.lt_or_ge j 0 with h'|h'
      ·exact HI.out j h'
      ·obtain rfl:j=0:=by omega
       exact K5.1 hq
     have a6:pB (X8 h 0)=true:=hq;unfold X8 at a6;go_wp2_with fail;go_roundw
     case rel=>exact⟨1,by omega,by go_num,HY.out,a0,D5 a9 a7⟩
     case measure=>simp[intOf]
   ·have cf:At wr W1.heap.size 1 (.func (.func 35) #[] #[]):=hF.1 1 _ rfl;go_wp2_with fail;refine (Tb h _ _ _ _ _ HV1).mono ?_;rintro e w3 ⟨rfl,a7⟩;have a0:=D5 hB a7;have a5:=D5 a8 a0;clear d0 d1 d2 d3 d4 d5 cf;cases hq:pB (X8 h 1)
    ·have HN:Hid (pB (F6 h)=false):=I5 λt=>S1.1 hq (((Co h).1 t) 1 (by omega));have a6:pB (X8 h 1)=false:=hq;unfold X8 at a6;go_wp2_with fail;go_ret;exact⟨D8 HN.out.symm,a5⟩
    ·have HY:Hid (∀j,j<1+1->X8 h j):=λj hj=>by
      rcases Nat.lt_or_ge j 1 with h'|h'
      ·exact HI.out j h'
      ·obtain rfl:j=1:=by omega
       exact K5.1 hq
     have a6:pB (X8 h 1)=true:=hq;unfold X8 at a6;go_wp2_with fail;go_roundw
     case rel=>exact⟨2,by omega,by go_num,HY.out,a0,D5 a9 a7⟩
     case measure=>simp[intOf]
   ·have cf:At wr W1.heap.size 2 (.func (.func 36) #[] #[]):=hF.1 2 _ rfl;go_wp2_with fail;refine (Ta h _ _ _ _ _ HV1).mono ?_;rintro e w3 ⟨rfl,a7⟩;have a0:=D5 hB a7;have a5:=D5 a8 a0;clear d0 d1 d2 d3 d4 d5 cf;cases hq:pB (X8 h 2)
    ·have HN:Hid (pB (F6 h)=false):=I5 λt=>S1.1 hq (((Co h).1 t) 2 (by omega));have a6:pB (X8 h 2)=false:=hq;unfold X8 at a6;go_wp2_with fail;go_ret;exact⟨D8 HN.out.symm,a5⟩
    ·have HY:Hid (∀j,j<2+1->X8 h j):=λj hj=>by
      rcases Nat.lt_or_ge j 2 with h'|h'
      ·exact HI.out j h'
      ·obtain rfl:j=2:=by omega
       exact K5.1 hq
     have a6:pB (X8 h 2)=true:=hq;unfold X8 at a6;go_wp2_with fail;go_roundw
     case rel=>exact⟨3,by omega,by go_num,HY.out,a0,D5 a9 a7⟩
     case measure=>simp[intOf]
   ·have cf:At wr W1.heap.size 3 (.func (.func 37) #[] #[]):=hF.1 3 _ rfl;go_wp2_with fail;refine (Tf h _ _ _ _ _ HV1 (HI.out 2 (by omega)).book).mono ?_;rintro e w3 ⟨rfl,a7⟩;have a0:=D5 hB a7;have a5:=D5 a8 a0;clear d0 d1 d2 d3 d4 d5 cf;cases hq:pB (X8 h 3)
    ·have HN:Hid (pB (F6 h)=false):=I5 λt=>S1.1 hq (((Co h).1 t) 3 (by omega));have a6:pB (X8 h 3)=false:=hq;unfold X8 at a6;go_wp2_with fail;go_ret;exact⟨D8 HN.out.symm,a5⟩
    ·have HY:Hid (∀j,j<3+1->X8 h j):=λj hj=>by
      rcases Nat.lt_or_ge j 3 with h'|h'
      ·exact HI.out j h'
      ·obtain rfl:j=3:=by omega
       exact K5.1 hq
     have a6:pB (X8 h 3)=true:=hq;unfold X8 at a6;go_wp2_with fail;go_roundw
     case rel=>exact⟨4,by omega,by go_num,HY.out,a0,D5 a9 a7⟩
     case measure=>simp[intOf]
   ·have cf:At wr W1.heap.size 4 (.func (.func 38) #[] #[]):=hF.1 4 _ rfl;go_wp2_with fail;refine (Vr h _ _ _ _ _ b2 HV1).mono ?_;rintro e w3 ⟨rfl,a7⟩;have a0:=D5 hB a7;have a5:=D5 a8 a0;clear d0 d1 d2 d3 d4 d5 cf;cases hq:pB (X8 h 4)
    ·have HN:Hid (pB (F6 h)=false):=I5 λt=>S1.1 hq (((Co h).1 t) 4 (by omega));have a6:pB (X8 h 4)=false:=hq;unfold X8 at a6;go_wp2_with fail;go_ret;exact⟨D8 HN.out.symm,a5⟩
    ·have HY:Hid (∀j,j<4+1->X8 h j):=λj hj=>by
      rcases Nat.lt_or_ge j 4 with h'|h'
      ·exact HI.out j h'
      ·obtain rfl:j=4:=by omega
       exact K5.1 hq
     have a6:pB (X8 h 4)=true:=hq;unfold X8 at a6;go_wp2_with fail;go_roundw
     case rel=>exact⟨5,by omega,by go_num,HY.out,a0,D5 a9 a7⟩
     case measure=>simp[intOf]
   ·have cf:At wr W1.heap.size 5 (.func (.func 39) #[] #[]):=hF.1 5 _ rfl;go_wp2_with fail;refine (Ti h _ _ _ _ _ b2 HV1 (HI.out 2 (by omega)).book (HI.out 3 (by omega))).mono ?_;rintro e w3 ⟨rfl,a7⟩;have a0:=D5 hB a7;have a5:=D5 a8 a0;clear d0 d1 d2 d3 d4 d5 cf;cases hq:pB (X8 h 5)
    ·have HN:Hid (pB (F6 h)=false):=I5 λt=>S1.1 hq (((Co h).1 t) 5 (by omega));have a6:pB (X8 h 5)=false:=hq;unfold X8 at a6;go_wp2_with fail;go_ret;exact⟨D8 HN.out.symm,a5⟩
    ·have HY:Hid (∀j,j<5+1->X8 h j):=λj hj=>by
      rcases Nat.lt_or_ge j 5 with h'|h'
      ·exact HI.out j h'
      ·obtain rfl:j=5:=by omega
       exact K5.1 hq
     have a6:pB (X8 h 5)=true:=hq;unfold X8 at a6;go_wp2_with fail;go_roundw
     case rel=>exact⟨6,by omega,by go_num,HY.out,a0,D5 a9 a7⟩
     case measure=>simp[intOf]
   ·have cf:At wr W1.heap.size 6 (.func (.func 40) #[] #[]):=hF.1 6 _ rfl;go_wp2_with fail;refine (VC h _ _ _ _ _ b2 HV1 (HI.out 2 (by omega)).book (HI.out 3 (by omega)) (HI.out 4 (by omega))).mono ?_;rintro e w3 ⟨rfl,a7⟩;have a0:=D5 hB a7;have a5:=D5 a8 a0;clear d0 d1 d2 d3 d4 d5 cf;cases hq:pB (X8 h 6)
    ·have HN:Hid (pB (F6 h)=false):=I5 λt=>S1.1 hq (((Co h).1 t) 6 (by omega));have a6:pB (X8 h 6)=false:=hq;unfold X8 at a6;go_wp2_with fail;go_ret;exact⟨D8 HN.out.symm,a5⟩
    ·have HY:Hid (∀j,j<6+1->X8 h j):=λj hj=>by
      rcases Nat.lt_or_ge j 6 with h'|h'
      ·exact HI.out j h'
      ·obtain rfl:j=6:=by omega
       exact K5.1 hq
     have a6:pB (X8 h 6)=true:=hq;unfold X8 at a6;go_wp2_with fail;go_roundw
     case rel=>exact⟨7,by omega,by go_num,HY.out,a0,D5 a9 a7⟩
     case measure=>simp[intOf]
  ·have HY:Hid (pB (F6 h)=true):=L9 ((Co h).2 λj hj=>HI.out j (by omega));go_wp2_with fail;go_ret;exact⟨D8 HY.out.symm,D5 a8 hB⟩
def AC(ps:List Ph)(nm:BA):Int:=if P3 ps=true then Bi BR CD 0 ps nm else 0
theorem Kl(ps:List Ph)(b o c:Nat)(nm:BA)(w:World)(hE:P2 w)(hr:M2 w b o ps)(hb:b<w.heap.size)(hs:Dd ps)(hcap:ps.length<=c)(hc9:c<=9223372036854775807):
  Calls prog 13 #[Sy b o ps.length c,Tz nm] w λe w'=>e=.returned (Iz (AC ps nm))/\Up w w':=by
 have HE:Hid (P2 w):=hE;clear hE;cases hok:P3 ps
 ·go_in;go_wp2_with (go_at_call 55;refine (DW _ _ _ _ _ HE.out hr hb hs hcap hc9).mono ?_;rintro e w1 ⟨rfl,a0⟩;(first|replace hB:=D5 hB a0|have hB:=a0);clear a0;(try clear hc hf);obtain⟨hc,hf⟩:=G9 hB)
  go_ret;exact⟨U5 (by simp[AC,hok]),hB⟩
 ·have a6:ps.length<=12:=((M3 ps).1 hok).2.1
  have HV:Hid (AC ps nm=look (fill BR CD 0 ps) nm 0):=by
   show _=_
   have hd:=Fg hok 0;rw[List.drop_zero] at hd;simp only[AC,hok,if_true,DR BR CD 0 ps hd]
  have a1:(fill BR CD 0 ps).length<=1048576:=by rw[DH];omega
  go_in;go_wp2_with (go_at_call 55;refine (DW _ _ _ _ _ HE.out hr hb hs hcap hc9).mono ?_;rintro e w1 ⟨rfl,a0⟩;(first|replace hB:=D5 hB a0|have hB:=a0);clear a0;(try clear hc hf);obtain⟨hc,hf⟩:=G9 hB)
  refine (TW ps _ _ _ _ (HE.out.up hB) (hr.up hB hb) (A2 hb hB.size) hok).mono ?_;rintro e w2 ⟨⟨g,a7,rfl,hT⟩,a4⟩;have a2:=D5 hB a4;clear hc hf;go_wp2_with fail;refine (Rt _ _ _ _ _ hT a1).mono ?_;rintro e w3 ⟨rfl,a5⟩;have a3:=D5 a2 a5;go_wp2_with fail;go_ret;exact⟨U5 HV.out.symm,a3⟩
def BB(b:Rb):Int:=AC b.ps b.ad-(if b.si=-1 then 0 else b.si)
def S9(bs:List Rb):Int:=bs.foldl (λs b=>s+BB b) 0
theorem Ms(bs:List Rb)(k:Nat)(hk:k<bs.length):S9 (bs.take (k+1))=S9 (bs.take k)+BB bs[k]:=by
 unfold S9;rw[A8 hk,List.foldl_append];rfl
theorem Km(h:P3 ps=true)(nm:BA):0<=AC ps nm/\AC ps nm<=12000:=by
 have a0:ps.length<=12:=((M3 ps).1 h).2.1;have:=LK ps (IC h) nm;unfold AC;rw[if_pos h];omega
theorem Qg{b:Rb}(h:M0 b):-1000<=BB b/\BB b<=12000:=by
 obtain⟨-,h2,-,-,h5,h6,h7⟩:=h;have h1:=Km h2 b.ad;have h8:=Kc (FN h2 (DL h5));unfold BB;split<;>omega
theorem Qh(h:∀b∈bs,M0 b):∀k:Nat,-1000*(k:Int)<=S9 (bs.take k)/\S9 (bs.take k)<=12000*(k:Int):=by
 intro k;induction k with
 | zero=>simp[S9]
 | succ k ih =>
  by_cases hk:k<bs.length
  ·rw[Ms bs k hk];have:=Qg (h bs[k] (by simp));omega
  ·rw[D2 (by omega)] at ih ⊢
   omega
theorem QZ(x0:Rb)(p q c g r d:Nat)(w:World)(hE:P2 w)(hv:T1 w x0 (Sy p q x0.ps.length c) (Sy g r x0.sl.length d))(hok:M0 x0):
  Calls prog 54 #[.agg #[Tz x0.nm,Sy p q x0.ps.length c,Sy g r x0.sl.length d,Tz x0.ad,Iz x0.si,Iz x0.st]] w λe w'=>e=.returned (Iz (BB x0))/\Up w w':=by
 have a7:=Km hok.2.1 x0.ad;have a8:=Kc (FN hok.2.1 (DL hok.2.2.2.2.1));have h6:=hok.2.2.2.2.2.1;have h7:=hok.2.2.2.2.2.2
 have HR:Hid (∀W,Up w W->Calls prog 13 #[Sy p q x0.ps.length c,Tz x0.ad] W λe w'=>e=.returned (Iz (AC x0.ps x0.ad))/\Up W w'):=λW hB=>by
  obtain⟨b,o,c',e,hr,hb,a2,a6⟩:=(hv.up hB).r;simp only[Value.slice.injEq,Option.some.injEq,Addr.mk.injEq] at e;obtain⟨⟨rfl,rfl,-⟩,-,rfl⟩:=e;exact Kl x0.ps p q c x0.ad W (hE.up hB) hr hb hv.zp a2 a6
 clear hv hE hok;have a4:=(A5 w.heap.size w).alloc (A4 _) (Kz [Tz x0.nm,Sy p q x0.ps.length c,Sy g r x0.sl.length d,Tz x0.ad,Iz x0.si,Iz x0.st] 40);have hC:CB (w.alloc (Kz [Tz x0.nm,Sy p q x0.ps.length c,Sy g r x0.sl.length d,Tz x0.ad,Iz x0.si,Iz x0.st] 40)) w.heap.size [Tz x0.nm,Sy p q x0.ps.length c,Sy g r x0.sl.length d,Tz x0.ad,Iz x0.si,Iz x0.st]:=F3 w _ _;go_in;go_upto_region 1 with fail;generalize w.alloc (Kz [Tz x0.nm,Sy p q x0.ps.length c,Sy g r x0.sl.length d,Tz x0.ad,Iz x0.si,Iz x0.st] 40)=W1 at *;have a5:=hC.2.2;by_cases hsi:x0.si=-1
 ·have HL:Hid (BB x0=AC x0.ps x0.ad):=by show _=_;unfold BB;rw[if_pos hsi];omega
  rw[hsi] at hC;obtain⟨d0,d1,d2,d3,d4,d5⟩:=hC.c6;clear hsi h6 h7;generalize AC x0.ps x0.ad=bv at *;go_wp2_with fail;refine (Jr _ _ _ _ _ _ _ _ _ _).mono ?_;rintro e w2 ⟨rfl,a1⟩;clear d0 d1 d2 d3 d4 d5;obtain⟨d0,d1,d2,d3,d4,d5⟩:=(hC.up a1 a5).c6;have a0:=D5 a4 a1;go_wp2_with fail;refine (HR.out _ a0).mono ?_;rintro e w3 ⟨rfl,a3⟩;clear d0 d1 d2 d3 d4 d5;go_wp2_with fail;go_ret;exact⟨U5 (by rw[HL.out]),D5 a0 a3⟩
 ·have HL:Hid (BB x0=AC x0.ps x0.ad-x0.si):=by show _=_;unfold BB;rw[if_neg hsi]
  obtain⟨d0,d1,d2,d3,d4,d5⟩:=hC.c6;have Hs:Hid (¬x0.si=-1):=hsi;clear hsi;generalize AC x0.ps x0.ad=bv at *;go_wp2_with fail;refine (Lx _ _ _ _ _ _ _ _ _ _ _ Hs.out).mono ?_;rintro e w2 ⟨rfl,a1⟩;clear d0 d1 d2 d3 d4 d5;obtain⟨d0,d1,d2,d3,d4,d5⟩:=(hC.up a1 a5).c6;have a0:=D5 a4 a1;go_wp2_with fail;refine (HR.out _ a0).mono ?_;rintro e w3 ⟨rfl,a3⟩;clear d0 d1 d2 d3 d4 d5;go_wp2_with fail;go_ret;exact⟨U5 (by rw[HL.out]),D5 a0 a3⟩
theorem Xg(x0:Rb)(p q c g r d:Nat)(s:Int)(w:World)(hE:P2 w)(hv:T1 w x0 (Sy p q x0.ps.length c) (Sy g r x0.sl.length d))(hok:M0 x0)(hs:-1000000<=s)(hs':s<=1000000):
  Calls prog 53 #[Iz s,.agg #[Tz x0.nm,Sy p q x0.ps.length c,Sy g r x0.sl.length d,Tz x0.ad,Iz x0.si,Iz x0.st]] w λe w'=>e=.returned (Iz (s+BB x0))/\Up w w':=by
 have a3:=Qg hok;have a1:=(A5 w.heap.size w).alloc (A4 _) (Kz [Tz x0.nm,Sy p q x0.ps.length c,Sy g r x0.sl.length d,Tz x0.ad,Iz x0.si,Iz x0.st] 40);have hC:CB (w.alloc (Kz [Tz x0.nm,Sy p q x0.ps.length c,Sy g r x0.sl.length d,Tz x0.ad,Iz x0.si,Iz x0.st] 40)) w.heap.size [Tz x0.nm,Sy p q x0.ps.length c,Sy g r x0.sl.length d,Tz x0.ad,Iz x0.si,Iz x0.st]:=F3 w _ _;have a0:=QZ x0 p q c g r d (w.alloc (Kz [Tz x0.nm,Sy p q x0.ps.length c,Sy g r x0.sl.length d,Tz x0.ad,Iz x0.si,Iz x0.st] 40)) (hE.up a1) (hv.up a1) hok;have Hcall:Hid (Calls prog 54 #[.agg #[Tz x0.nm,Sy p q x0.ps.length c,Sy g r x0.sl.length d,Tz x0.ad,Iz x0.si,Iz x0.st]] (w.alloc (Kz [Tz x0.nm,Sy p q x0.ps.length c,Sy g r x0.sl.length d,Tz x0.ad,Iz x0.si,Iz x0.st] 40)) λe w'=>e=.returned (Iz (BB x0))/\Below (w.alloc (Kz [Tz x0.nm,Sy p q x0.ps.length c,Sy g r x0.sl.length d,Tz x0.ad,Iz x0.si,Iz x0.st] 40)).heap.size (w.alloc (Kz [Tz x0.nm,Sy p q x0.ps.length c,Sy g r x0.sl.length d,Tz x0.ad,Iz x0.si,Iz x0.st] 40)) w'):=a0;clear a0 hok hv hE;go_in;go_upto_region 1 with fail;generalize w.alloc (Kz [Tz x0.nm,Sy p q x0.ps.length c,Sy g r x0.sl.length d,Tz x0.ad,Iz x0.si,Iz x0.st] 40)=W1 at *;obtain⟨d0,d1,d2,d3,d4,d5⟩:=hC.c6;go_wp2_with fail;refine Hcall.out.mono ?_;rintro e w2 ⟨rfl,a2⟩;clear d0 d1 d2 d3 d4 d5;go_wp2_with fail;go_ret;exact⟨rfl,D5 a1 a2⟩
theorem VD(bs:List Rb)(v:Value)(w:World)(hE:P2 w)(h:LY w v bs)(hok:∀b∈bs,M0 b)(hn:bs.length<=5):
  Calls prog 52 #[v,Iz 0,.func (.func 53) #[] #[]] w λe w'=>e=.returned (Iz (S9 bs))/\Up w w':=by
 obtain⟨a3,c3,rfl,-,a0⟩:=h;have HE:Hid (P2 w):=hE;have HO:Hid (∀b∈bs,M0 b):=hok;have HBD:Hid (∀k,-1000*((k:Nat):Int)<=S9 (bs.take k)/\S9 (bs.take k)<=12000*(k:Int)):=Qh hok;clear hE hok;go_in;go_wp2_with fail;(try dsimp only[Iz,Sz,Sy,Nz,Vz,Tz,Ez,Pz]);go_loopw [1,8,11] (λs _ i w'=>∃k:Nat,k<=bs.length/\i=.int .i64 k/\s=.int .i64 (S9 (bs.take k))/\Up w w') (λ_ _ i _=>bs.length-(intOf i).toNat)
 case atStart=>exact⟨0,by omega,rfl,rfl,A5 _ _⟩
 case round =>
  obtain⟨k,hk,rfl,rfl,hB⟩:=hrel;by_cases hp:k<bs.length
  ·obtain⟨b,o,a4,hS,hb⟩:=a0 (by omega);subst a4;obtain⟨p,q,c,g,r,d,⟨e0,e1,e2,e3,e4,e5⟩,hv⟩:=((hS.at hp).up hB hb).open;have HL:Hid (S9 (bs.take (k+1))=S9 (bs.take k)+BB bs[k]):=Ms bs k hp;have Hok:Hid (M0 bs[k]):=HO.out _ (by simp);have a7:=HBD.out k;generalize bs[k]=x0 at *;generalize S9 (bs.take k)=s at *;clear hS;have a2:=hB.alloc hB.size (Kz [Tz x0.nm,Sy p q x0.ps.length c,Sy g r x0.sl.length d,Tz x0.ad,Iz x0.si,Iz x0.st] 40);have hX:CB (wr.alloc (Kz [Tz x0.nm,Sy p q x0.ps.length c,Sy g r x0.sl.length d,Tz x0.ad,Iz x0.si,Iz x0.st] 40)) wr.heap.size [Tz x0.nm,Sy p q x0.ps.length c,Sy g r x0.sl.length d,Tz x0.ad,Iz x0.si,Iz x0.st]:=F3 wr _ _;have a5:=hv.up ((A5 wr.heap.size wr).alloc (A4 _) (Kz [Tz x0.nm,Sy p q x0.ps.length c,Sy g r x0.sl.length d,Tz x0.ad,Iz x0.si,Iz x0.st] 40));go_upto_region 4 with fail;generalize wr.alloc (Kz [Tz x0.nm,Sy p q x0.ps.length c,Sy g r x0.sl.length d,Tz x0.ad,Iz x0.si,Iz x0.st] 40)=W2 at *;obtain⟨f0,f1,f2,f3,f4,f5⟩:=hX.c6;clear e0 e1 e2 e3 e4 e5;go_wp2_with fail;refine (Xg x0 p q c g r d s _ (HE.out.up a2) a5 Hok.out (by omega) (by omega)).mono ?_;rintro e w3 ⟨rfl,a6⟩;have a1:=D5 a2 a6;clear f0 f1 f2 f3 f4 f5;rw[← HL.out];go_wp2_with fail;go_roundw
   case rel=>exact⟨k+1,by omega,by go_num,rfl,a1⟩
   case measure=>simp[intOf];omega
  ·have HK:Hid (S9 (bs.take k)=S9 bs):=by show _=_;rw[D2 (by omega)]
   go_wp2_with fail;go_ret;exact⟨U5 HK.out,hB⟩
noncomputable def Do(h:House):Int:=if pB (F6 h)=true then S9 h.bs else 0
theorem F6.few(t:F6 h):h.bs.length<=5:=by
 rw[t.2.2.2.1.1];exact t.2.2.1.book.2.1
theorem F6.each(t:F6 h):∀b∈h.bs,M0 b:=λb hb=>by
 obtain⟨i,hi,rfl⟩:=B7 hb;exact (t.2.2.2.2.1 i _ hi (A0 hi)).1
theorem NI(h:House)(tv bv xv dv:Value)(w:World)(hE:P2 w)(H:HV w h tv bv xv dv):
  Calls prog 12 #[.agg #[Iz h.now,Iz h.last,tv,bv,xv,dv]] w λe w'=>e=.returned (Iz (Do h))/\Up w w':=by
 have a5:=λW (hB:Up w W)=>Eu h tv bv xv dv W (hE.up hB) (H.up hB);obtain⟨a1,c1,a2,c2,a3,c3,a4,c4,rfl,rfl,rfl,rfl⟩:=H.shapes;have HH:Hid (∀W,Up w W->Calls prog 8 #[.agg (Hcz h a1 c1 a2 c2 a3 c3 a4 c4).toArray] W λe w'=>e=.returned (.bool (pB (F6 h)))/\Up W w'):=a5;have HE:Hid (P2 w):=hE;have HX:=H.x;clear a5 hE H;have a6:=(A5 w.heap.size w).alloc (A4 _) (.cells (Hcz h a1 c1 a2 c2 a3 c3 a4 c4).toArray 30);have hC:CB (w.alloc (.cells (Hcz h a1 c1 a2 c2 a3 c3 a4 c4).toArray 30)) w.heap.size (Hcz h a1 c1 a2 c2 a3 c3 a4 c4):=F3 w _ _;go_in;go_upto_region 1 with fail;generalize w.alloc (.cells (Hcz h a1 c1 a2 c2 a3 c3 a4 c4).toArray 30)=W1 at *;have a8:=hC.2.2;obtain⟨d0,d1,d2,d3,d4,d5⟩:=hC.c6;go_wp2_with fail;refine (HH.out _ a6).mono ?_;rintro e w2 ⟨rfl,a7⟩;have a0:=D5 a6 a7;clear d0 d1 d2 d3 d4 d5;obtain⟨d0,d1,d2,d3,d4,d5⟩:=(hC.up a7 a8).c6;cases hq:pB (F6 h)
 ·have HL:Hid (Do h=0):=by show _=_;unfold Do;rw[hq];rfl
  go_wp2_with fail;go_ret;exact⟨U5 HL.out.symm,a0⟩
 ·have HL:Hid (Do h=S9 h.bs):=by show _=_;unfold Do;rw[if_pos hq]
  have hh:=K5.1 hq;go_wp2_with fail;refine (VD h.bs _ _ (HE.out.up a0) (HX.up a0) hh.each hh.few).mono ?_;rintro e w3 ⟨rfl,a9⟩;clear d0 d1 d2 d3 d4 d5;go_wp2_with fail;go_ret;exact⟨U5 HL.out.symm,D5 a0 a9⟩
end Go.Proofs.YtmonodehegcfhaaGreatDoor
namespace Go.Proofs.YtmonodehegcfhaaGreatDoor
open Go.Proofs.Tryz
variable{b:Bk}{nm:BA}{h h':House}{cd:Int}{ls nj:List BA}{ps:List Ph}{bs:List Rb}{sl:List Sl}{k:Nat}{x y:Rb}{W:World}
theorem Xh(H:F6 h)(ha:EZ h k h'):F6 h':=by
 obtain⟨x,hx,⟨-,rfl⟩|⟨-,cd,b',hi,⟨-,rfl⟩|⟨hc,rfl⟩⟩⟩:=ha
 ·exact H
 ·exact H
 ·have hk:=(A3.1 hx).1;have hr:=(H.2.2.2.2.1 k x hk hx).1;have hw:=(UM hr.2.1 _ (DL hr.2.2.2.2.1)).1;obtain⟨st,a0⟩:=H.2.2.1;rcases hi with⟨-,rfl,-⟩|⟨-,-,rfl,-⟩|⟨-,-,-,rfl,-⟩|⟨-,-,-,-,rfl,-⟩|⟨-,-,-,-,-,-,rfl,-⟩|⟨-,-,-,-,hs,-,rfl⟩
  iterate 5 exact absurd hc (by decide)
  refine UU H hx hw ?_;rcases hs with⟨ss,hs⟩|hs
  ·have:=(a0.uniq hs).2;cases this
  ·exact hs
theorem Kn{h:House}(H:F6 h):∀{k:Nat} {h':House},S3 h k h'->F6 h'
 | 0,_,e=>by cases e;exact H
 | _+1,_,⟨_,hm,ha⟩=>Xh (Kn H hm) ha
def Dp(x y:Rb):Prop:=y.nm=x.nm/\y.ps=x.ps/\y.sl=x.sl/\y.ad=x.ad/\y.st=x.st/\(0<=x.si->y=x)
theorem Dp.refl(x:Rb):Dp x x:=⟨rfl,rfl,rfl,rfl,rfl,λ_=>rfl⟩
theorem Dp.trans{z:Rb}(h:Dp x y)(k:Dp y z):Dp x z :=
 ⟨k.1.trans h.1,k.2.1.trans h.2.1,k.2.2.1.trans h.2.2.1,k.2.2.2.1.trans h.2.2.2.1,k.2.2.2.2.1.trans h.2.2.2.2.1,λh0=>by
  have e:=h.2.2.2.2.2 h0;subst e;exact k.2.2.2.2.2 h0⟩
theorem Xi{i:Nat}(ha:EZ h k h')(hx:h.bs[i]?=some x):∃y,h'.bs[i]?=some y/\Dp x y:=by
 obtain⟨z,hz,⟨-,rfl⟩|⟨hn,cd,b',-,⟨-,rfl⟩|⟨-,rfl⟩⟩⟩:=ha
 ·exact⟨x,hx,Dp.refl x⟩
 ·exact⟨x,hx,Dp.refl x⟩
 ·by_cases e:i=k
  ·subst e;rw[hz] at hx;obtain rfl:=A6 hx;refine⟨{z with si:=0},?_,rfl,rfl,rfl,rfl,rfl,λh0=>by omega⟩;show (h.bs.set i _)[i]?=_
   rw[C9 (A3.1 hz).1]
  ·refine⟨x,?_,Dp.refl x⟩;show (h.bs.set k _)[i]?=_
   rw[List.getElem?_set_ne (by omega)];exact hx
theorem NJ{h:House}:∀{k:Nat} {h':House},S3 h k h'->∀{i:Nat} {x:Rb},h.bs[i]?=some x->∃y,h'.bs[i]?=some y/\Dp x y
 | 0,_,e,_,x,hx=>by cases e;exact⟨x,hx,Dp.refl x⟩
 | _+1,_,⟨_,hm,ha⟩,_,_,hx=>by
  obtain⟨y,hy,s1⟩:=NJ hm hx;obtain⟨z,hz,s2⟩:=Xi ha hy;exact⟨z,hz,s1.trans s2⟩
theorem NK(bs:List Rb):S9 bs=(bs.map BB).foldl (· + ·) 0:=by unfold S9;rw[List.foldl_map]
theorem VE(hx:bs[k]?=some x)(e:BB y=BB x):S9 (bs.set k y)=S9 bs:=by
 rw[NK,NK,List.map_set,e];congr 1
 obtain⟨hk,rfl⟩:=A3.1 hx;apply List.ext_getElem? λi=>?_
 rw[List.getElem?_set];split
 ·rename_i e;subst e;simp[hk]
 ·rfl
theorem To(H:F6 h)(ha:EZ h k h'):S9 h'.bs=S9 h.bs:=by
 obtain⟨x,hx,⟨-,rfl⟩|⟨hn,cd,b',-,⟨-,rfl⟩|⟨-,rfl⟩⟩⟩:=ha
 ·rfl
 ·rfl
 ·have hr:=(H.2.2.2.2.1 k x (A3.1 hx).1 hx).1;have hs:x.si=-1:=by have:=hr.2.2.2.2.2.1;omega
  refine VE hx ?_;unfold BB;rw[hs];simp
theorem KS{h:House}(H:F6 h):∀{k:Nat} {h':House},S3 h k h'->S9 h'.bs=S9 h.bs
 | 0,_,e=>by cases e;rfl
 | _+1,_,⟨_,hm,ha⟩=>(To (Kn H hm) ha).trans (KS H hm)
theorem Tp(bs:List Rb)(x:Rb):S9 (bs++[x])=S9 bs+BB x:=by unfold S9;rw[List.foldl_append];rfl
theorem Tq(h:N7 ps sl):(Af sl (O9 ps (I0 ps))).length=sl.length:=by
 have h1:=GT (ss:=O9 ps (I0 ps)) (tt:=O9 ps (I0 ps)) h.nodup (λ_=>Iff.rfl);have h2:=(Ce.count h.1 h.2.1 (JS _ _)).2 h;have h3:=congrArg List.length h1;rw[h2] at h3;simpa [F1] using h3
theorem Xj(H:F6 h)(hb:Cy nm ps sl)(hc:T4 h nm ps sl=0)(hl:¬1000000<=h.last):F6 (As h nm ps sl):=by
 have a0:=(Et H nm ps sl).2 hb;unfold T4 at hc;have h1:h.last+1<=1000000:=by omega
 unfold As;generalize hx:L3 h nm ps sl=x at *;have e1:x.nm=nm:=by rw[← hx];rfl
 have e2:x.ad=I0 ps:=by rw[← hx];rfl
 have e3:x.st=h.last+1:=by rw[← hx];rfl
 have e4:x.si=-1:=by rw[← hx];rfl
 rw[← e1,← e2] at hc ⊢
 exact SM H a0 e3 h1 e4 hc
structure Zm (h:House) (nm:BA) (ps:List Ph) (sl:List Sl) (h':House):Prop where
 ok:F6 h
 ok':F6 h'
 rc:P3 ps=true
 len:h'.bs.length=h.bs.length+1
 new:∃y,h'.bs[h.bs.length]?=some y/\y.nm=nm/\y.st=h.last+1/\(G8 y (I0 ps)).length=sl.length
 old:∀(i:Nat)(x:Rb),h.bs[i]?=some x->0<=x.si->h'.bs[i]?=some x
 left:S9 h'.bs=S9 h.bs+AC ps (I0 ps)
theorem Ts(hb:J1 b):N6 b nm nj≠1:=by
 have h1:K4 b=true:=L9 hb;unfold N6;rw[h1,if_neg (by simp)];split
 ·decide
 ·split
  ·decide
  ·split<;>decide
theorem Od(H:AX h nm ps sl cd h')(hc:cd≠0):(cd=1/\h'=N9)∨(cd≠1/\h'=h):=by
 rcases H with⟨-,rfl,rfl⟩|⟨-,-,rfl,rfl⟩|⟨hk,-,-,rfl,rfl⟩|⟨-,-,-,-,rfl,rfl⟩|⟨-,-,-,-,rfl,-⟩
 ·exact .inl ⟨rfl,rfl⟩
 ·exact .inr ⟨by decide,rfl⟩
 ·exact .inr ⟨Ts hk.2.2.1.book,rfl⟩
 ·exact .inr ⟨by decide,rfl⟩
 ·exact absurd rfl hc
theorem Ra(H:AX h nm ps sl 0 h'):Zm h nm ps sl h':=by
 rcases H with⟨-,h0,-⟩|⟨-,-,h0,-⟩|⟨-,-,hn,h0,-⟩|⟨-,-,-,-,h0,-⟩|⟨hok,hb,hs,hl,-,ha⟩
 ·exact absurd h0 (by decide)
 ·exact absurd h0 (by decide)
 ·exact absurd h0.symm hn
 ·exact absurd h0 (by decide)
 have hk:=Xj hok hb hs hl;have a1:=Kn hk ha
 have a0:h'.bs.length=h.bs.length+1:=by
  rw[ha.same.2.2.2];show (h.bs++[_]).length=_
  simp
 have a2:∀{i:Nat} {x:Rb},(h.bs++[L3 h nm ps sl])[i]?=some x->∃y,h'.bs[i]?=some y/\Dp x y:=λhx=>NJ ha hx;refine⟨hok,a1,hb.1,a0,?_,λi x hx h0=>?_,?_⟩
 ·obtain⟨y,hy,s1,s2,s3,s4,s5,-⟩:=a2 (i:=h.bs.length) (x:=L3 h nm ps sl) (by simp);refine⟨y,hy,s1,s5,?_⟩;have hr:=(a1.2.2.2.2.1 _ y (A3.1 hy).1 hy).1;rw[DC hr,s2,s3];exact Tq hb.2.1
 ·obtain⟨y,hy,s⟩:=a2 (i:=i) (x:=x) (by rw[List.getElem?_append_left (A3.1 hx).1];exact hx);rw[hy,s.2.2.2.2.2 h0]
 ·rw[KS hk ha];show S9 (h.bs++[_])=_
  rw[Tp];show _+(AC ps (I0 ps)-0)=_
  omega
end Go.Proofs.YtmonodehegcfhaaGreatDoor
namespace Go.Proofs.YtmonodehegcfhaaGreatDoor
open Go.Proofs.Tryz
open Go.RowKit
variable{b:Bk}{nm:BA}{h h':House}{cd:Int}{ls nj:List BA}{ps:List Ph}{bs:List Rb}{sl:List Sl}{k:Nat}{x y:Rb}{W:World}
theorem Tt(nm:BA)(a:Option Addr)(c:Nat)(sv:Value)(st:Int)(w:World):
  Calls prog 71 #[Tz nm,Vz a 0 c,sv,Iz st] w λe w'=>e=.returned (.tuple #[.agg #[Ez,Nz,Nz,Ez,Iz 0,Iz 0],.bool false])/\Up w w':=by
 obtain⟨W1,a0,kR,a1,a2⟩:=cbE1 w [Ez,Nz,Nz,Ez,Iz 0,Iz 0] 40;go_in;go_upto_region 1 with fail;try rw[a0]
 clear a0;obtain⟨y0,y1,y2,y3,y4,y5⟩:=kR.c6;obtain⟨f0,f1,f2,f3,f4,f5⟩:=kR.f6;go_wp2_with fail;refine R7 results71 underlying40 rfl BF kR rfl rfl ?_;exact⟨rfl,I9 a1 (A4 _) _ _ _ _ _ _⟩
theorem Tu(nm:BA)(ps:List Ph)(sl:List Sl)(st:Int)(b o c g q d:Nat)(w:World)(hE:P2 w)(hR:T1 w ⟨nm,ps,sl,I0 ps,-1,st⟩ (Sy b o ps.length c) (Sy g q sl.length d))(hp:0<ps.length):
  Calls prog 71 #[Tz nm,Sy b o ps.length c,Sy g q sl.length d,Iz st] w λe w'=>e=.returned (.tuple #[.agg #[Tz nm,Sy b o ps.length c,Sy g q sl.length d,Tz (I0 ps),Iz (-1),Iz st],.bool (pB (M0 ⟨nm,ps,sl,I0 ps,-1,st⟩))])/\Up w w':=by
 have c5:ps.length<=1048576:=hR.np;obtain⟨W1,a5,kR,a1,a6⟩:=cbE1 w [Ez,Nz,Nz,Ez,Iz 0,Iz 0] 40;have a2:=hR.up a1;have a8:=hE.up a1
 have c0:At W1 b o (Tz (I0 ps)):=by
  obtain⟨b',o',c',e,hr,-⟩:=a2.r;simp only[Value.slice.injEq,Option.some.injEq,Addr.mk.injEq,and_true] at e;obtain⟨⟨rfl,rfl⟩,-,rfl⟩:=e;have:=(hr.cells 0 hp).1;rw[Nat.zero_mul,Nat.add_zero] at this;rw[BL hp];exact this
 clear hR hE;go_in;go_upto_region 1 with fail;try rw[a5]
 clear a5;have c7:((ps.length:Int)==0)=false:=by rw[beq_eq_false_iff_ne];omega
 go_upto_region 4 with fail;obtain⟨W2,a7,kB,a0,b3⟩:=cbE1 W1 [Tz nm,Sy b o ps.length c,Sy g q sl.length d,Tz (I0 ps),Iz (-1),Iz st] 40;try rw[a7]
 clear a7 c0;rw[a6] at kB;have b4:=(a2.up a0).up (A5 _ _).drew;have b5:=(a8.up a0).up (A5 _ _).drew;have a9:=kB.up (A5 _ _).drew kB.2.2;have b6:=(kR.up a0 (by omega)).up (A5 W2.heap.size W2).drew (by omega);have b7:=(D5 a1 a0).drew;have b8:W2.drew.heap.size=W2.heap.size:=rfl;clear a2 a8 kB kR a1 a0;have b9:w.heap.size+1<W2.drew.heap.size:=by omega
 clear a6 b3 b8;have b0:At W2.drew (w.heap.size+1) 0 (Tz nm)/\At W2.drew (w.heap.size+1) 1 (Sy b o ps.length c)/\At W2.drew (w.heap.size+1) 2 (Sy g q sl.length d)/\At W2.drew (w.heap.size+1) 3 (Tz (I0 ps))/\At W2.drew (w.heap.size+1) 4 (Iz (-1))/\At W2.drew (w.heap.size+1) 5 (Iz st):=a9.c6;refine F5 99 (λw'=>At w' (w.heap.size+1) 0 (Tz nm)/\At w' (w.heap.size+1) 1 (Sy b o ps.length c)/\At w' (w.heap.size+1) 2 (Sy g q sl.length d)/\At w' (w.heap.size+1) 3 (Tz (I0 ps))/\At w' (w.heap.size+1) 4 (Iz (-1))/\At w' (w.heap.size+1) 5 (Iz st)) (by kernel_rfl) ?_;generalize W2.drew=Y at *;refine D6 0 rfl b0 ?_;refine D6 1 rfl b0 ?_;refine E7 2 rfl (λK hK=>?_);go_simp;go_wp2_with (go_at_call 47;refine (Ei ⟨nm,ps,sl,I0 ps,-1,st⟩ _ _ _ b5 b4).mono ?_;rintro e w3 ⟨rfl,a4⟩)
 have b1:=a9.up a4 b9;have a3:=b6.up a4 (by omega);have c1:=D5 b7 a4;have c2:At w3 (w.heap.size+1) 0 (Tz nm)/\At w3 (w.heap.size+1) 1 (Sy b o ps.length c)/\At w3 (w.heap.size+1) 2 (Sy g q sl.length d)/\At w3 (w.heap.size+1) 3 (Tz (I0 ps))/\At w3 (w.heap.size+1) 4 (Iz (-1))/\At w3 (w.heap.size+1) 5 (Iz st):=b1.c6;refine E6 hK c2 ?_;clear hK K;have c3:=G3 w3 w.heap.size (Tz nm) (Sy b o ps.length c) (Sy g q sl.length d) (Tz (I0 ps)) (Iz (-1)) (Iz st);have c4:=b1.kept c3 (by simp);have b2:=c4.c6;obtain⟨y0,y1,y2,y3,y4,y5⟩:=a3.c6;obtain⟨f0,f1,f2,f3,f4,f5⟩:=a3.f6;refine E7 3 rfl (λK hK=>?_);go_simp;refine E6 hK b2 ?_;clear hK K;refine E7 4 rfl (λK hK=>?_);go_simp;refine E6 hK b2 ?_;clear hK K;refine F0 (by kernel_rfl) ?_ _;go_wp2_with fail;refine R7 results71 underlying40 rfl BF a3 rfl rfl ?_;exact⟨rfl,I9 c1 (A4 _) _ _ _ _ _ _⟩
theorem Xk(h:Ch b nm ls=0):I4 ls b.tg/\¬5<=b.bs.length:=by
 unfold Ch at h;split at h
 ·omega
 ·rename_i h1;split at h
  ·omega
  ·split at h
   ·omega
   ·rename_i h2;refine⟨K5.1 ?_,h2⟩;cases hp:pB (I4 ls b.tg)
    ·rw[hp,Bool.and_false] at h1;exact absurd rfl h1
    ·rfl
theorem NL(hok:J1 b)(h:Ch b nm ls=0):ls.length<=8:=by
 have h1:=V8 (Xk h).1;have h2:=(An hok).1;omega
theorem Rc(b:Bk)(nm:BA)(ls:List BA):K3 b nm ls=S2∨(J1 b/\K3 b nm ls=b)∨(J1 b/\ls.length<=8/\K3 b nm ls=⟨b.tg,b.bs.take (U3 b nm)++⟨nm,[],ls⟩::b.bs.drop (U3 b nm)⟩):=by
 rw[← (KK b nm ls).2];cases hb:K4 b
 ·exact .inl (by simp[X7,hb])
 ·by_cases hc:Ch b nm ls=0
  ·exact .inr (.inr ⟨Ab hb,NL (Ab hb) hc,by simp[X7,hb,hc]⟩)
  ·exact .inr (.inl ⟨Ab hb,by simp[X7,hb,hc]⟩)
theorem Yo{bs:List Ba}{x y:Ba}(h:y∈bs.take k++x::bs.drop k):y∈bs∨y=x:=by
 rcases D0.1 h with h|h
 ·exact .inl (List.mem_of_mem_take h)
 ·rcases List.mem_cons.1 h with h|h
  ·exact .inr h
  ·exact .inl (List.mem_of_mem_drop h)
theorem VF(h:Y0 b)(hn:∀s∈ls,s.size<=maxLen):Y0 (K3 b nm ls):=by
 rcases Rc b nm ls with e|⟨-,e⟩|⟨-,-,e⟩<;>rw[e]
 ·exact ED
 ·exact h
 ·refine⟨h.1,λx hx=>?_⟩;rcases Yo hx with k|k
  ·exact h.2 x k
  ·subst k;exact⟨λs hs=>by simp at hs,hn⟩
theorem Tv(b:Bk)(v:Value)(nm:BA)(lv:Value)(ls:List BA)(w:World)(h:Q6 w v b)(hl:Ls w lv ls)(hnz:nm.size<=maxLen)(hg:BD w):
  Calls prog 72 #[v,Tz nm,lv] w λe w'=>(∃u,e=.returned (.tuple #[u,Iz (N6 b nm ls)])/\S4 w' w.heap.size u (K3 b nm ls))/\Up w w':=by
 have hA:∀W,Up w W->Calls prog 128 #[v,.iface 180 (.agg #[Tz nm,lv])] W λe w'=>(∃u,e=.returned (.tuple #[u,Iz (N6 b nm ls)])/\S4 w' W.heap.size u (K3 b nm ls))/\Up W w':=λW hW=>by
  refine Mb b v nm _ _ (N6 b nm ls) (K3 b nm ls) W (h.up hW) (hg.up hW) λX hX=>?_;obtain⟨e1,e2⟩:=KK b nm ls;rw[← e1,← e2]
  exact RK b v nm _ _ 243 (Ch b nm ls) _ X ((h.up hW).up hX) (λn w=>RD n _ _ w) (λn w=>XJ n _ _ w) Zp
   (λhok Y hY=>Pu b v nm lv ls Y (((h.up hW).up hX).up hY) hok (((hl.up hW).up hX).up hY) hnz)
   (λhok hc Y hY=>Ob b v nm lv ls Y (((h.up hW).up hX).up hY) (((hl.up hW).up hX).up hY) (by have:=NL hok hc;omega) hnz hok)
 obtain⟨a1,c1,a2,c2,rfl,-,-⟩:=h.parts;obtain⟨la,lc,rfl,-⟩:=id hl;have HA:Hid (∀W,Up w W->Calls prog 128 #[.agg #[Vz a1 b.tg.length c1,Vz a2 b.bs.length c2],.iface 180 (.agg #[Tz nm,Vz la ls.length lc])] W λe w'=>(∃u,e=.returned (.tuple #[u,Iz (N6 b nm ls)])/\S4 w' W.heap.size u (K3 b nm ls))/\Up W w'):=hA;clear hA h hg hl;obtain⟨W1,a4,kA,kR,a0,a7⟩:=cbE2 w [Vz a1 (b).tg.length c1,Vz a2 (b).bs.length c2] 26 [Nz,Nz] 26;go_in;go_upto_region 1 with fail;try rw[a4]
 clear a4;obtain⟨e0,e1⟩:=kA.c2';go_wp2_with fail;refine (HA.out _ a0).mono ?_;rintro e w2 ⟨⟨u,rfl,hu⟩,a3⟩;have a5:=kR.up a3 (by omega);have a6:=D5 a0 a3;obtain⟨i1,j1,i2,j2,rfl⟩:=hu.shape;clear e0 e1 kA kR a0 a3 HA;obtain⟨⟨y0,y1⟩,q0,q1⟩:=a5.c2;go_wp2_with fail;refine O0 results72 underlying26 rfl M5 a5 rfl rfl ?_;exact⟨⟨_,rfl,((hu.set (by omega)).set (by omega)).low (by omega)⟩,K6 a6 (Nat.le_succ _) _ _⟩
end Go.Proofs.YtmonodehegcfhaaGreatDoor
