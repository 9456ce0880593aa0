/- The program's chapter 13: the answer and its code; ShareLeave. -/
import Derived.Test.YtgecdacgmehmbaaGreatDoorJ17
import Derived.Test.YtgecdacgmehmbaaGreatDoorRows
import Derived.Test.YtgecdacgmehmbaaGreatDoorJ10
import Derived.LaidHandle
import Derived.Test.YtgecdacgmehmbaaGreatDoorJ2
import Derived.Test.YtgecdacgmehmbaaGreatDoorJ12
import Derived.Test.YtgecdacgmehmbaaGreatDoorJ14
import Derived.Test.YtgecdacgmehmbaaGreatDoorJ19
set_option maxRecDepth 20000
set_option maxHeartbeats 4000000
namespace Go.Proofs.YtgecdacgmehmbaaGreatDoor
open Go.RowKit
def ErrT (w:World):Prop:=w.cell? ⟨0,0,none⟩=some (Value.iface 187 (.agg #[(Value.pointer (some ⟨2,86,none⟩))]))
theorem ErrT.up {w w':World} (h:ErrT w) (hb:Below w.heap.size w w'):ErrT w':=(hb.cell (p:=⟨0,0,none⟩) (World.block_lt_of_cell? w ⟨0,0,none⟩ h)).trans h
theorem Aen (b:Bk) (v:Value) (nm:ByteArray) (D:TypeId) (av:Value) (cd:Int) (bk:Bk) (w:World) (h:BkV w v b) (hg:ErrT w)
  (Htry:∀W,Below w.heap.size w W->Calls Tryz.prog 149 #[v,.iface D av] W λe w'=>(∃u,e=.returned (.tuple #[u,errV nm cd])/\BkF w' W.heap.size u bk)/\Below W.heap.size W w') :
  Calls Tryz.prog 121 #[v,.iface D av] w λe w'=>(∃u,e=.returned (.tuple #[u,.int .i64 cd])/\BkF w' w.heap.size u bk)/\Below w.heap.size w w':=by
 obtain⟨a1,c1,a2,c2,rfl,-,-⟩:=h.parts;clear h;obtain⟨W1,hW1,kA,kR,hB1,hs1⟩:=L8 w [.slice a1 (b).things.length c1,.slice a2 (b).bs.length c2] 37 [.slice none 0 0,.slice none 0 0] 37;have HT:=Htry W1 hB1;clear Htry;have HG:Hid (ErrT w):=hg;clear hg;go_enter Tryz.func121,Tryz.ntmps121
 go_upto_region 1 with fail
 try rw[hW1]
 clear hW1;obtain⟨e0,e1⟩:=kA.c2';go_wp2_with fail
 refine HT.mono ?_;rintro e w2 ⟨⟨u,rfl,hu⟩,hb2⟩;have hz2:=hb2.size;have kR2:=kR.up hb2 (by omega);have hB2:=D5 hB1 hb2;obtain⟨i1,j1,i2,j2,rfl⟩:=hu.shape;clear e0 e1 kA kR hB1 hb2 HT;go_upto_region 3 with fail
 obtain⟨W4,hW4,kX,kT,hb4,hs4⟩:=L8 w2 [.slice i1 bk.things.length j1,.slice i2 bk.bs.length j2] 37 [.int .i64 0] 130;try rw[hW4]
 clear hW4;have kR4:=kR2.up hb4 (by omega);have hB4:=D5 hB2 hb4;have hu4:=hu.up hb4;clear kR2 hB2;by_cases hc:cd=0
 ·subst hc
  rw[Ak3];go_wp2_with fail
  refine (AjY _ _).mono ?_;rintro e w5 ⟨rfl,hw5⟩;obtain rfl:=hw5.symm;obtain⟨⟨x0,x1⟩,-⟩:=kX.c2;obtain⟨⟨y0,y1⟩,q0,q1⟩:=kR4.c2;go_wp2_with fail
  refine J1 Tryz.results121 Tryz.underlying37 rfl I9 kR4 rfl rfl ?_;exact⟨⟨_,rfl,((hu4.set (by omega)).set (by omega)).low (by omega)⟩,G3 hB4 (Nat.le_succ _) _ _⟩
 ·rw[Ak4 hc]
  have t0:W4.cell? ⟨w2.heap.size+1,0,none⟩=some (.int .i64 0):=kT.1 0 _ rfl;have t1:W4.frozen? ⟨w2.heap.size+1,0,none⟩=false:=(kT.2.1 0 (by simp)).2;have HE:Hid (ErrT W4):=HG.out.up hB4;go_wp2_with fail
  refine (Ai9 nm cd _ _ _ HE.out t0 t1).mono ?_;rintro e w5 ⟨rfl,W5,hb5,rfl⟩;have kX5:=(kX.up hb5 (by omega)).other (q:=w2.heap.size+1) (j:=0) (u:=.int .i64 cd) (by omega);have kR5:=(kR4.up hb5 (by omega)).other (q:=w2.heap.size+1) (j:=0) (u:=.int .i64 cd) (by omega);have kT5:=(kT.up hb5 (by omega)).set (j:=0) (u:=.int .i64 cd) (by simp);have hB5:Below w.heap.size w (W5.setCell ⟨w2.heap.size+1,0,none⟩ (.int .i64 cd)):=(D5 hB4 hb5).setCell (p:=⟨w2.heap.size+1,0,none⟩) (by show _<=w2.heap.size+1;omega) _;have hu5:BkF (W5.setCell ⟨w2.heap.size+1,0,none⟩ (.int .i64 cd)) W1.heap.size _ bk:=hu.up ((D5 hb4 hb5).setCell (p:=⟨w2.heap.size+1,0,none⟩) (by show _<=w2.heap.size+1;omega) _);clear kX kR4 kT hB4 hu4 hu t0 t1 HE hb4 hb5;generalize W5.setCell ⟨w2.heap.size+1,0,none⟩ (.int .i64 cd)=W6 at *;obtain⟨⟨x0,x1⟩,-⟩:=kX5.c2;obtain⟨⟨y0,y1⟩,q0,q1⟩:=kR5.c2;have t0:W6.cell? ⟨w2.heap.size+1,0,none⟩=some (.int .i64 cd):=kT5.1 0 _ rfl;have kR6:=kR5.up (A4 _ _).drew kR5.2.2;have hu6:=hu5.up (A4 _ _).drew;go_wp2_with fail
  go_region
  all_goals
   go_wp2_with fail
   refine J1 Tryz.results121 Tryz.underlying37 rfl I9 kR6 rfl rfl ?_;exact⟨⟨_,rfl,((hu6.set (by omega)).set (by omega)).low (by omega)⟩,G3 hB5.drew (Nat.le_succ _) _ _⟩
end Go.Proofs.YtgecdacgmehmbaaGreatDoor
namespace Go.Proofs.YtgecdacgmehmbaaGreatDoor
open Go.ChangeShapes Go.WideShapes Go.ChangeAt Go.RowKit
theorem etN:Tryz.prog.globalNamed "errors.errorType"=some 0:=by kernel_rfl
theorem rtN:(Tryz.prog.cutTypes.find? (·.1 == "internal/reflectlite.rtype")).map (·.2)=some 187:=by kernel_rfl
theorem oneRow:((List.range Tryz.prog.types.size).filter λt=>Tryz.prog.rowNamed t [101,114,114,111,114])=[86]:=by kernel_rfl
theorem ErrT.of_laid {W:World} (h:laidMetH Tryz.prog [("errors.errorType",Rows.laid_errors_errorType)] W):ErrT W:=by
 have h':laidMet Tryz.prog [] W/\handlesMet Tryz.prog [("errors.errorType",Rows.laid_errors_errorType)] W:=h;obtain⟨name,u,ty,e1,e2,e3,e4,e5⟩:=h'.2 _ (D1.2 rfl);have en:name=[101,114,114,111,114]:=(A5 e1).symm;subst en;obtain rfl:=A5 (rtN.symm.trans e2);have hm:ty∈(List.range Tryz.prog.types.size).filter λt=>Tryz.prog.rowNamed t [101,114,114,111,114]:=List.mem_filter.2 ⟨List.mem_range.2 e3,e4⟩;rw[oneRow] at hm;obtain rfl:=D1.1 hm;have hh:typeHandle Tryz.prog 86=(Value.pointer (some ⟨2,86,none⟩)):=by kernel_rfl
 rw[hh] at e5;unfold ErrT;simpa using World.var?_cell etN e5 0
end Go.Proofs.YtgecdacgmehmbaaGreatDoor
namespace Go.Proofs.YtgecdacgmehmbaaGreatDoor
open Go.RowKit
theorem Aae (ps:List Ph) (b o c:Nat) (w:World) (hr:RecAt w b o ps) (hb:b<w.heap.size) (hs:Sized ps) (hn:ps.length<=1048576) :
  Calls Tryz.prog 26 #[.slice (some ⟨b,o,none⟩) ps.length c] w λe w'=>e=.returned (.bool (recB ps))/\Below w.heap.size w w':=by
 by_cases hl:1<=ps.length/\ps.length<=12
 case neg =>
  have h2:inB ps.length 1 12=false:=(Aax _ _ _).2 (by omega);go_enter Tryz.func26,Tryz.ntmps26
  go_wp2_with (go_at_call 57;refine (G7 _ _ _ _).mono ?_;rintro e w' ⟨rfl,hw⟩;obtain rfl:=hw.symm;clear hw)
  go_ret
  exact⟨D6 (Ad1 ps hl).symm,A4 _ _⟩
 have h2:inB ps.length 1 12=true:=(P9 _ _ _).2 (by omega);have Hl:Hid (1<=ps.length/\ps.length<=12):=hl;clear hl;go_enter Tryz.func26,Tryz.ntmps26
 go_wp2_with (go_at_call 57;refine (G7 _ _ _ _).mono ?_;rintro e w' ⟨rfl,hw⟩;obtain rfl:=hw.symm;clear hw)
 go_loopw [3] (λi w'=>∃k:Nat,k<=ps.length/\i=.int .i64 k/\allS ps k/\Below w.heap.size w w') (λi _=>ps.length-(intOf i).toNat)
 case atStart=>exact⟨0,by omega,rfl,Akf ps,A4 _ _⟩
 case round =>
  obtain⟨k,hk,rfl,hal,hB⟩:=hrel;have Hal:Hid (allS ps k):=hal;clear hal;by_cases hp:k<ps.length
  ·obtain⟨c0,c1,c2,c3,c4,c5,c6,c7⟩:=hr.cells k hp
   obtain⟨z0,z1,z2,z3,z4⟩:=hs ps[k] (by simp);obtain⟨hc,hf⟩:=E2 hB;have Hno:Hid (stepS ps k ps[k]=false->recB ps=false):=Al4 ps k hp;have Hyes:Hid (stepS ps k ps[k]=true->allS ps (k+1)):=Akd Hal.out hp;cases h1:phaseB (ps[k]).nm (ps[k]).k (ps[k]).a (ps[k]).b (ps[k]).n (ps[k]).wi (ps[k]).t (ps[k]).e
   ·go_wp2_with (first|(go_at_call 57;refine (G7 _ _ _ _).mono ?_;rintro e w' ⟨rfl,hw⟩;obtain rfl:=hw.symm;clear hw)|(go_at_call 64;refine (K9 _ _ _ _ _ _ _ _ _ z0 z1 z2 z3 z4).mono ?_;rintro e w1 ⟨rfl,hb1⟩;(first|(have hB':=D5 hB hb1;clear hB;have hB:=hB';clear hB')|(have hB:=hb1));clear hb1;(try clear hc hf);obtain⟨hc,hf⟩:=E2 hB)|(go_at_call 65;refine (O8 _ _ _ _ _ _ (hr.up hB hb) hn).mono ?_;rintro e w' ⟨rfl,hw⟩;obtain rfl:=hw.symm;clear hw)|(go_at_call 66;refine (L1 _ _).mono ?_;rintro e w' ⟨rfl,hw⟩;obtain rfl:=hw.symm;clear hw))
    go_ret
    exact⟨D6 (Hno.out (by simp[stepS,Ph.okB,h1])).symm,hB⟩
   have H1:Hid ((ps[k]).okB=true):=h1;cases h3:(atI ps (ps[k]).nm != (k:Int))
   case true =>
    have H3:Hid ((atI ps (ps[k]).nm==(k:Int))=false):=by show _=_;simpa [bne] using h3
    go_wp2_with (first|(go_at_call 57;refine (G7 _ _ _ _).mono ?_;rintro e w' ⟨rfl,hw⟩;obtain rfl:=hw.symm;clear hw)|(go_at_call 64;refine (K9 _ _ _ _ _ _ _ _ _ z0 z1 z2 z3 z4).mono ?_;rintro e w1 ⟨rfl,hb1⟩;(first|(have hB':=D5 hB hb1;clear hB;have hB:=hB';clear hB')|(have hB:=hb1));clear hb1;(try clear hc hf);obtain⟨hc,hf⟩:=E2 hB)|(go_at_call 65;refine (O8 _ _ _ _ _ _ (hr.up hB hb) hn).mono ?_;rintro e w' ⟨rfl,hw⟩;obtain rfl:=hw.symm;clear hw)|(go_at_call 66;refine (L1 _ _).mono ?_;rintro e w' ⟨rfl,hw⟩;obtain rfl:=hw.symm;clear hw))
    go_ret
    exact⟨D6 (Hno.out (by simp[stepS,H3.out])).symm,hB⟩
   have H3:Hid ((atI ps (ps[k]).nm==(k:Int))=true):=by show _=_;simpa [bne] using h3
   by_cases h4:(endN (ps[k]).t==0)=true/\atI ps (ps[k]).t<=(k:Int)
   case pos =>
    have H4:Hid (stepS ps k ps[k]=false):=by show _=_;simp[stepS,h4]
    obtain⟨h4a,h4b⟩:=h4;go_wp2_with (first|(go_at_call 57;refine (G7 _ _ _ _).mono ?_;rintro e w' ⟨rfl,hw⟩;obtain rfl:=hw.symm;clear hw)|(go_at_call 64;refine (K9 _ _ _ _ _ _ _ _ _ z0 z1 z2 z3 z4).mono ?_;rintro e w1 ⟨rfl,hb1⟩;(first|(have hB':=D5 hB hb1;clear hB;have hB:=hB';clear hB')|(have hB:=hb1));clear hb1;(try clear hc hf);obtain⟨hc,hf⟩:=E2 hB)|(go_at_call 65;refine (O8 _ _ _ _ _ _ (hr.up hB hb) hn).mono ?_;rintro e w' ⟨rfl,hw⟩;obtain rfl:=hw.symm;clear hw)|(go_at_call 66;refine (L1 _ _).mono ?_;rintro e w' ⟨rfl,hw⟩;obtain rfl:=hw.symm;clear hw))
    go_ret
    exact⟨D6 (Hno.out H4.out).symm,hB⟩
   have H4:Hid ((!(endN (ps[k]).t==0&&decide (atI ps (ps[k]).t<=(k:Int))))=true):=AhZ h4;by_cases h5:(endN (ps[k]).e==0)=true/\atI ps (ps[k]).e<=(k:Int)
   case pos =>
    have H5:Hid (stepS ps k ps[k]=false):=by show _=_;simp[stepS,h5]
    obtain⟨h5a,h5b⟩:=h5;cases h4a:(endN (ps[k]).t==0)
    ·clear h4
     go_wp2_with (first|(go_at_call 57;refine (G7 _ _ _ _).mono ?_;rintro e w' ⟨rfl,hw⟩;obtain rfl:=hw.symm;clear hw)|(go_at_call 64;refine (K9 _ _ _ _ _ _ _ _ _ z0 z1 z2 z3 z4).mono ?_;rintro e w1 ⟨rfl,hb1⟩;(first|(have hB':=D5 hB hb1;clear hB;have hB:=hB';clear hB')|(have hB:=hb1));clear hb1;(try clear hc hf);obtain⟨hc,hf⟩:=E2 hB)|(go_at_call 65;refine (O8 _ _ _ _ _ _ (hr.up hB hb) hn).mono ?_;rintro e w' ⟨rfl,hw⟩;obtain rfl:=hw.symm;clear hw)|(go_at_call 66;refine (L1 _ _).mono ?_;rintro e w' ⟨rfl,hw⟩;obtain rfl:=hw.symm;clear hw))
     go_ret
     exact⟨D6 (Hno.out H5.out).symm,hB⟩
    ·have h4b:(k:Int)<atI ps (ps[k]).t:=by
      rw[h4a] at h4;simpa using h4
     clear h4;go_wp2_with (first|(go_at_call 57;refine (G7 _ _ _ _).mono ?_;rintro e w' ⟨rfl,hw⟩;obtain rfl:=hw.symm;clear hw)|(go_at_call 64;refine (K9 _ _ _ _ _ _ _ _ _ z0 z1 z2 z3 z4).mono ?_;rintro e w1 ⟨rfl,hb1⟩;(first|(have hB':=D5 hB hb1;clear hB;have hB:=hB';clear hB')|(have hB:=hb1));clear hb1;(try clear hc hf);obtain⟨hc,hf⟩:=E2 hB)|(go_at_call 65;refine (O8 _ _ _ _ _ _ (hr.up hB hb) hn).mono ?_;rintro e w' ⟨rfl,hw⟩;obtain rfl:=hw.symm;clear hw)|(go_at_call 66;refine (L1 _ _).mono ?_;rintro e w' ⟨rfl,hw⟩;obtain rfl:=hw.symm;clear hw))
     go_ret
     exact⟨D6 (Hno.out H5.out).symm,hB⟩
   have H5:Hid (stepS ps k ps[k]=true):=by
    show _=_
    have e5:(!(endN (ps[k]).e==0&&decide (atI ps (ps[k]).e<=(k:Int))))=true:=AhZ h5;simp only[stepS,H1.out,H3.out,H4.out,e5,Bool.and_self]
   cases h4a:(endN (ps[k]).t==0)<;>cases h5a:(endN (ps[k]).e==0)
   ·clear h4 h5
    go_wp2_with (first|(go_at_call 57;refine (G7 _ _ _ _).mono ?_;rintro e w' ⟨rfl,hw⟩;obtain rfl:=hw.symm;clear hw)|(go_at_call 64;refine (K9 _ _ _ _ _ _ _ _ _ z0 z1 z2 z3 z4).mono ?_;rintro e w1 ⟨rfl,hb1⟩;(first|(have hB':=D5 hB hb1;clear hB;have hB:=hB';clear hB')|(have hB:=hb1));clear hb1;(try clear hc hf);obtain⟨hc,hf⟩:=E2 hB)|(go_at_call 65;refine (O8 _ _ _ _ _ _ (hr.up hB hb) hn).mono ?_;rintro e w' ⟨rfl,hw⟩;obtain rfl:=hw.symm;clear hw)|(go_at_call 66;refine (L1 _ _).mono ?_;rintro e w' ⟨rfl,hw⟩;obtain rfl:=hw.symm;clear hw))
    go_roundw
    case rel=>exact⟨k+1,by omega,by go_num,Hyes.out H5.out,hB⟩
    case measure=>simp[intOf];omega
   ·have h5b:(k:Int)<atI ps (ps[k]).e:=by
     rw[h5a] at h5;simpa using h5
    clear h4 h5;go_wp2_with (first|(go_at_call 57;refine (G7 _ _ _ _).mono ?_;rintro e w' ⟨rfl,hw⟩;obtain rfl:=hw.symm;clear hw)|(go_at_call 64;refine (K9 _ _ _ _ _ _ _ _ _ z0 z1 z2 z3 z4).mono ?_;rintro e w1 ⟨rfl,hb1⟩;(first|(have hB':=D5 hB hb1;clear hB;have hB:=hB';clear hB')|(have hB:=hb1));clear hb1;(try clear hc hf);obtain⟨hc,hf⟩:=E2 hB)|(go_at_call 65;refine (O8 _ _ _ _ _ _ (hr.up hB hb) hn).mono ?_;rintro e w' ⟨rfl,hw⟩;obtain rfl:=hw.symm;clear hw)|(go_at_call 66;refine (L1 _ _).mono ?_;rintro e w' ⟨rfl,hw⟩;obtain rfl:=hw.symm;clear hw))
    go_roundw
    case rel=>exact⟨k+1,by omega,by go_num,Hyes.out H5.out,hB⟩
    case measure=>simp[intOf];omega
   ·have h4b:(k:Int)<atI ps (ps[k]).t:=by
     rw[h4a] at h4;simpa using h4
    clear h4 h5;go_wp2_with (first|(go_at_call 57;refine (G7 _ _ _ _).mono ?_;rintro e w' ⟨rfl,hw⟩;obtain rfl:=hw.symm;clear hw)|(go_at_call 64;refine (K9 _ _ _ _ _ _ _ _ _ z0 z1 z2 z3 z4).mono ?_;rintro e w1 ⟨rfl,hb1⟩;(first|(have hB':=D5 hB hb1;clear hB;have hB:=hB';clear hB')|(have hB:=hb1));clear hb1;(try clear hc hf);obtain⟨hc,hf⟩:=E2 hB)|(go_at_call 65;refine (O8 _ _ _ _ _ _ (hr.up hB hb) hn).mono ?_;rintro e w' ⟨rfl,hw⟩;obtain rfl:=hw.symm;clear hw)|(go_at_call 66;refine (L1 _ _).mono ?_;rintro e w' ⟨rfl,hw⟩;obtain rfl:=hw.symm;clear hw))
    go_roundw
    case rel=>exact⟨k+1,by omega,by go_num,Hyes.out H5.out,hB⟩
    case measure=>simp[intOf];omega
   ·have h4b:(k:Int)<atI ps (ps[k]).t:=by
     rw[h4a] at h4;simpa using h4
    have h5b:(k:Int)<atI ps (ps[k]).e:=by
     rw[h5a] at h5;simpa using h5
    clear h4 h5;go_wp2_with (first|(go_at_call 57;refine (G7 _ _ _ _).mono ?_;rintro e w' ⟨rfl,hw⟩;obtain rfl:=hw.symm;clear hw)|(go_at_call 64;refine (K9 _ _ _ _ _ _ _ _ _ z0 z1 z2 z3 z4).mono ?_;rintro e w1 ⟨rfl,hb1⟩;(first|(have hB':=D5 hB hb1;clear hB;have hB:=hB';clear hB')|(have hB:=hb1));clear hb1;(try clear hc hf);obtain⟨hc,hf⟩:=E2 hB)|(go_at_call 65;refine (O8 _ _ _ _ _ _ (hr.up hB hb) hn).mono ?_;rintro e w' ⟨rfl,hw⟩;obtain rfl:=hw.symm;clear hw)|(go_at_call 66;refine (L1 _ _).mono ?_;rintro e w' ⟨rfl,hw⟩;obtain rfl:=hw.symm;clear hw))
    go_roundw
    case rel=>exact⟨k+1,by omega,by go_num,Hyes.out H5.out,hB⟩
    case measure=>simp[intOf];omega
  ·go_wp2
   go_ret
   exact⟨D6 (Akh ps k Hl.out hk hp Hal.out).symm,hB⟩
def Out (lo hi:Nat) (w w':World):Prop:=w'.os=w.os/\w'.tape=w.tape/\w'.output=w.output/\w.heap.size<=w'.heap.size/\∀i,i<w.heap.size->(i<lo∨hi<=i)->w'.heap[i]?=w.heap[i]?
theorem Out.refl (lo hi:Nat) (w:World):Out lo hi w w:=⟨rfl,rfl,rfl,A3 _,λ_ _ _=>rfl⟩
theorem Out.grown {lo hi:Nat} {a b c:World} {q:Nat} (h:Out lo hi a b) (hg:b.grownBy c (some q)) (hq:lo<=q/\q<hi):Out lo hi a c :=
 ⟨hg.os.trans h.1,hg.tape.trans h.2.1,hg.output.trans h.2.2.1,B1 h.2.2.2.1 hg.size,λi hi hr=>(hg.block i (A1 hi h.2.2.2.1) (by simp;omega)).trans (h.2.2.2.2 i hi hr)⟩
theorem Out.up {lo hi:Nat} {a b c:World} (h:Out lo hi a b) (hb:Below b.heap.size b c):Out lo hi a c :=
 ⟨hb.os.trans h.1,hb.tape.trans h.2.1,hb.output.trans h.2.2.1,B1 h.2.2.2.1 hb.size,λi hi hr=>(hb.block i (A1 hi h.2.2.2.1)).trans (h.2.2.2.2 i hi hr)⟩
theorem Out.blk {lo hi:Nat} {a b:World} (h:Out lo hi a b) {i:Nat} (h1:i<a.heap.size) (h2:i<lo∨hi<=i):b.heap[i]?=a.heap[i]?:=h.2.2.2.2 i h1 h2
def LsR (w:World) (lo hi:Nat) (v:Value) (N:Nat):Prop:=∃bb,v=.slice (some ⟨bb,0,none⟩) N N/\w.there bb 0 N/\lo<=bb/\bb<hi/\hi<=w.heap.size
theorem LsR.thr {w w':World} {lo hi:Nat} {v:Value} {N:Nat} (h:LsR w lo hi v N) (ht:Thr w w') (hz:w.heap.size<=w'.heap.size):LsR w' lo hi v N:=by
 obtain⟨bb,rfl,h1,h2,h3,h4⟩:=h;exact⟨bb,rfl,ht bb N (by omega) h1,h2,h3,by omega⟩
theorem LsO.lsR {w:World} {lo base:Nat} {v:Value} {ss:List ByteArray} (h:LsO w base v ss) (hb:lo<=base):LsR w lo w.heap.size v ss.length:=by
 obtain⟨b,rfl,-,ht,h0,h2,-⟩:=h;exact⟨b,rfl,ht,by omega,h2,A3 _⟩
def BaR (w:World) (hi b0 o:Nat) (x:Ba):Prop:=∃hv nv,w.cell? ⟨b0,o+1,none⟩=some hv/\w.cell? ⟨b0,o+2,none⟩=some nv/\LsR w (b0+1) hi hv x.has.length/\LsR w (b0+1) hi nv x.needs.length
def BsR (w:World) (lo hi b0:Nat) (bs:List Ba):Prop:=w.there b0 0 (bs.length*3)/\lo<=b0/\b0<hi/\hi<=w.heap.size/\∀(i:Nat) (x:Ba),bs[i]?=some x->BaR w hi b0 (i*3) x
theorem BaR.keep {w w':World} {hi b0 o:Nat} {x:Ba} (h:BaR w hi b0 o x) (ht:Thr w w') (hz:w.heap.size<=w'.heap.size) (h1:w'.cell? ⟨b0,o+1,none⟩=w.cell? ⟨b0,o+1,none⟩) (h2:w'.cell? ⟨b0,o+2,none⟩=w.cell? ⟨b0,o+2,none⟩):BaR w' hi b0 o x:=by
 obtain⟨hv,nv,c1,c2,l1,l2⟩:=h;exact⟨hv,nv,h1.trans c1,h2.trans c2,l1.thr ht hz,l2.thr ht hz⟩
theorem BsR.other {w w':World} {lo hi b0 q:Nat} {bs:List Ba} (h:BsR w lo hi b0 bs) (hg:w.grownBy w' (some q)) (ht:Thr w w') (hq:q≠b0):BsR w' lo hi b0 bs:=by
 obtain⟨h1,h2,h3,h4,h5⟩:=h;have hk:=hg.block b0 (by omega) (by simp;omega);exact⟨ht _ _ (by omega) h1,h2,h3,B1 h4 hg.size,λi x hx=>(h5 i x hx).keep ht hg.size (C0 (w:=w) hk) (C0 (w:=w) hk)⟩
theorem BsR.up {w w':World} {lo hi b0:Nat} {bs:List Ba} (h:BsR w lo hi b0 bs) (hb:Below w.heap.size w w'):BsR w' lo hi b0 bs:=by
 obtain⟨h1,h2,h3,h4,h5⟩:=h;have hk:=hb.block b0 (by omega);exact⟨I3 h1 hb (by omega),h2,h3,B1 h4 hb.size,λi x hx=>(h5 i x hx).keep (Aee hb) hb.size (C0 (w:=w) hk) (C0 (w:=w) hk)⟩
theorem BsR.name {w:World} {lo hi b0 k:Nat} {bs:List Ba} (h:BsR w lo hi b0 bs) (u:Value):BsR (w.setCell ⟨b0,k*3,none⟩ u) lo hi b0 bs:=by
 obtain⟨h1,h2,h3,h4,h5⟩:=h;refine⟨S5 _ _ (by omega) h1,h2,h3,by simpa using h4,λi x hx=>(h5 i x hx).keep S5 (by simp) ?_ ?_⟩
 ·exact B9 _ _ _ _ (by simp<;>omega)
 ·exact B9 _ _ _ _ (by simp<;>omega)
theorem BsO.bsR {w:World} {base lo:Nat} {v:Value} {bs:List Ba} (h:BsO w base v bs) (hb:lo<=base):∃b0,v=.slice (some ⟨b0,0,none⟩) bs.length bs.length/\BsR w lo w.heap.size b0 bs:=by
 obtain⟨b0,rfl,h1,ht,h0,h2,-⟩:=h;refine⟨b0,rfl,ht,by omega,h2,A3 _,λi x hx=>?_⟩;obtain⟨hv,nv,hr,l1,l2,-⟩:=h1 i x hx;exact⟨hv,nv,hr 1 _ rfl,hr 2 _ rfl,l1.lsR (A3 _),l2.lsR (A3 _)⟩
theorem AlV (bs:List Ba) (lo hi b0:Nat) (m:Int) (w:World) (h:BsR w lo hi b0 bs) (hn:bs.length<=1048576) (hsm:∀x∈bs,x.has.length<=1048576/\x.needs.length<=1048576) (hm:1<=m) (hm9:m<=2000000) :
  Calls Tryz.prog 92 #[.slice (some ⟨b0,0,none⟩) bs.length bs.length,.int .i64 m] w λe w'=>(∃k:Int,e=.returned (.int .i64 k)/\1<=k/\k<=3000000000000)/\Out lo hi w w':=by
 go_enter Tryz.func92,Tryz.ntmps92
 go_wp2
 go_loopw [1,5] (λkk i w'=>∃(k:Nat) (y:Int),k<=bs.length/\i=.int .i64 k/\kk=.int .i64 y/\1<=y/\y<=2000000+2097153*(k:Int)/\BsR w' lo hi b0 bs/\Out lo hi w w') (λ_ i _=>bs.length-(intOf i).toNat)
 case atStart=>exact⟨0,m,by omega,rfl,rfl,hm,by omega,h,Out.refl _ _ _⟩
 case round =>
  clear h;obtain⟨k,y,hk,rfl,rfl,hy,hy9,hR,hO⟩:=hrel;by_cases hp:k<bs.length
  ·obtain⟨s1,s2⟩:=hsm bs[k] (by simp)
   have Hx:Hid (bs[k]?=some bs[k]):=A0 hp;generalize bs[k]=x0 at *;go_wp2_with fail
   refine (F8 y wr (by omega)).mono ?_;rintro e w1 ⟨rfl,hB1⟩;have hR1:=hR.up hB1;have hO1:=hO.up hB1;obtain⟨ht,hlo,hhi,hsz,-⟩:=id hR1;have hc:=ht (k*3) (by omega);rw[Nat.zero_add] at hc;obtain⟨z0,c0⟩:=Option.isSome_iff_exists.1 hc.1;have f0:=hc.2;have hR2:=hR1.name (k:=k) (.string (mkB y));have hO2:=hO1.grown (D9 (off:=k*3) (E1 w1 (some b0)) (.string (mkB y))) ⟨hlo,hhi⟩;clear hR hO hB1 hR1 hO1 hc ht;generalize mkB y=mb at *;go_upto_region 6 with fail
   clear c0 f0;generalize w1.setCell ⟨b0,k*3,none⟩ (.string mb)=W2 at *;obtain⟨hv,nv,c1,c2,⟨bh,rfl,th,hl1,hl2,hl3⟩,-⟩:=hR2.2.2.2.2 k x0 Hx.out;go_wp2_with fail
   refine (Ad9 x0.has.length bh (y+1) _ th (by omega) s1 (by omega) (by omega)).mono ?_;rintro e w3 ⟨rfl,hg3,ht3⟩;have hR3:=hR2.other hg3 ht3 (by omega);have hO3:=hO2.grown hg3 ⟨by omega,hl2⟩;clear hR2 hO2 c1 c2 th hg3 ht3;obtain⟨hv,nv,c1,c2,-,⟨bn,rfl,tn,hn1,hn2,hn3⟩⟩:=hR3.2.2.2.2 k x0 Hx.out;go_wp2_with fail
   refine (Ad9 x0.needs.length bn (y+1+x0.has.length) _ tn (by omega) s2 (by omega) (by omega)).mono ?_;rintro e w4 ⟨rfl,hg4,ht4⟩;have hR4:=hR3.other hg4 ht4 (by omega);have hO4:=hO3.grown hg4 ⟨by omega,hn2⟩;clear hR3 hO3 c1 c2 tn hg4 ht4;go_wp2_with fail
   go_roundw
   case rel=>exact⟨k+1,_,by omega,by go_num,rfl,by omega,by omega,hR4,hO4⟩
   case measure=>simp[intOf];omega
  ·go_wp2_with fail
   go_ret
   exact⟨⟨_,rfl,hy,by omega⟩,hO⟩
theorem CB.blk {w w':World} {b:Nat} {cs:List Value} (h:CB w b cs) (hb:w'.heap[b]?=w.heap[b]?) (hz:w.heap.size<=w'.heap.size):CB w' b cs:=by
 refine⟨λj v hv=>?_,λj hj=>?_,A1 h.2.2 hz⟩
 ·rw[C0 (w:=w) (a:=⟨b,0+j,none⟩) hb];exact h.1 j v hv
 ·rw[C0 (w:=w) (a:=⟨b,0+j,none⟩) hb,World.frozen?_of_block (w:=w) (a:=⟨b,0+j,none⟩) hb];exact h.2.1 j hj
def BkR (w:World) (lo hi:Nat) (v:Value) (b:Bk):Prop:=∃bt b0 mid,v=.agg #[.slice (some ⟨bt,0,none⟩) b.things.length b.things.length,.slice (some ⟨b0,0,none⟩) b.bs.length b.bs.length]/\w.there bt 0 b.things.length/\lo<=bt/\bt<hi/\bt<mid/\lo<=mid/\hi<=w.heap.size/\BsR w mid hi b0 b.bs
theorem BkO.bkR {w:World} {base:Nat} {v:Value} {b:Bk} (h:BkO w base v b):BkR w base w.heap.size v b:=by
 obtain⟨tv,bv,mid,rfl,h1,h2,hmid,hown⟩:=h;obtain⟨bt,rfl,tt,hb1,hb2,hb3⟩:=h1.lsR (A3 _);have hbm:=hown bt rfl;obtain⟨b0,rfl,hR⟩:=h2.bsR (A3 _);exact⟨bt,b0,mid,rfl,tt,hb1,hb2,hbm,hmid,A3 _,hR⟩
theorem BkR.up {w w':World} {lo hi:Nat} {v:Value} {b:Bk} (h:BkR w lo hi v b) (hb:Below w.heap.size w w'):BkR w' lo hi v b:=by
 obtain⟨bt,b0,mid,rfl,h1,h2,h3,h4,h5,h6,h7⟩:=h;exact⟨bt,b0,mid,rfl,I3 h1 hb (by omega),h2,h3,h4,h5,B1 h6 hb.size,h7.up hb⟩
theorem Ajf (b:Bk) (lo hi:Nat) (v:Value) (w:World) (h:BkR w lo hi v b) (hs:Small b) :
  Calls Tryz.prog 46 #[v,.int .i64 1] w λe w'=>(∃k:Int,e=.returned (.int .i64 k)/\1<=k/\k<=3000000000000)/\Out lo hi w w':=by
 obtain⟨bt,b0,mid,rfl,tt,hb1,hb2,hbm,hmid,hb3,hR⟩:=h;obtain⟨g1,g2,g3⟩:=hs;have hb0:=hR.2.1;obtain⟨W1,hW1,kA,hB1,hs1⟩:=K6 w [.slice (some ⟨bt,0,none⟩) b.things.length b.things.length,.slice (some ⟨b0,0,none⟩) b.bs.length b.bs.length] 37;have hR1:=hR.up hB1;have tt1:=I3 tt hB1 (by omega);have hO1:=(Out.refl lo hi w).up hB1;go_enter Tryz.func46,Tryz.ntmps46
 go_upto_region 1 with fail
 try rw[hW1]
 clear hW1 hR tt;obtain⟨p0,p1⟩:=kA.c2';go_wp2_with fail
 refine (Ad9 b.things.length bt 1 _ tt1 (by omega) g1 (by omega) (by omega)).mono ?_;rintro e w2 ⟨rfl,hg2,ht2⟩;have hR2:=hR1.other hg2 ht2 (by omega);have hO2:=hO1.grown hg2 ⟨hb1,hb2⟩;have kA2:=kA.kept hg2 (by simp;omega);clear p0 p1 kA hR1 hO1 hg2 ht2 tt1;obtain⟨p0,p1⟩:=kA2.c2';go_wp2_with fail
 refine (AlV b.bs mid hi b0 (1+b.things.length) _ hR2 g2 g3 (by omega) (by omega)).mono ?_;rintro e w3 ⟨⟨k,rfl,hk1⟩,hO3⟩;have hO4:Out lo hi w w3:=⟨hO3.1.trans hO2.1,hO3.2.1.trans hO2.2.1,hO3.2.2.1.trans hO2.2.2.1,B1 hO2.2.2.2.1 hO3.2.2.2.1,λi hi hr=>(hO3.2.2.2.2 i (A1 hi hO2.2.2.2.1) (by omega)).trans (hO2.2.2.2.2 i hi hr)⟩;clear p0 p1;go_wp2_with fail
 go_ret
 exact⟨⟨_,rfl,hk1⟩,hO4⟩
end Go.Proofs.YtgecdacgmehmbaaGreatDoor
