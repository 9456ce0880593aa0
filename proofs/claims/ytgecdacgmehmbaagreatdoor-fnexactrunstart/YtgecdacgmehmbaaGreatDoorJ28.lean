/- RunThings and RunOwn, by the specification and by the program (chapter 21). -/
import Derived.Test.YtgecdacgmehmbaaGreatDoorJ26
import Derived.Test.YtgecdacgmehmbaaGreatDoorJ25
import Derived.Test.YtgecdacgmehmbaaGreatDoorJ10
import Derived.Test.YtgecdacgmehmbaaGreatDoorJ2
set_option maxRecDepth 20000
set_option maxHeartbeats 8000000
namespace Go.Proofs.YtgecdacgmehmbaaGreatDoor
open Go.RowKit
theorem AeG {W w0:World} {q:Nat} {x0 x1 x2 x3 x4 x5:Value} (h:Below W.heap.size W w0/\w0.cell? ⟨q,0,none⟩=some x0/\w0.cell? ⟨q,1,none⟩=some x1/\w0.cell? ⟨q,2,none⟩=some x2/\w0.cell? ⟨q,3,none⟩=some x3/\w0.cell? ⟨q,4,none⟩=some x4/\w0.cell? ⟨q,5,none⟩=some x5):Below W.heap.size W w0.drew/\w0.drew.cell? ⟨q,0,none⟩=some x0/\w0.drew.cell? ⟨q,1,none⟩=some x1/\w0.drew.cell? ⟨q,2,none⟩=some x2/\w0.drew.cell? ⟨q,3,none⟩=some x3/\w0.drew.cell? ⟨q,4,none⟩=some x4/\w0.drew.cell? ⟨q,5,none⟩=some x5 :=
 ⟨h.1.drew,h.2⟩
theorem Ajm {W w0 w1:World} {q:Nat} {x0 x1 x2 x3 x4 x5:Value} (hq:q<W.heap.size) (h:Below W.heap.size W w0/\w0.cell? ⟨q,0,none⟩=some x0/\w0.cell? ⟨q,1,none⟩=some x1/\w0.cell? ⟨q,2,none⟩=some x2/\w0.cell? ⟨q,3,none⟩=some x3/\w0.cell? ⟨q,4,none⟩=some x4/\w0.cell? ⟨q,5,none⟩=some x5) (hB:Below w0.heap.size w0 w1):Below W.heap.size W w1/\w1.cell? ⟨q,0,none⟩=some x0/\w1.cell? ⟨q,1,none⟩=some x1/\w1.cell? ⟨q,2,none⟩=some x2/\w1.cell? ⟨q,3,none⟩=some x3/\w1.cell? ⟨q,4,none⟩=some x4/\w1.cell? ⟨q,5,none⟩=some x5:=by
 obtain⟨h0,a0,a1,a2,a3,a4,a5⟩:=h;have lq:q<w0.heap.size:=A1 hq h0.size;exact⟨D5 h0 hB,(hB.cell (p:=⟨q,0,none⟩) lq).trans a0,(hB.cell (p:=⟨q,1,none⟩) lq).trans a1,(hB.cell (p:=⟨q,2,none⟩) lq).trans a2,(hB.cell (p:=⟨q,3,none⟩) lq).trans a3,(hB.cell (p:=⟨q,4,none⟩) lq).trans a4,(hB.cell (p:=⟨q,5,none⟩) lq).trans a5⟩
theorem Amb {W w0:World} {q r o:Nat} {x0 x1 x2 x3 x4 x5 x6 x7 x8 x9 x10 x11 x12 x13:Value} (h:Below W.heap.size W w0/\w0.cell? ⟨q,0,none⟩=some x0/\w0.cell? ⟨q,1,none⟩=some x1/\w0.cell? ⟨q,2,none⟩=some x2/\w0.cell? ⟨q,3,none⟩=some x3/\w0.cell? ⟨q,4,none⟩=some x4/\w0.cell? ⟨q,5,none⟩=some x5/\w0.cell? ⟨r,o,none⟩=some x6/\w0.cell? ⟨r,o+1,none⟩=some x7/\w0.cell? ⟨r,o+2,none⟩=some x8/\w0.cell? ⟨r,o+3,none⟩=some x9/\w0.cell? ⟨r,o+4,none⟩=some x10/\w0.cell? ⟨r,o+5,none⟩=some x11/\w0.cell? ⟨r,o+6,none⟩=some x12/\w0.cell? ⟨r,o+7,none⟩=some x13):Below W.heap.size W w0.drew/\w0.drew.cell? ⟨q,0,none⟩=some x0/\w0.drew.cell? ⟨q,1,none⟩=some x1/\w0.drew.cell? ⟨q,2,none⟩=some x2/\w0.drew.cell? ⟨q,3,none⟩=some x3/\w0.drew.cell? ⟨q,4,none⟩=some x4/\w0.drew.cell? ⟨q,5,none⟩=some x5/\w0.drew.cell? ⟨r,o,none⟩=some x6/\w0.drew.cell? ⟨r,o+1,none⟩=some x7/\w0.drew.cell? ⟨r,o+2,none⟩=some x8/\w0.drew.cell? ⟨r,o+3,none⟩=some x9/\w0.drew.cell? ⟨r,o+4,none⟩=some x10/\w0.drew.cell? ⟨r,o+5,none⟩=some x11/\w0.drew.cell? ⟨r,o+6,none⟩=some x12/\w0.drew.cell? ⟨r,o+7,none⟩=some x13 :=
 ⟨h.1.drew,h.2⟩
theorem k14_up {W w0 w1:World} {q r o:Nat} {x0 x1 x2 x3 x4 x5 x6 x7 x8 x9 x10 x11 x12 x13:Value} (hq:q<W.heap.size) (hr:r<W.heap.size) (h:Below W.heap.size W w0/\w0.cell? ⟨q,0,none⟩=some x0/\w0.cell? ⟨q,1,none⟩=some x1/\w0.cell? ⟨q,2,none⟩=some x2/\w0.cell? ⟨q,3,none⟩=some x3/\w0.cell? ⟨q,4,none⟩=some x4/\w0.cell? ⟨q,5,none⟩=some x5/\w0.cell? ⟨r,o,none⟩=some x6/\w0.cell? ⟨r,o+1,none⟩=some x7/\w0.cell? ⟨r,o+2,none⟩=some x8/\w0.cell? ⟨r,o+3,none⟩=some x9/\w0.cell? ⟨r,o+4,none⟩=some x10/\w0.cell? ⟨r,o+5,none⟩=some x11/\w0.cell? ⟨r,o+6,none⟩=some x12/\w0.cell? ⟨r,o+7,none⟩=some x13) (hB:Below w0.heap.size w0 w1):Below W.heap.size W w1/\w1.cell? ⟨q,0,none⟩=some x0/\w1.cell? ⟨q,1,none⟩=some x1/\w1.cell? ⟨q,2,none⟩=some x2/\w1.cell? ⟨q,3,none⟩=some x3/\w1.cell? ⟨q,4,none⟩=some x4/\w1.cell? ⟨q,5,none⟩=some x5/\w1.cell? ⟨r,o,none⟩=some x6/\w1.cell? ⟨r,o+1,none⟩=some x7/\w1.cell? ⟨r,o+2,none⟩=some x8/\w1.cell? ⟨r,o+3,none⟩=some x9/\w1.cell? ⟨r,o+4,none⟩=some x10/\w1.cell? ⟨r,o+5,none⟩=some x11/\w1.cell? ⟨r,o+6,none⟩=some x12/\w1.cell? ⟨r,o+7,none⟩=some x13:=by
 obtain⟨h0,a0,a1,a2,a3,a4,a5,a6,a7,a8,a9,a10,a11,a12,a13⟩:=h;have lq:q<w0.heap.size:=A1 hq h0.size;have lr:r<w0.heap.size:=A1 hr h0.size;exact⟨D5 h0 hB,(hB.cell (p:=⟨q,0,none⟩) lq).trans a0,(hB.cell (p:=⟨q,1,none⟩) lq).trans a1,(hB.cell (p:=⟨q,2,none⟩) lq).trans a2,(hB.cell (p:=⟨q,3,none⟩) lq).trans a3,(hB.cell (p:=⟨q,4,none⟩) lq).trans a4,(hB.cell (p:=⟨q,5,none⟩) lq).trans a5,(hB.cell (p:=⟨r,o,none⟩) lr).trans a6,(hB.cell (p:=⟨r,o+1,none⟩) lr).trans a7,(hB.cell (p:=⟨r,o+2,none⟩) lr).trans a8,(hB.cell (p:=⟨r,o+3,none⟩) lr).trans a9,(hB.cell (p:=⟨r,o+4,none⟩) lr).trans a10,(hB.cell (p:=⟨r,o+5,none⟩) lr).trans a11,(hB.cell (p:=⟨r,o+6,none⟩) lr).trans a12,(hB.cell (p:=⟨r,o+7,none⟩) lr).trans a13⟩
theorem MapS.up {w w':World} {M n:Nat} {D:DataW Unit} (h:MapS w M n D) (hB:Below w.heap.size w w'):MapS w' M n D :=
 World.ownsMap.kept (row:=none) h ⟨hB.os,hB.tape,hB.output,hB.size,λi hi _=>hB.block i hi⟩ (by simp)
theorem Aau {x:Rb} (h:RbOk x) (nm:ByteArray):rbThings x nm=thE x.sl (slE x.ps nm):=by unfold rbThings;rw[if_pos (G9 h)]
theorem Aav {x:Rb} (h:¬RbOk x) (nm:ByteArray):rbThings x nm=[]:=by unfold rbThings;rw[F1 h];rfl
theorem Ack {x:Rb} (h:RbOk x):rbOwn x=thE x.sl (ofL (phOf x.ps x.ad)):=by unfold rbOwn;rw[if_pos (G9 h)]
theorem Acl {x:Rb} (h:¬RbOk x):rbOwn x=[]:=by unfold rbOwn;rw[F1 h];rfl
theorem AgB {l:List Sl} {ss tt:List ByteArray} (h:keys (thE l ss)=thI l tt):namesOf (thI l tt)=thE l ss:=by rw[← h,Acf]
theorem Aaw (x:Rb) (rv sv:Value) (nm:ByteArray) (w:World) (h:RbV w x rv sv) :
  Calls Tryz.prog 31 #[.agg #[.string x.nm,rv,sv,.string x.ad,.int .i64 x.si,.int .i64 x.st],.string nm] w λe w'=>(∃u,e=.returned u/\Txt w' u (rbThings x nm))/\Below w.heap.size w w':=by
 have hok:=λW (hB:Below w.heap.size w W)=>O2 x rv sv W (h.up hB);obtain⟨b,o,c,rfl,hr,hb,hcap,hc9⟩:=h.r;obtain⟨g,q,d,rfl,hl,hg⟩:=h.s;have ns:=h.ns;clear h;have hC:CB (w.alloc (.cells #[.string x.nm,.slice (some ⟨b,o,none⟩) x.ps.length c,.slice (some ⟨g,q,none⟩) x.sl.length d,.string x.ad,.int .i64 x.si,.int .i64 x.st] 71)) w.heap.size [.string x.nm,.slice (some ⟨b,o,none⟩) x.ps.length c,.slice (some ⟨g,q,none⟩) x.sl.length d,.string x.ad,.int .i64 x.si,.int .i64 x.st]:=E8 w _ _;have hB0:=(A4 w.heap.size w).alloc (A3 _) (.cells #[.string x.nm,.slice (some ⟨b,o,none⟩) x.ps.length c,.slice (some ⟨g,q,none⟩) x.sl.length d,.string x.ad,.int .i64 x.si,.int .i64 x.st] 71);have HO:Hid (∀W,Below w.heap.size w W->Calls Tryz.prog 60 #[.agg #[.string x.nm,.slice (some ⟨b,o,none⟩) x.ps.length c,.slice (some ⟨g,q,none⟩) x.sl.length d,.string x.ad,.int .i64 x.si,.int .i64 x.st]] W λe w'=>e=.returned (.bool (pB (RbOk x)))/\Below W.heap.size W w'):=hok;clear hok;go_enter Tryz.func31,Tryz.ntmps31
 go_upto_region 1 with fail
 generalize w.alloc (.cells #[.string x.nm,.slice (some ⟨b,o,none⟩) x.ps.length c,.slice (some ⟨g,q,none⟩) x.sl.length d,.string x.ad,.int .i64 x.si,.int .i64 x.st] 71)=W1 at *;obtain⟨d0,d1,d2,d3,d4,d5⟩:=hC.c6;have hlt:=hC.2.2;by_cases hk:RbOk x
 case neg =>
  have HN:Hid (rbThings x nm=[]):=Aav hk nm;have hp:=F1 hk;go_wp2_with fail
  refine (HO.out _ hB0).mono ?_;rw[hp];rintro e w1 ⟨rfl,hB1⟩;go_wp2_with fail
  go_ret
  exact⟨⟨_,rfl,by rw[HN.out];exact AcY w1⟩,D5 (D5 hB0 hB1) ((A4 _ _).alloc (A3 _) _)⟩
 have HY:Hid (rbThings x nm=thE x.sl (slE x.ps nm)):=Aau hk nm;have hrb:=hk.2.1;have h12:x.ps.length<=12:=((I4 x.ps).1 hrb).2.1;have hp:=G9 hk;have hsl:=Aap x.ps nm;clear hk;go_wp2_with fail
 refine (HO.out _ hB0).mono ?_;rw[hp];rintro e w1 ⟨rfl,hB1⟩;go_upto_region 3 with fail
 have hB01:=D5 hB0 hB1;obtain⟨f0,f1,f2,f3,f4,f5⟩:=(hC.up hB1 hlt).c6;have hq4:w.heap.size<w1.heap.size:=A1 hlt hB1.size;have hS0:Below w1.heap.size w1 w1/\w1.cell? ⟨w.heap.size,0,none⟩=some (.string x.nm)/\w1.cell? ⟨w.heap.size,1,none⟩=some (.slice (some ⟨b,o,none⟩) x.ps.length c)/\w1.cell? ⟨w.heap.size,2,none⟩=some (.slice (some ⟨g,q,none⟩) x.sl.length d)/\w1.cell? ⟨w.heap.size,3,none⟩=some (.string x.ad)/\w1.cell? ⟨w.heap.size,4,none⟩=some (.int .i64 x.si)/\w1.cell? ⟨w.heap.size,5,none⟩=some (.int .i64 x.st):=⟨A4 _ _,f0,f1,f2,f3,f4,f5⟩;clear d0 d1 d2 d3 d4 d5 f0 f1 f2 f3 f4 f5 hp;go_wp2_with fail
 go_region_held (λw'=>Below w1.heap.size w1 w'/\w'.cell? ⟨w.heap.size,0,none⟩=some (.string x.nm)/\w'.cell? ⟨w.heap.size,1,none⟩=some (.slice (some ⟨b,o,none⟩) x.ps.length c)/\w'.cell? ⟨w.heap.size,2,none⟩=some (.slice (some ⟨g,q,none⟩) x.sl.length d)/\w'.cell? ⟨w.heap.size,3,none⟩=some (.string x.ad)/\w'.cell? ⟨w.heap.size,4,none⟩=some (.int .i64 x.si)/\w'.cell? ⟨w.heap.size,5,none⟩=some (.int .i64 x.st)) (first|exact AeG hS0|exact Ajm hq4 (by assumption) (by assumption))
  (first
   | (go_at_call 67;refine (Adk x.ps b o c hrb 20 nm _ (hr.up (D5 hB01 (And.left (by assumption))) hb) (A1 hb (D5 hB01 (And.left (by assumption))).size) (by omega)).mono ?_;rintro e w3 ⟨⟨u3,rfl,hT3⟩,hb3⟩;have hB3:=D5 hB01 (D5 (A4 _ _).drew hb3))
   | (go_at_call 73;refine (Aeo x b o c g q d _ _ _ (hl.up hB3 hg) (A1 hg hB3.size) ns hT3 (by omega)).mono ?_;rintro e w4 ⟨⟨u4,rfl,hT4⟩,hb4⟩))
 rename_i hHeld;have hB5:=D5 hB01 hHeld.1;clear hHeld hS0 hT3 hb3 hb4 hB3;go_wp2_with fail
 go_ret
 exact⟨⟨_,rfl,by rw[HY.out];exact hT4⟩,hB5⟩
theorem Adm (x:Rb) (rv sv:Value) (nm:ByteArray) (w:World) (hE:Ends w) (h:RbV w x rv sv) :
  Calls Tryz.prog 84 #[.agg #[.string x.nm,rv,sv,.string x.ad,.int .i64 x.si,.int .i64 x.st],.string nm] w λe w'=>(∃u,e=.returned u/\OwnT w' w.heap.size u (rbThings x nm))/\Below w.heap.size w w':=by
 have hok:=λW (hB:Below w.heap.size w W)=>Aaf x rv sv W (hE.up hB) (h.up hB);obtain⟨b,o,c,rfl,hr,hb,hcap,hc9⟩:=h.r;obtain⟨g,q,d,rfl,hl,hg⟩:=h.s;have ns:=h.ns;have zs:=h.zs;have zp:=h.zp;clear h;have hC:CB (w.alloc (.cells #[.string x.nm,.slice (some ⟨b,o,none⟩) x.ps.length c,.slice (some ⟨g,q,none⟩) x.sl.length d,.string x.ad,.int .i64 x.si,.int .i64 x.st] 71)) w.heap.size [.string x.nm,.slice (some ⟨b,o,none⟩) x.ps.length c,.slice (some ⟨g,q,none⟩) x.sl.length d,.string x.ad,.int .i64 x.si,.int .i64 x.st]:=E8 w _ _;have hB0:=(A4 w.heap.size w).alloc (A3 _) (.cells #[.string x.nm,.slice (some ⟨b,o,none⟩) x.ps.length c,.slice (some ⟨g,q,none⟩) x.sl.length d,.string x.ad,.int .i64 x.si,.int .i64 x.st] 71);have HO:Hid (∀W,Below w.heap.size w W->Calls Tryz.prog 120 #[.agg #[.string x.nm,.slice (some ⟨b,o,none⟩) x.ps.length c,.slice (some ⟨g,q,none⟩) x.sl.length d,.string x.ad,.int .i64 x.si,.int .i64 x.st]] W λe w'=>e=.returned (.bool (pB (RbOk x)))/\Below W.heap.size W w'):=hok;have HE:Hid (Ends w):=hE;clear hok hE;go_enter Tryz.func84,Tryz.ntmps84
 go_upto_region 1 with fail
 generalize w.alloc (.cells #[.string x.nm,.slice (some ⟨b,o,none⟩) x.ps.length c,.slice (some ⟨g,q,none⟩) x.sl.length d,.string x.ad,.int .i64 x.si,.int .i64 x.st] 71)=W1 at *;obtain⟨d0,d1,d2,d3,d4,d5⟩:=hC.c6;have hlt:=hC.2.2;by_cases hk:RbOk x
 case neg =>
  have HN:Hid (rbThings x nm=[]):=Aav hk nm;have hp:=F1 hk;go_wp2_with fail
  refine (HO.out _ hB0).mono ?_;rw[hp];rintro e w1 ⟨rfl,hB1⟩;go_wp2_with fail
  go_ret
  exact⟨⟨_,rfl,by rw[HN.out];exact B7 _ _ _ _⟩,D5 hB0 hB1⟩
 have hrb:=hk.2.1;have h12:x.ps.length<=12:=((I4 x.ps).1 hrb).2.1
 have HY:Hid (namesOf (thI x.sl (slE x.ps nm))=rbThings x nm):=by
  show _=_
  rw[Aau hk nm];exact AgB (Adg hk.2.2.1.nodup λ_=>Iff.rfl)
 have hV:slotsV x.ps nm=slE x.ps nm:=by simp[slotsV,hrb]
 have HR:Hid (∀W,Below w.heap.size w W->Calls Tryz.prog 124 #[.slice (some ⟨b,o,none⟩) x.ps.length c,.string nm] W λe w'=>(∃u,e=.returned u/\OwnT w' W.heap.size u (slE x.ps nm))/\Below W.heap.size W w'):=λW hW=>by
  have:=AcI x.ps b o c nm W (HE.out.up hW) (hr.up hW hb) (A1 hb hW.size) zp hcap hc9;rw[hV] at this;exact this
 have hsz:=Afe zp nm;have hp:=G9 hk;have hsl:=Aap x.ps nm;clear hk hV;go_wp2_with fail
 refine (HO.out _ hB0).mono ?_;rw[hp];rintro e w1 ⟨rfl,hB1⟩;go_upto_region 3 with fail
 have hB01:=D5 hB0 hB1;obtain⟨f0,f1,f2,f3,f4,f5⟩:=(hC.up hB1 hlt).c6;have hq4:w.heap.size<w1.heap.size:=A1 hlt hB1.size;have hS0:Below w1.heap.size w1 w1/\w1.cell? ⟨w.heap.size,0,none⟩=some (.string x.nm)/\w1.cell? ⟨w.heap.size,1,none⟩=some (.slice (some ⟨b,o,none⟩) x.ps.length c)/\w1.cell? ⟨w.heap.size,2,none⟩=some (.slice (some ⟨g,q,none⟩) x.sl.length d)/\w1.cell? ⟨w.heap.size,3,none⟩=some (.string x.ad)/\w1.cell? ⟨w.heap.size,4,none⟩=some (.int .i64 x.si)/\w1.cell? ⟨w.heap.size,5,none⟩=some (.int .i64 x.st):=⟨A4 _ _,f0,f1,f2,f3,f4,f5⟩;clear d0 d1 d2 d3 d4 d5 f0 f1 f2 f3 f4 f5 hp;go_wp2_with fail
 go_region_held (λw'=>Below w1.heap.size w1 w'/\w'.cell? ⟨w.heap.size,0,none⟩=some (.string x.nm)/\w'.cell? ⟨w.heap.size,1,none⟩=some (.slice (some ⟨b,o,none⟩) x.ps.length c)/\w'.cell? ⟨w.heap.size,2,none⟩=some (.slice (some ⟨g,q,none⟩) x.sl.length d)/\w'.cell? ⟨w.heap.size,3,none⟩=some (.string x.ad)/\w'.cell? ⟨w.heap.size,4,none⟩=some (.int .i64 x.si)/\w'.cell? ⟨w.heap.size,5,none⟩=some (.int .i64 x.st)) (first|exact AeG hS0|exact Ajm hq4 (by assumption) (by assumption))
  (first
   | (go_at_call 122;refine (Abt x.sl g q d _ (hl.up hB01.drew hg) (A1 hg hB01.drew.size) ns (λy hy=>(zs y hy).1)).mono ?_;rintro e w2 ⟨⟨M,D,rfl,hM,hD,-⟩,hb2⟩;have hB2:=D5 hB01.drew hb2)
   | (go_at_call 124;refine (HR.out _ hB2).mono ?_;rintro e w3 ⟨⟨u3,rfl,hO3⟩,hb3⟩;have hM3:=hM.up hb3;have hB3:=D5 hB2 hb3)
   | (go_at_call 123;refine (Abu x.sl (slE x.ps nm) M _ D _ _ hM3 hD hO3.lst hsz (by omega)).mono ?_;rintro e w4 ⟨⟨u4,rfl,hO4⟩,hb4⟩))
 rename_i hHeld;have hB5:=D5 hB01 hHeld.1;have hO5:=F9 hO4 hB3.size;clear hHeld hS0 hO3 hO4 hb3 hb4 hB3 hM hD hM3 hb2 hB2;go_wp2_with fail
 go_ret
 exact⟨⟨_,rfl,by rw[← HY.out];exact hO5⟩,hB5⟩
theorem Amc {p:Ph} (h:p.okB=true):1<=p.k/\p.k<=5:=by
 unfold Ph.okB phaseB at h;simp only[Bool.and_eq_true] at h;have h1:=h.1.1.2;unfold argsB at h1;by_cases e1:p.k=1
 ·omega
 by_cases e2:p.k=2
 ·omega
 by_cases e3:p.k=3
 ·omega
 by_cases e4:p.k=4∨p.k=5
 ·omega
 rw[if_neg e1,if_neg e2,if_neg e3,if_neg e4] at h1;cases h1
theorem Aiu (p:Ph):(ofL p).length<=2:=by
 unfold ofL;split
 ·have:=AbH [p.a] p.b;simpa using this
 ·simp
theorem AdG (x:Rb) (rv sv:Value) (w:World) (h:RbV w x rv sv) :
  Calls Tryz.prog 75 #[.agg #[.string x.nm,rv,sv,.string x.ad,.int .i64 x.si,.int .i64 x.st]] w λe w'=>(∃u,e=.returned u/\Txt w' u (rbOwn x))/\Below w.heap.size w w':=by
 have hok:=λW (hB:Below w.heap.size w W)=>O2 x rv sv W (h.up hB);obtain⟨b,o,c,rfl,hr,hb,hcap,hc9⟩:=h.r;obtain⟨g,q,d,rfl,hl,hg⟩:=h.s;have ns:=h.ns;have np:=h.np;clear h;have hC:CB (w.alloc (.cells #[.string x.nm,.slice (some ⟨b,o,none⟩) x.ps.length c,.slice (some ⟨g,q,none⟩) x.sl.length d,.string x.ad,.int .i64 x.si,.int .i64 x.st] 71)) w.heap.size [.string x.nm,.slice (some ⟨b,o,none⟩) x.ps.length c,.slice (some ⟨g,q,none⟩) x.sl.length d,.string x.ad,.int .i64 x.si,.int .i64 x.st]:=E8 w _ _;have hB0:=(A4 w.heap.size w).alloc (A3 _) (.cells #[.string x.nm,.slice (some ⟨b,o,none⟩) x.ps.length c,.slice (some ⟨g,q,none⟩) x.sl.length d,.string x.ad,.int .i64 x.si,.int .i64 x.st] 71);have HO:Hid (∀W,Below w.heap.size w W->Calls Tryz.prog 60 #[.agg #[.string x.nm,.slice (some ⟨b,o,none⟩) x.ps.length c,.slice (some ⟨g,q,none⟩) x.sl.length d,.string x.ad,.int .i64 x.si,.int .i64 x.st]] W λe w'=>e=.returned (.bool (pB (RbOk x)))/\Below W.heap.size W w'):=hok;clear hok;go_enter Tryz.func75,Tryz.ntmps75
 go_upto_region 1 with fail
 generalize w.alloc (.cells #[.string x.nm,.slice (some ⟨b,o,none⟩) x.ps.length c,.slice (some ⟨g,q,none⟩) x.sl.length d,.string x.ad,.int .i64 x.si,.int .i64 x.st] 71)=W1 at *;obtain⟨d0,d1,d2,d3,d4,d5⟩:=hC.c6;have hlt:=hC.2.2;by_cases hk:RbOk x
 case neg =>
  have HN:Hid (rbOwn x=[]):=Acl hk;have hp:=F1 hk;go_wp2_with fail
  refine (HO.out _ hB0).mono ?_;rw[hp];rintro e w1 ⟨rfl,hB1⟩;go_wp2_with fail
  go_ret
  exact⟨⟨_,rfl,by rw[HN.out];exact AcY w1⟩,D5 (D5 hB0 hB1) ((A4 _ _).alloc (A3 _) _)⟩
 obtain⟨k,hkl,hka⟩:=Ab6 hk.2.2.2.2.1;have HY:Hid (rbOwn x=thE x.sl (ofL x.ps[k])):=by show _=_;rw[Ack hk,Ab2 hkl hka]
 have hat:=λW (hW:RecAt W b o x.ps)=>O8 x.ps b o c x.ad W hW np;rw[hka] at hat;have Hat:Hid (∀W,RecAt W b o x.ps->Calls Tryz.prog 65 #[.slice (some ⟨b,o,none⟩) x.ps.length c,.string x.ad] W λe w'=>e=.returned (.int .i64 (k:Int))/\w'=W):=hat;have hp:=G9 hk;clear hk hat hka;go_wp2_with fail
 refine (HO.out _ hB0).mono ?_;rw[hp];rintro e w1 ⟨rfl,hB1⟩;go_upto_region 3 with fail
 have hB01:=D5 hB0 hB1;obtain⟨f0,f1,f2,f3,f4,f5⟩:=(hC.up hB1 hlt).c6;obtain⟨r0,r1,r2,r3,r4,r5,r6,r7⟩:=(hr.up hB01 hb).cells k hkl;have hof:=Aiu x.ps[k];generalize x.ps[k]=p at *;have hq4:w.heap.size<w1.heap.size:=A1 hlt hB1.size;have hr4:b<w1.heap.size:=A1 hb hB01.size;have hS0:Below w1.heap.size w1 w1/\w1.cell? ⟨w.heap.size,0,none⟩=some (.string x.nm)/\w1.cell? ⟨w.heap.size,1,none⟩=some (.slice (some ⟨b,o,none⟩) x.ps.length c)/\w1.cell? ⟨w.heap.size,2,none⟩=some (.slice (some ⟨g,q,none⟩) x.sl.length d)/\w1.cell? ⟨w.heap.size,3,none⟩=some (.string x.ad)/\w1.cell? ⟨w.heap.size,4,none⟩=some (.int .i64 x.si)/\w1.cell? ⟨w.heap.size,5,none⟩=some (.int .i64 x.st)/\w1.cell? ⟨b,o+k*8,none⟩=some (.string p.nm)/\w1.cell? ⟨b,o+k*8+1,none⟩=some (.int .i64 p.k)/\w1.cell? ⟨b,o+k*8+2,none⟩=some (.string p.a)/\w1.cell? ⟨b,o+k*8+3,none⟩=some (.string p.b)/\w1.cell? ⟨b,o+k*8+4,none⟩=some (.int .i64 p.n)/\w1.cell? ⟨b,o+k*8+5,none⟩=some (.int .i64 p.wi)/\w1.cell? ⟨b,o+k*8+6,none⟩=some (.string p.t)/\w1.cell? ⟨b,o+k*8+7,none⟩=some (.string p.e):=⟨A4 _ _,f0,f1,f2,f3,f4,f5,r0,r1,r2,r3,r4,r5,r6,r7⟩;clear d0 d1 d2 d3 d4 d5 f0 f1 f2 f3 f4 f5 r0 r1 r2 r3 r4 r5 r6 r7 hp;have Hr:Hid (RecAt w1 b o x.ps):=hr.up hB01 hb;clear hr;go_wp2_with fail
 go_region_held (λw'=>Below w1.heap.size w1 w'/\w'.cell? ⟨w.heap.size,0,none⟩=some (.string x.nm)/\w'.cell? ⟨w.heap.size,1,none⟩=some (.slice (some ⟨b,o,none⟩) x.ps.length c)/\w'.cell? ⟨w.heap.size,2,none⟩=some (.slice (some ⟨g,q,none⟩) x.sl.length d)/\w'.cell? ⟨w.heap.size,3,none⟩=some (.string x.ad)/\w'.cell? ⟨w.heap.size,4,none⟩=some (.int .i64 x.si)/\w'.cell? ⟨w.heap.size,5,none⟩=some (.int .i64 x.st)/\w'.cell? ⟨b,o+k*8,none⟩=some (.string p.nm)/\w'.cell? ⟨b,o+k*8+1,none⟩=some (.int .i64 p.k)/\w'.cell? ⟨b,o+k*8+2,none⟩=some (.string p.a)/\w'.cell? ⟨b,o+k*8+3,none⟩=some (.string p.b)/\w'.cell? ⟨b,o+k*8+4,none⟩=some (.int .i64 p.n)/\w'.cell? ⟨b,o+k*8+5,none⟩=some (.int .i64 p.wi)/\w'.cell? ⟨b,o+k*8+6,none⟩=some (.string p.t)/\w'.cell? ⟨b,o+k*8+7,none⟩=some (.string p.e)) (first|exact Amb hS0|exact k14_up hq4 hr4 (by assumption) (by assumption))
  (first
   | (go_at_call 65;refine (Hat.out _ (Hr.out.up (And.left (by assumption)) hr4)).mono ?_;rintro e w2 ⟨rfl,hw⟩;obtain rfl:=hw.symm;clear hw)
   | (go_at_call 104;refine (Ais p _).mono ?_;rintro e w3 ⟨⟨u3,rfl,hT3⟩,hb3⟩;have hB3:=D5 hB01.drew hb3)
   | (go_at_call 73;refine (Aeo x b o c g q d _ _ _ (hl.up hB3 hg) (A1 hg hB3.size) ns hT3 (by omega)).mono ?_;rintro e w4 ⟨⟨u4,rfl,hT4⟩,hb4⟩))
 rename_i hHeld;have hB5:=D5 hB01 hHeld.1;clear hHeld hS0 hT3 hb3 hb4 hB3;go_wp2_with fail
 go_ret
 exact⟨⟨_,rfl,by rw[HY.out];exact hT4⟩,hB5⟩
theorem Ane:(Tryz.prog.info? 73).map (·.size)=some 8:=by kernel_rfl
theorem Anf {P:Program} {fn:Func} {q:Tmp} {T:TypeId} (h:fn.results=#[.cell q T]) {d:TypeDesc} (hu:P.underlying T=some d) (hd:d.isRow=true) (hi:(P.info? T).map (·.size)=some 8) {R:Ending->World->Prop} {tmps:Array Value} {w:World} {rk:Nat} {y0 y1 y2 y3 y4 y5 y6 y7 x0 x1 x2 x3 x4 x5 x6 x7:Value}
  (k:CB w rk [y0,y1,y2,y3,y4,y5,y6,y7]) (ht:tmps.getD q undef=.pointer (some ⟨rk,0,none⟩)) (hR:R (.returned (.agg #[x0,x1,x2,x3,x4,x5,x6,x7])) ((((((((w.setCell ⟨rk,0,none⟩ x0).setCell ⟨rk,1,none⟩ x1).setCell ⟨rk,2,none⟩ x2).setCell ⟨rk,3,none⟩ x3).setCell ⟨rk,4,none⟩ x4).setCell ⟨rk,5,none⟩ x5).setCell ⟨rk,6,none⟩ x6).setCell ⟨rk,7,none⟩ x7)) :
  bodyPost P fn R .ret {tmps:=tmps,defers:=[]} ((((((((w.setCell ⟨rk,0,none⟩ x0).setCell ⟨rk,1,none⟩ x1).setCell ⟨rk,2,none⟩ x2).setCell ⟨rk,3,none⟩ x3).setCell ⟨rk,4,none⟩ x4).setCell ⟨rk,5,none⟩ x5).setCell ⟨rk,6,none⟩ x6).setCell ⟨rk,7,none⟩ x7) :=
 bodyPost_ret (AdP (cs:=[x0,x1,x2,x3,x4,x5,x6,x7]) h hu hd hi ht (k.copy8 x0 x1 x2 x3 x4 x5 x6 x7)) rfl hR
theorem AgC (x:Rb) (b o c g q d:Nat) (w:World) (hr:RecAt w b o x.ps) (hb:b<w.heap.size) (np:x.ps.length<=1048576) :
  Calls Tryz.prog 157 #[.agg #[.string x.nm,.slice (some ⟨b,o,none⟩) x.ps.length c,.slice (some ⟨g,q,none⟩) x.sl.length d,.string x.ad,.int .i64 x.si,.int .i64 x.st]] w λe w'=>(∃p:Ph,e=.returned (.agg #[.string (p).nm,.int .i64 (p).k,.string (p).a,.string (p).b,.int .i64 (p).n,.int .i64 (p).wi,.string (p).t,.string (p).e])/\∀(k:Nat) (hk:k<x.ps.length),atI x.ps x.ad=(k:Int)->p=x.ps[k])/\Below w.heap.size w w':=by
 go_enter Tryz.func157,Tryz.ntmps157
 go_upto_region 1 with fail
 obtain⟨W1,hW1,kA,kR,hB1,hs1⟩:=L8 w [.string x.nm,.slice (some ⟨b,o,none⟩) x.ps.length c,.slice (some ⟨g,q,none⟩) x.sl.length d,.string x.ad,.int .i64 x.si,.int .i64 x.st] 71 [.string ⟨#[]⟩,.int .i64 0,.string ⟨#[]⟩,.string ⟨#[]⟩,.int .i64 0,.int .i64 0,.string ⟨#[]⟩,.string ⟨#[]⟩] 73;try rw[hW1]
 clear hW1;obtain⟨d0,d1,d2,d3,d4,d5⟩:=kA.c6;go_wp2_with fail
 refine (Abs x.ps b o c x.ad _ (hr.up hB1 hb) (by omega) np).mono ?_;rintro e w3 ⟨⟨p,rfl,hpk⟩,hb3⟩;have hz3:=hb3.size;have kR:=kR.up hb3 (by omega);have hB3:=D5 hB1 hb3;clear d0 d1 d2 d3 d4 d5 kA hB1 hb3;go_upto_region 2 with fail
 obtain⟨W4,hW4,kP,hb4,hs4⟩:=K6 w3 [.string (p).nm,.int .i64 (p).k,.string (p).a,.string (p).b,.int .i64 (p).n,.int .i64 (p).wi,.string (p).t,.string (p).e] 73;try rw[hW4]
 clear hW4;have kR:=kR.up hb4 (by omega);have hB4:=D5 hB3 hb4;obtain⟨⟨f0,f1,f2,f3,f4,f5,f6,f7⟩,-⟩:=kP.c8;obtain⟨⟨r0,r1,r2,r3,r4,r5,r6,r7⟩,g0,g1,g2,g3,g4,g5,g6,g7⟩:=kR.c8;go_wp2_with fail
 refine Anf Tryz.results157 Tryz.underlying73 rfl Ane kR rfl ?_;refine⟨⟨p,rfl,hpk⟩,?_⟩;exact (((((((hB4.setCell (p:=⟨w.heap.size+1,0,none⟩) (Nat.le_succ _) _).setCell (p:=⟨w.heap.size+1,1,none⟩) (Nat.le_succ _) _).setCell (p:=⟨w.heap.size+1,2,none⟩) (Nat.le_succ _) _).setCell (p:=⟨w.heap.size+1,3,none⟩) (Nat.le_succ _) _).setCell (p:=⟨w.heap.size+1,4,none⟩) (Nat.le_succ _) _).setCell (p:=⟨w.heap.size+1,5,none⟩) (Nat.le_succ _) _).setCell (p:=⟨w.heap.size+1,6,none⟩) (Nat.le_succ _) _).setCell (p:=⟨w.heap.size+1,7,none⟩) (Nat.le_succ _) _
theorem AdH (x:Rb) (rv sv:Value) (w:World) (hE:Ends w) (h:RbV w x rv sv) :
  Calls Tryz.prog 127 #[.agg #[.string x.nm,rv,sv,.string x.ad,.int .i64 x.si,.int .i64 x.st]] w λe w'=>(∃u,e=.returned u/\OwnT w' w.heap.size u (rbOwn x))/\Below w.heap.size w w':=by
 have hok:=λW (hB:Below w.heap.size w W)=>Aaf x rv sv W (hE.up hB) (h.up hB);obtain⟨b,o,c,rfl,hr,hb,hcap,hc9⟩:=h.r;obtain⟨g,q,d,rfl,hl,hg⟩:=h.s;have ns:=h.ns;have np:=h.np;have zs:=h.zs;have zp:=h.zp;clear h;have hC:CB (w.alloc (.cells #[.string x.nm,.slice (some ⟨b,o,none⟩) x.ps.length c,.slice (some ⟨g,q,none⟩) x.sl.length d,.string x.ad,.int .i64 x.si,.int .i64 x.st] 71)) w.heap.size [.string x.nm,.slice (some ⟨b,o,none⟩) x.ps.length c,.slice (some ⟨g,q,none⟩) x.sl.length d,.string x.ad,.int .i64 x.si,.int .i64 x.st]:=E8 w _ _;have hB0:=(A4 w.heap.size w).alloc (A3 _) (.cells #[.string x.nm,.slice (some ⟨b,o,none⟩) x.ps.length c,.slice (some ⟨g,q,none⟩) x.sl.length d,.string x.ad,.int .i64 x.si,.int .i64 x.st] 71);have HO:Hid (∀W,Below w.heap.size w W->Calls Tryz.prog 120 #[.agg #[.string x.nm,.slice (some ⟨b,o,none⟩) x.ps.length c,.slice (some ⟨g,q,none⟩) x.sl.length d,.string x.ad,.int .i64 x.si,.int .i64 x.st]] W λe w'=>e=.returned (.bool (pB (RbOk x)))/\Below W.heap.size W w'):=hok;clear hok hE;go_enter Tryz.func127,Tryz.ntmps127
 go_upto_region 1 with fail
 generalize w.alloc (.cells #[.string x.nm,.slice (some ⟨b,o,none⟩) x.ps.length c,.slice (some ⟨g,q,none⟩) x.sl.length d,.string x.ad,.int .i64 x.si,.int .i64 x.st] 71)=W1 at *;obtain⟨d0,d1,d2,d3,d4,d5⟩:=hC.c6;have hlt:=hC.2.2;by_cases hk:RbOk x
 case neg =>
  have HN:Hid (rbOwn x=[]):=Acl hk;have hp:=F1 hk;go_wp2_with fail
  refine (HO.out _ hB0).mono ?_;rw[hp];rintro e w1 ⟨rfl,hB1⟩;go_wp2_with fail
  go_ret
  exact⟨⟨_,rfl,by rw[HN.out];exact B7 _ _ _ _⟩,D5 hB0 hB1⟩
 have hhas:=hk.2.2.2.2.1
 have HY:Hid (∀p,p=phOf x.ps x.ad->namesOf (thI x.sl (ownB p))=rbOwn x/\(1<=p.k/\p.k<=5)/\∀s∈ownB p,s.size<=maxLen):=by
  show _
  rintro p rfl;have hm:=AdC hhas;refine⟨?_,Amc (AeD hk.2.1 hm),λs hs=>?_⟩
  ·rw[Ack hk]
   exact AgB (AlE x.sl _ hk.2.2.1.nodup (Ago _))
  ·obtain⟨_,z1,z2,_⟩:=zp _ hm
   unfold ownB at hs;split at hs
   ·simp only[List.mem_cons,List.not_mem_nil,or_false] at hs
    rcases hs with rfl|rfl
    ·exact z1
    ·exact z2
   ·simp only[List.mem_cons,List.not_mem_nil,or_false] at hs
    rw[hs];exact z1
 have hp:=G9 hk;clear hk;go_wp2_with fail
 refine (HO.out _ hB0).mono ?_;rw[hp];rintro e w1 ⟨rfl,hB1⟩;go_upto_region 3 with fail
 have hB01:=D5 hB0 hB1;obtain⟨f0,f1,f2,f3,f4,f5⟩:=(hC.up hB1 hlt).c6;have hq4:w.heap.size<w1.heap.size:=A1 hlt hB1.size;have hS0:Below w1.heap.size w1 w1/\w1.cell? ⟨w.heap.size,0,none⟩=some (.string x.nm)/\w1.cell? ⟨w.heap.size,1,none⟩=some (.slice (some ⟨b,o,none⟩) x.ps.length c)/\w1.cell? ⟨w.heap.size,2,none⟩=some (.slice (some ⟨g,q,none⟩) x.sl.length d)/\w1.cell? ⟨w.heap.size,3,none⟩=some (.string x.ad)/\w1.cell? ⟨w.heap.size,4,none⟩=some (.int .i64 x.si)/\w1.cell? ⟨w.heap.size,5,none⟩=some (.int .i64 x.st):=⟨A4 _ _,f0,f1,f2,f3,f4,f5⟩;clear d0 d1 d2 d3 d4 d5 f0 f1 f2 f3 f4 f5 hp hC;go_wp2_with fail
 go_region_held (λw'=>Below w1.heap.size w1 w'/\w'.cell? ⟨w.heap.size,0,none⟩=some (.string x.nm)/\w'.cell? ⟨w.heap.size,1,none⟩=some (.slice (some ⟨b,o,none⟩) x.ps.length c)/\w'.cell? ⟨w.heap.size,2,none⟩=some (.slice (some ⟨g,q,none⟩) x.sl.length d)/\w'.cell? ⟨w.heap.size,3,none⟩=some (.string x.ad)/\w'.cell? ⟨w.heap.size,4,none⟩=some (.int .i64 x.si)/\w'.cell? ⟨w.heap.size,5,none⟩=some (.int .i64 x.st)) (first|exact AeG hS0|exact Ajm hq4 (by assumption) (by assumption))
  (first
   | (go_at_call 122;refine (Abt x.sl g q d _ (hl.up hB01.drew hg) (A1 hg hB01.drew.size) ns (λy hy=>(zs y hy).1)).mono ?_;rintro e w5 ⟨⟨M,D,rfl,hM,hD,-⟩,hb5⟩;have hB5:=D5 hB01.drew hb5)
   | (go_at_call 157;refine (AgC x b o c g q d _ (hr.up hB5 hb) (A1 hb hB5.size) np).mono ?_;rintro e w3 ⟨⟨p,rfl,hpk⟩,hb3⟩;have hM3:=hM.up hb3;have hB3:=D5 hB5 hb3;obtain⟨HT,hpk5,hps⟩:=HY.out p (by obtain⟨k,hkl,hka⟩:=Ab6 hhas;rw[hpk k hkl hka,Ab2 hkl hka]);have HT':Hid (namesOf (thI x.sl (ownB p))=rbOwn x):=HT;have hob:(ownB p).length<=2:=(by unfold ownB;split<;>simp);clear HT hpk)
   | (go_at_call 156;refine (Adj p _ hpk5).mono ?_;rintro e w6 ⟨⟨u6,rfl,hT6⟩,hb6⟩;have hM6:=hM3.up hb6;have hB6:=D5 hB3 hb6)
   | (go_at_call 123;refine (Abu x.sl (ownB p) M _ D _ _ hM6 hD (.inr hT6) hps (by omega)).mono ?_;rintro e w7 ⟨⟨u7,rfl,hO7⟩,hb7⟩))
 rename_i hHeld;have hB8:=D5 hB01 hHeld.1;have hO8:=F9 hO7 hB6.size;clear hHeld hS0 hT6 hO7 hb5 hb6 hb7 hM hD hM6 hB5 hB6 hM3 hB3 hb3;go_wp2_with fail
 go_ret
 exact⟨⟨_,rfl,by rw[← HT'.out];exact hO8⟩,hB8⟩
def RbAt (w:World) (b o:Nat) (x:Rb):Prop:=∃rv sv,w.rangeAt b o [.string x.nm,rv,sv,.string x.ad,.int .i64 x.si,.int .i64 x.st]/\RbV w x rv sv
def RbsAt (w:World) (b o:Nat) (bs:List Rb):Prop:=∀(i:Nat) (x:Rb),bs[i]?=some x->RbAt w b (o+i*6) x
def Rbs (w:World) (v:Value) (bs:List Rb):Prop:=∃a c,v=.slice a bs.length c/\bs.length<=maxLen/\(0<bs.length->∃b o,a=some ⟨b,o,none⟩/\RbsAt w b o bs/\b<w.heap.size)
def DnsAt (w:World) (b o:Nat) (ds:List Done):Prop:=∀(i:Nat) (d:Done),ds[i]?=some d->w.rangeAt b (o+i*3) [.string d.nm,.int .i64 d.e,.int .i64 d.t]/\d.nm.size<=maxLen
def Dns (w:World) (v:Value) (ds:List Done):Prop:=∃a c,v=.slice a ds.length c/\ds.length<=maxLen/\(0<ds.length->∃b o,a=some ⟨b,o,none⟩/\DnsAt w b o ds/\b<w.heap.size)
theorem AaQ {w w':World} {b o B:Nat} {vs:List Value} (h:w.rangeAt b o vs) (hb:Below B w w') (hB:b<B):w'.rangeAt b o vs:=λj v hv=>by
 rw[hb.cell (p:=⟨b,o+j,none⟩) hB];exact h j v hv
theorem RbAt.up {w w':World} {b o:Nat} {x:Rb} (h:RbAt w b o x) (hb:Below w.heap.size w w') (hB:b<w.heap.size):RbAt w' b o x:=by
 obtain⟨rv,sv,h1,h2⟩:=h;exact⟨rv,sv,AaQ h1 hb hB,h2.up hb⟩
theorem RbsAt.up {w w':World} {b o:Nat} {bs:List Rb} (h:RbsAt w b o bs) (hb:Below w.heap.size w w') (hB:b<w.heap.size):RbsAt w' b o bs:=λi x hx=>(h i x hx).up hb hB
theorem RbsAt.at {w:World} {b o:Nat} {bs:List Rb} (h:RbsAt w b o bs) {k:Nat} (hk:k<bs.length):RbAt w b (o+k*6) bs[k]:=h k _ (A0 hk)
theorem Rbs.up {w w':World} {v:Value} {bs:List Rb} (h:Rbs w v bs) (hb:Below w.heap.size w w'):Rbs w' v bs:=by
 obtain⟨a,c,rfl,h1,h2⟩:=h;exact⟨a,c,rfl,h1,λhp=>by obtain⟨b,o,e,hr,hlt⟩:=h2 hp;exact⟨b,o,e,hr.up hb hlt,A1 hlt hb.size⟩⟩
theorem DnsAt.up {w w':World} {b o:Nat} {ds:List Done} (h:DnsAt w b o ds) (hb:Below w.heap.size w w') (hB:b<w.heap.size):DnsAt w' b o ds:=λi d hd=>⟨AaQ (h i d hd).1 hb hB,(h i d hd).2⟩
theorem Dns.up {w w':World} {v:Value} {ds:List Done} (h:Dns w v ds) (hb:Below w.heap.size w w'):Dns w' v ds:=by
 obtain⟨a,c,rfl,h1,h2⟩:=h;exact⟨a,c,rfl,h1,λhp=>by obtain⟨b,o,e,hr,hlt⟩:=h2 hp;exact⟨b,o,e,hr.up hb hlt,A1 hlt hb.size⟩⟩
structure HV (w:World) (h:House) (tv bv xv dv:Value):Prop where
 t:Ls w tv h.sh.things
 b:Bs w bv h.sh.bs
 x:Rbs w xv h.bs
 d:Dns w dv h.ds
theorem HV.up {w w':World} {h:House} {tv bv xv dv:Value} (H:HV w h tv bv xv dv) (hb:Below w.heap.size w w'):HV w' h tv bv xv dv:=⟨H.t.up hb,H.b.up hb,H.x.up hb,H.d.up hb⟩
theorem HV.shapes {w:World} {h:House} {tv bv xv dv:Value} (H:HV w h tv bv xv dv):∃a1 c1 a2 c2 a3 c3 a4 c4,tv=.slice a1 h.sh.things.length c1/\bv=.slice a2 h.sh.bs.length c2/\xv=.slice a3 h.bs.length c3/\dv=.slice a4 h.ds.length c4:=by
 obtain⟨a1,c1,e1,-⟩:=H.t;obtain⟨a2,c2,e2,-⟩:=H.b;obtain⟨a3,c3,e3,-⟩:=H.x;obtain⟨a4,c4,e4,-⟩:=H.d;exact⟨a1,c1,a2,c2,a3,c3,a4,c4,e1,e2,e3,e4⟩
theorem HV.book {w:World} {h:House} {tv bv xv dv:Value} (H:HV w h tv bv xv dv):BkV w (.agg #[tv,bv]) h.sh:=⟨tv,bv,rfl,H.t,H.b⟩
theorem AkP (bs:List Rb) (k:Nat) (hk:k<bs.length):rnms (bs.take (k+1))=rnms (bs.take k)++[(bs[k]).nm]:=by
 unfold rnms;rw[A7 hk,List.map_append];rfl
theorem Rbs.inv {w:World} {v:Value} {bs:List Rb} (h:Rbs w v bs) {a:Option Addr} {n c:Nat} (e:v=.slice a n c):bs.length<=maxLen/\(0<bs.length->∃b o,a=some ⟨b,o,none⟩/\RbsAt w b o bs/\b<w.heap.size):=by
 obtain⟨a',c',e',h1,h2⟩:=h;rw[e'] at e;simp only[Value.slice.injEq] at e;obtain⟨rfl,-,-⟩:=e;exact⟨h1,h2⟩
theorem RbAt.open {w:World} {b o:Nat} {x:Rb} (h:RbAt w b o x):∃p q c g r d,(w.cell? ⟨b,o,none⟩=some (.string x.nm)/\w.cell? ⟨b,o+1,none⟩=some (.slice (some ⟨p,q,none⟩) x.ps.length c)/\w.cell? ⟨b,o+2,none⟩=some (.slice (some ⟨g,r,none⟩) x.sl.length d)/\w.cell? ⟨b,o+3,none⟩=some (.string x.ad)/\w.cell? ⟨b,o+4,none⟩=some (.int .i64 x.si)/\w.cell? ⟨b,o+5,none⟩=some (.int .i64 x.st))/\RbV w x (.slice (some ⟨p,q,none⟩) x.ps.length c) (.slice (some ⟨g,r,none⟩) x.sl.length d):=by
 obtain⟨rv,sv,hr,hv⟩:=h;obtain⟨p,q,c,rfl,-⟩:=hv.r;obtain⟨g,r,d,rfl,-⟩:=hv.s;exact⟨p,q,c,g,r,d,⟨hr 0 _ rfl,hr 1 _ rfl,hr 2 _ rfl,hr 3 _ rfl,hr 4 _ rfl,hr 5 _ rfl⟩,hv⟩
theorem AaR {W w0:World} {q r:Nat} {x0 x1 x2 x3 x4 x5 x6 x7 x8 x9 x10 x11:Value} (h:Below W.heap.size W w0/\w0.cell? ⟨q,0,none⟩=some x0/\w0.cell? ⟨q,1,none⟩=some x1/\w0.cell? ⟨q,2,none⟩=some x2/\w0.cell? ⟨q,3,none⟩=some x3/\w0.cell? ⟨q,4,none⟩=some x4/\w0.cell? ⟨q,5,none⟩=some x5/\w0.cell? ⟨r,0,none⟩=some x6/\w0.cell? ⟨r,1,none⟩=some x7/\w0.cell? ⟨r,2,none⟩=some x8/\w0.cell? ⟨r,3,none⟩=some x9/\w0.cell? ⟨r,4,none⟩=some x10/\w0.cell? ⟨r,5,none⟩=some x11):Below W.heap.size W w0.drew/\w0.drew.cell? ⟨q,0,none⟩=some x0/\w0.drew.cell? ⟨q,1,none⟩=some x1/\w0.drew.cell? ⟨q,2,none⟩=some x2/\w0.drew.cell? ⟨q,3,none⟩=some x3/\w0.drew.cell? ⟨q,4,none⟩=some x4/\w0.drew.cell? ⟨q,5,none⟩=some x5/\w0.drew.cell? ⟨r,0,none⟩=some x6/\w0.drew.cell? ⟨r,1,none⟩=some x7/\w0.drew.cell? ⟨r,2,none⟩=some x8/\w0.drew.cell? ⟨r,3,none⟩=some x9/\w0.drew.cell? ⟨r,4,none⟩=some x10/\w0.drew.cell? ⟨r,5,none⟩=some x11 :=
 ⟨h.1.drew,h.2⟩
theorem AaS {W w0 w1:World} {q r:Nat} {x0 x1 x2 x3 x4 x5 x6 x7 x8 x9 x10 x11:Value} (hq:q<W.heap.size) (hr:r<W.heap.size) (h:Below W.heap.size W w0/\w0.cell? ⟨q,0,none⟩=some x0/\w0.cell? ⟨q,1,none⟩=some x1/\w0.cell? ⟨q,2,none⟩=some x2/\w0.cell? ⟨q,3,none⟩=some x3/\w0.cell? ⟨q,4,none⟩=some x4/\w0.cell? ⟨q,5,none⟩=some x5/\w0.cell? ⟨r,0,none⟩=some x6/\w0.cell? ⟨r,1,none⟩=some x7/\w0.cell? ⟨r,2,none⟩=some x8/\w0.cell? ⟨r,3,none⟩=some x9/\w0.cell? ⟨r,4,none⟩=some x10/\w0.cell? ⟨r,5,none⟩=some x11) (hB:Below w0.heap.size w0 w1):Below W.heap.size W w1/\w1.cell? ⟨q,0,none⟩=some x0/\w1.cell? ⟨q,1,none⟩=some x1/\w1.cell? ⟨q,2,none⟩=some x2/\w1.cell? ⟨q,3,none⟩=some x3/\w1.cell? ⟨q,4,none⟩=some x4/\w1.cell? ⟨q,5,none⟩=some x5/\w1.cell? ⟨r,0,none⟩=some x6/\w1.cell? ⟨r,1,none⟩=some x7/\w1.cell? ⟨r,2,none⟩=some x8/\w1.cell? ⟨r,3,none⟩=some x9/\w1.cell? ⟨r,4,none⟩=some x10/\w1.cell? ⟨r,5,none⟩=some x11:=by
 obtain⟨h0,a0,a1,a2,a3,a4,a5,a6,a7,a8,a9,a10,a11⟩:=h;have lq:q<w0.heap.size:=A1 hq h0.size;have lr:r<w0.heap.size:=A1 hr h0.size;exact⟨D5 h0 hB,(hB.cell (p:=⟨q,0,none⟩) lq).trans a0,(hB.cell (p:=⟨q,1,none⟩) lq).trans a1,(hB.cell (p:=⟨q,2,none⟩) lq).trans a2,(hB.cell (p:=⟨q,3,none⟩) lq).trans a3,(hB.cell (p:=⟨q,4,none⟩) lq).trans a4,(hB.cell (p:=⟨q,5,none⟩) lq).trans a5,(hB.cell (p:=⟨r,0,none⟩) lr).trans a6,(hB.cell (p:=⟨r,1,none⟩) lr).trans a7,(hB.cell (p:=⟨r,2,none⟩) lr).trans a8,(hB.cell (p:=⟨r,3,none⟩) lr).trans a9,(hB.cell (p:=⟨r,4,none⟩) lr).trans a10,(hB.cell (p:=⟨r,5,none⟩) lr).trans a11⟩
theorem O1 {x:Rb} {w:World} {rv sv:Value} (h:RbV w x rv sv) (nm:ByteArray):∀s∈rbThings x nm,s.size<=maxLen:=by
 by_cases hk:RbOk x
 ·rw[Aau hk]
  intro s hs;have h1:=((AbW _ _).2 s.toList).1 (Y0.2 hs);simp only[keys,List.mem_map] at h1;obtain⟨_,⟨t,_,rfl⟩,e⟩:=h1;rw[← N0 e];unfold firstT;split
  ·rename_i y hy
   exact (h.zs y (List.mem_of_find?_eq_some hy)).2
  ·exact Nat.zero_le _
 ·rw[Aav hk];intro s hs;simp at hs
theorem L3 {x:Rb} {w:World} {rv sv:Value} (h:RbV w x rv sv):∀s∈rbOwn x,s.size<=maxLen:=by
 by_cases hk:RbOk x
 ·rw[Ack hk]
  intro s hs;have h1:=((AbW _ _).2 s.toList).1 (Y0.2 hs);simp only[keys,List.mem_map] at h1;obtain⟨_,⟨t,_,rfl⟩,e⟩:=h1;rw[← N0 e];unfold firstT;split
  ·rename_i y hy
   exact (h.zs y (List.mem_of_find?_eq_some hy)).2
  ·exact Nat.zero_le _
 ·rw[Acl hk];intro s hs;simp at hs
theorem AkQ (sa sb:List ByteArray) (n m:Nat) (a1 a2:Option Addr) (c1 c2:Nat) (w:World) (Hn:Hid (sa.length=n)) (Hm:Hid (sb.length=m)) (hn9:n<=maxLen) (hpa:0<n->∃b o,a1=some ⟨b,o,none⟩/\StrsAt w b o sa/\b<w.heap.size) (hpb:0<m->∃b o,a2=some ⟨b,o,none⟩/\StrsAt w b o sb/\b<w.heap.size) :
  Calls Tryz.prog 99 #[.slice a1 n c1,.slice a2 m c2] w λe w'=>e=.returned (.bool (pB (sa=sb)))/\Below w.heap.size w w':=by
 unfold maxLen at hn9;by_cases hll:n=m
 case neg =>
  have HN:Hid (pB (sa=sb)=false):=F1 λe=>hll (by rw[← Hn.out,← Hm.out,e]);go_enter Tryz.func99,Tryz.ntmps99
  go_wp2_with fail
  go_ret
  exact⟨D6 HN.out.symm,A4 _ _⟩
 subst hll;go_enter Tryz.func99,Tryz.ntmps99
 go_wp2_with fail
 go_loopw [5] (λi w'=>∃k:Nat,k<=n/\i=.int .i64 k/\(∀i,i<k->sa[i]?=sb[i]?)/\Below w.heap.size w w') (λi _=>n-(intOf i).toNat)
 case atStart=>exact⟨0,by omega,rfl,λi hi=>by omega,A4 _ _⟩
 case round =>
  obtain⟨k,hk,rfl,hal,hB⟩:=hrel;have Hal:Hid (∀i,i<k->sa[i]?=sb[i]?):=hal;clear hal;by_cases hp:k<n
  ·obtain⟨b1,o1,rfl,hS1,hb1⟩:=hpa (by omega)
   obtain⟨b2,o2,rfl,hS2,hb2⟩:=hpb (by omega);have h1:k<sa.length:=by have:=Hn.out;omega
   have h2:k<sb.length:=by have:=Hm.out;omega
   have e1:=(hB.cell (p:=⟨b1,o1+k,none⟩) hb1).trans (hS1 k sa[k] (A0 h1));have e2:=(hB.cell (p:=⟨b2,o2+k,none⟩) hb2).trans (hS2 k sb[k] (A0 h2))
   have N1:Hid (((sa[k]).toList==(sb[k]).toList)=false->¬sa=sb):=λhq e=>by
    subst e;simp at hq
   have N2:Hid (((sa[k]).toList==(sb[k]).toList)=true->∀i,i<k+1->sa[i]?=sb[i]?):=λhq i hi=>by
    rcases Nat.lt_or_ge i k with h'|h'
    ·exact Hal.out i h'
    ·obtain rfl:i=k:=by omega
     have e:sa[i]=sb[i]:=Z5 (by simpa using hq);rw[A0 h1,A0 h2,e]
   generalize sa[k]=s1 at *;generalize sb[k]=s2 at *;clear hS1 hS2;cases hq:(s1.toList==s2.toList)
   ·have HN:Hid (pB (sa=sb)=false):=F1 (N1.out hq)
    go_wp2_with fail
    go_quiet (fail)
    go_wp2_with fail
    go_ret
    exact⟨D6 HN.out.symm,E7 hB _⟩
   ·have HY:Hid (∀i,i<k+1->sa[i]?=sb[i]?):=N2.out hq
    go_wp2_with fail
    go_quiet (fail)
    go_wp2_with fail
    go_roundw
    case rel=>exact⟨k+1,by omega,by go_num,HY.out,E7 hB _⟩
    case measure=>simp[intOf];omega
  ·have HY:Hid (pB (sa=sb)=true):=G9 (List.ext_getElem? λi=>by
    by_cases hi:i<k
    ·exact Hal.out i hi
    ·rw[C6 (by have:=Hn.out;omega),C6 (by have:=Hm.out;omega)])
   go_wp2_with fail
   go_ret
   exact⟨D6 HY.out.symm,hB⟩
theorem Acm (sa sb:List ByteArray) (va vb:Value) (w:World) (ha:Ls w va sa) (hb:Ls w vb sb) :
  Calls Tryz.prog 99 #[va,vb] w λe w'=>e=.returned (.bool (pB (sa=sb)))/\Below w.heap.size w w':=by
 obtain⟨a1,c1,rfl,hn1,-,hp1⟩:=ha;obtain⟨a2,c2,rfl,-,-,hp2⟩:=hb;exact AkQ sa sb _ _ a1 a2 c1 c2 w rfl rfl hn1 hp1 hp2
theorem AkR (sa sb:List ByteArray) (va vb:Value) (w:World) (ha:Ls w va sa) (hb:Ls w vb sb) :
  Calls Tryz.prog 100 #[va,vb] w λe w'=>e=.returned (.bool (pB (Part sa sb)))/\w'=w:=by
 obtain⟨a,c,rfl,hn,hz,hpos⟩:=ha;obtain⟨a2,c2,rfl,-⟩:=id hb;unfold maxLen at hn;go_enter Tryz.func100,Tryz.ntmps100
 go_wp2_with fail
 go_loop [5] (λi=>∃k:Nat,k<=sa.length/\i=.int .i64 k/\PartTo sa sb k) (λi=>sa.length-(intOf i).toNat)
 case atStart=>exact⟨0,by omega,rfl,PartTo.zero _ _⟩
 case round =>
  obtain⟨k,hk,rfl,hal⟩:=hrel;have Hal:Hid (PartTo sa sb k):=hal;clear hal;by_cases hp:k<sa.length
  ·obtain⟨b,o,rfl,hS,hb'⟩:=hpos (by omega)
   have c0:=hS.cell hp;cases hq:memS sb sa[k]
   ·have Hq:Hid (¬Part sa sb):=λh=>by rw[AcT h hp] at hq;cases hq
    go_wp2_with (go_at_call 108;refine (N9 sb _ _ _ hb).mono ?_;rintro e w' ⟨rfl,hw⟩;obtain rfl:=hw.symm;clear hw)
    go_ret
    exact⟨D6 (F1 Hq.out).symm,rfl⟩
   ·have Hq:Hid (PartTo sa sb (k+1)):=Hal.out.step hp hq
    go_wp2_with (go_at_call 108;refine (N9 sb _ _ _ hb).mono ?_;rintro e w' ⟨rfl,hw⟩;obtain rfl:=hw.symm;clear hw)
    go_round
    case rel=>exact⟨k+1,by omega,by go_num,Hq.out⟩
    case measure=>simp[intOf];omega
  ·have Hq:Hid (Part sa sb):=Adw Hal.out hp
   go_wp2_with fail
   go_ret
   exact⟨D6 (G9 Hq.out).symm,rfl⟩
theorem Amd (h:House) (tv bv xv dv:Value) (s:ByteArray) (w:World) (H:HV w h tv bv xv dv) :
  Calls Tryz.prog 61 #[.agg #[.int .i64 h.now,.int .i64 h.last,tv,bv,xv,dv],.string s] w λe w'=>e=.returned (.int .i64 (idxI (rnms h.bs) s))/\Below w.heap.size w w':=by
 obtain⟨a1,c1,a2,c2,a3,c3,a4,c4,rfl,rfl,rfl,rfl⟩:=H.shapes;obtain⟨hmax,hpos⟩:=H.x.inv rfl;unfold maxLen at hmax;clear H;have hB0:=(A4 w.heap.size w).alloc (A3 _) (.cells #[.int .i64 h.now,.int .i64 h.last,.slice a1 h.sh.things.length c1,.slice a2 h.sh.bs.length c2,.slice a3 h.bs.length c3,.slice a4 h.ds.length c4] 41);have hC:CB (w.alloc (.cells #[.int .i64 h.now,.int .i64 h.last,.slice a1 h.sh.things.length c1,.slice a2 h.sh.bs.length c2,.slice a3 h.bs.length c3,.slice a4 h.ds.length c4] 41)) w.heap.size [.int .i64 h.now,.int .i64 h.last,.slice a1 h.sh.things.length c1,.slice a2 h.sh.bs.length c2,.slice a3 h.bs.length c3,.slice a4 h.ds.length c4]:=E8 w _ _;go_enter Tryz.func61,Tryz.ntmps61
 go_upto_region 1 with fail
 generalize w.alloc (.cells #[.int .i64 h.now,.int .i64 h.last,.slice a1 h.sh.things.length c1,.slice a2 h.sh.bs.length c2,.slice a3 h.bs.length c3,.slice a4 h.ds.length c4] 41)=W1 at *;obtain⟨-,-,-,-,d4,-⟩:=hC.c6;go_wp2_with fail
 go_loop [5] (λi=>∃k:Nat,k<=h.bs.length/\i=.int .i64 k/\memS ((rnms h.bs).take k) s=false) (λi=>h.bs.length-(intOf i).toNat)
 case atStart=>exact⟨0,by omega,rfl,rfl⟩
 case round =>
  obtain⟨k,hk,rfl,hal⟩:=hrel;have Hal:Hid (memS ((rnms h.bs).take k) s=false):=hal;clear hal;by_cases hp:k<h.bs.length
  ·obtain⟨b,o,ha3,hS,hb⟩:=hpos (by omega)
   subst ha3;have hkr:k<(rnms h.bs).length:=by rw[Adh];exact hp
   have hg:(rnms h.bs)[k]=(h.bs[k]).nm:=by simp[rnms]
   have hin:=((hS.at hp).up hB0 hb).open;obtain⟨p,q,c,g,r,d,⟨e0,-⟩,-⟩:=hin;have N1:Hid (((h.bs[k]).nm.toList==s.toList)=false->memS ((rnms h.bs).take (k+1)) s=false):=λhq=>Aay hkr Hal.out (by rw[hg];exact hq);have N2:Hid (((h.bs[k]).nm.toList==s.toList)=true->idxI (rnms h.bs) s=(k:Int)):=λhq=>U0 hkr Hal.out (by rw[hg];exact hq);clear hS hg;generalize h.bs[k]=x0 at *;cases hq:(x0.nm.toList==s.toList)
   ·have HY:Hid (memS ((rnms h.bs).take (k+1)) s=false):=N1.out hq
    go_wp2_with fail
    go_round
    case rel=>exact⟨k+1,by omega,by go_num,HY.out⟩
    case measure=>simp[intOf];omega
   ·have HY:Hid (idxI (rnms h.bs) s=(k:Int)):=N2.out hq
    go_wp2_with fail
    go_ret
    exact⟨O3 HY.out.symm,hB0⟩
  ·have HY:Hid (idxI (rnms h.bs) s=-1):=R3 (AaJ (by rw[Adh];exact hp) Hal.out)
   go_wp2_with fail
   go_ret
   exact⟨O3 HY.out.symm,hB0⟩
theorem Aet (h:House) (tv bv xv dv:Value) (w:World) (H:HV w h tv bv xv dv) :
  Calls Tryz.prog 59 #[.agg #[.int .i64 h.now,.int .i64 h.last,tv,bv,xv,dv]] w λe w'=>e=.returned (.bool (pB (DonesOk h)))/\Below w.heap.size w w':=by
 obtain⟨-,-,-,a4',c4',e4',-,hpos⟩:=id H;obtain⟨a1,c1,a2,c2,a3,c3,a4,c4,rfl,rfl,rfl,rfl⟩:=H.shapes;simp only[Value.slice.injEq] at e4';obtain⟨rfl,-,rfl⟩:=e4';clear H;have hB0:=(A4 w.heap.size w).alloc (A3 _) (.cells #[.int .i64 h.now,.int .i64 h.last,.slice a1 h.sh.things.length c1,.slice a2 h.sh.bs.length c2,.slice a3 h.bs.length c3,.slice a4 h.ds.length c4] 41);have hC:CB (w.alloc (.cells #[.int .i64 h.now,.int .i64 h.last,.slice a1 h.sh.things.length c1,.slice a2 h.sh.bs.length c2,.slice a3 h.bs.length c3,.slice a4 h.ds.length c4] 41)) w.heap.size [.int .i64 h.now,.int .i64 h.last,.slice a1 h.sh.things.length c1,.slice a2 h.sh.bs.length c2,.slice a3 h.bs.length c3,.slice a4 h.ds.length c4]:=E8 w _ _;go_enter Tryz.func59,Tryz.ntmps59
 go_upto_region 1 with fail
 generalize w.alloc (.cells #[.int .i64 h.now,.int .i64 h.last,.slice a1 h.sh.things.length c1,.slice a2 h.sh.bs.length c2,.slice a3 h.bs.length c3,.slice a4 h.ds.length c4] 41)=W1 at *;have hlt:=hC.2.2;obtain⟨d0,d1,d2,d3,d4,d5⟩:=hC.c6;by_cases h20:20<h.ds.length
 ·have HN:Hid (pB (DonesOk h)=false):=F1 λt=>by have:=t.1;omega
  go_wp2_with fail
  go_ret
  exact⟨D6 HN.out.symm,hB0⟩
 go_wp2_with fail
 go_loopw [3,4] (λi _ w'=>∃k:Nat,k<=h.ds.length/\i=.int .i64 k/\DonesTo h.ds h.now k/\Below W1.heap.size W1 w') (λi _ _=>h.ds.length-(intOf i).toNat)
 case atStart=>exact⟨0,by omega,rfl,λi d hi=>by omega,A4 _ _⟩
 case round =>
  obtain⟨k,hk,rfl,hinv,hB⟩:=hrel;have HI:Hid (DonesTo h.ds h.now k):=hinv;clear hinv d0 d1 d2 d3 d4 d5;obtain⟨d0,d1,d2,d3,d4,d5⟩:=(hC.up hB hlt).c6;by_cases hp:k<h.ds.length
  ·obtain⟨b,o,ha,hD,hb⟩:=hpos (by omega)
   subst ha;have hB01:=D5 hB0 hB;have hD1:=hD.up hB01 hb;obtain⟨hrg,zn⟩:=hD1 k _ (A0 hp);have c0:=hrg 0 _ rfl;have c1':=hrg 1 _ rfl;have c2':=hrg 2 _ rfl;simp only[Nat.add_zero] at c0;have NO:Hid (¬DoneOk h.ds h.now k h.ds[k]->pB (DonesOk h)=false):=λhn=>F1 λt=>hn (t.2 k _ hp (A0 hp));have YES:Hid (DoneOk h.ds h.now k h.ds[k]->DonesTo h.ds h.now (k+1)):=λhy=>Y7 (P:=DoneOk h.ds h.now) HI.out hp hy
   have HP:Hid (0<k->∃p:Done,h.ds[k-1]?=some p/\wr.cell? ⟨b,o+(k-1)*3+2,none⟩=some (.int .i64 p.t)/\(¬p.t<=(h.ds[k]).t->¬DoneOk h.ds h.now k h.ds[k])/\(p.t<=(h.ds[k]).t->∀(j:Nat) (p':Done),j+1=k->h.ds[j]?=some p'->p'.t<=(h.ds[k]).t)):=λh0=>by
    have hk1:k-1<h.ds.length:=by omega
    refine⟨h.ds[k-1],A0 hk1,(hD1 (k-1) _ (A0 hk1)).1 2 _ rfl,λhn hd=>hn (hd.2.2.2.2.2 (k-1) _ (by omega) (A0 hk1)),λhle j p' hj hp'=>?_⟩;obtain rfl:j=k-1:=by omega
    rw[A0 hk1] at hp';obtain rfl:=A5 hp';exact hle
   generalize h.ds[k]=x0 at *;have hB1:=hB.alloc hB.size (.cells #[.string (x0).nm,.int .i64 (x0).e,.int .i64 (x0).t] 124);have hX:CB (wr.alloc (.cells #[.string (x0).nm,.int .i64 (x0).e,.int .i64 (x0).t] 124)) wr.heap.size [.string x0.nm,.int .i64 x0.e,.int .i64 x0.t]:=E8 wr _ _;have hal:=(A4 wr.heap.size wr).alloc (A3 _) (.cells #[.string (x0).nm,.int .i64 (x0).e,.int .i64 (x0).t] 124);have hbw:b<wr.heap.size:=A1 hb hB01.size;have hqw:w.heap.size<wr.heap.size:=A1 hlt hB.size;have g0:=(hal.cell (p:=⟨w.heap.size,0,none⟩) hqw).trans d0;have g5:=(hal.cell (p:=⟨w.heap.size,5,none⟩) hqw).trans d5
   have HP2:Hid (0<k->∃p:Done,h.ds[k-1]?=some p/\(wr.alloc (.cells #[.string (x0).nm,.int .i64 (x0).e,.int .i64 (x0).t] 124)).cell? ⟨b,o+(k-1)*3+2,none⟩=some (.int .i64 p.t)/\(¬p.t<=x0.t->¬DoneOk h.ds h.now k x0)/\(p.t<=x0.t->∀(j:Nat) (p':Done),j+1=k->h.ds[j]?=some p'->p'.t<=x0.t)):=λh0=>by
    obtain⟨p,e1,e2,e3,e4⟩:=HP.out h0;exact⟨p,e1,(hal.cell (p:=⟨b,o+(k-1)*3+2,none⟩) hbw).trans e2,e3,e4⟩
   go_upto_region 7 with fail
   generalize wr.alloc (.cells #[.string (x0).nm,.int .i64 (x0).e,.int .i64 (x0).t] 124)=W2 at *;obtain⟨⟨f0,f1,f2⟩,-⟩:=hX.c3;have hB02:=D5 hB0 hB1;clear c0 c1' c2' d0 d1 d2 d3 d4 d5 hrg hD1 hal;cases q1:nameB x0.nm
   ·have HN:Hid (pB (DonesOk h)=false):=NO.out λt=>by rw[t.1] at q1;cases q1
    go_wp2_with fail
    go_quiet ((first|(go_at_call 28;exact Calls.quiet_of_same (G6 _ _ zn))|(go_at_call 57;exact Calls.quiet_of_same (G7 _ _ _ _))))
    go_wp2_with fail
    go_ret
    exact⟨D6 HN.out.symm,E7 hB02 _⟩
   cases q2:inB x0.e 1 3
   ·have HN:Hid (pB (DonesOk h)=false):=NO.out λt=>(Aax _ _ _).1 q2 ⟨t.2.1,t.2.2.1⟩
    go_wp2_with fail
    go_quiet ((first|(go_at_call 28;exact Calls.quiet_of_same (G6 _ _ zn))|(go_at_call 57;exact Calls.quiet_of_same (G7 _ _ _ _))))
    go_wp2_with fail
    go_ret
    exact⟨D6 HN.out.symm,E7 hB02 _⟩
   cases q3:inB x0.t 0 h.now
   ·have HN:Hid (pB (DonesOk h)=false):=NO.out λt=>(Aax _ _ _).1 q3 ⟨t.2.2.2.1,t.2.2.2.2.1⟩
    go_wp2_with fail
    go_quiet ((first|(go_at_call 28;exact Calls.quiet_of_same (G6 _ _ zn))|(go_at_call 57;exact Calls.quiet_of_same (G7 _ _ _ _))))
    go_wp2_with fail
    go_ret
    exact⟨D6 HN.out.symm,E7 hB02 _⟩
   have e2:=(P9 _ _ _).1 q2;have e3:=(P9 _ _ _).1 q3;rcases C3 k with h0|h0
   ·have HY:Hid (DonesTo h.ds h.now (0+1)):=by
     have:=YES.out ⟨q1,e2.1,e2.2,e3.1,e3.2,λj p hj=>by omega⟩;rwa [h0] at this
    subst h0;go_wp2_with fail
    go_quiet ((first|(go_at_call 28;exact Calls.quiet_of_same (G6 _ _ zn))|(go_at_call 57;exact Calls.quiet_of_same (G7 _ _ _ _))))
    go_wp2_with fail
    go_roundw
    case rel=>exact⟨0+1,by omega,by go_num,HY.out,E7 hB1 _⟩
    case measure=>simp[intOf];omega
   ·obtain⟨p,-,cp,p1,p2⟩:=HP2.out h0
    by_cases q4:p.t<=x0.t
    ·have HY:Hid (DonesTo h.ds h.now (k+1)):=YES.out ⟨q1,e2.1,e2.2,e3.1,e3.2,p2 q4⟩
     clear p1 p2;generalize p.t=pt at *;go_wp2_with fail
     go_quiet ((first|(go_at_call 28;exact Calls.quiet_of_same (G6 _ _ zn))|(go_at_call 57;exact Calls.quiet_of_same (G7 _ _ _ _))))
     go_wp2_with fail
     go_roundw
     case rel=>exact⟨k+1,by omega,by go_num,HY.out,E7 hB1 _⟩
     case measure=>simp[intOf];omega
    ·have HN:Hid (pB (DonesOk h)=false):=NO.out (p1 q4)
     clear p1 p2;generalize p.t=pt at *;go_wp2_with fail
     go_quiet ((first|(go_at_call 28;exact Calls.quiet_of_same (G6 _ _ zn))|(go_at_call 57;exact Calls.quiet_of_same (G7 _ _ _ _))))
     go_wp2_with fail
     go_ret
     exact⟨D6 HN.out.symm,E7 hB02 _⟩
  ·have HY:Hid (pB (DonesOk h)=true):=G9 ⟨by omega,by
    have:=HI.out;rwa [show k=h.ds.length by omega] at this⟩
   go_wp2_with fail
   go_ret
   exact⟨D6 HY.out.symm,D5 hB0 hB⟩
end Go.Proofs.YtgecdacgmehmbaaGreatDoor
