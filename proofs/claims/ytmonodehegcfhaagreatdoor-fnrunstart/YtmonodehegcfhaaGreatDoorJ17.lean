/- The program's RecSlots; both sides tell one list. -/
import Derived.Test.YtmonodehegcfhaaGreatDoorJ14
import Derived.Test.YtmonodehegcfhaaGreatDoorJ9
import Derived.Deep.RegionWith
import Derived.Test.YtmonodehegcfhaaGreatDoorJ12
import Derived.Test.YtmonodehegcfhaaGreatDoorJ6
import Derived.Deep.RegionHeld
import Derived.Test.YtmonodehegcfhaaGreatDoorXr
set_option maxRecDepth 20000
set_option maxHeartbeats 4000000
namespace Go.Proofs.YtmonodehegcfhaaGreatDoor
open Go.Proofs.Tryz
open Go.RowKit
variable{nm:BA}{ss:List BA}{ps:List Ph}{base k q r:Nat}{p:Ph}{x:Rb}{rv sv u v x0 x1 x2 x3 x4 x5 y:Value}{W w w' w0:World}
theorem IL(ss:List BA):L0 (F1 ss)=ss:=by
 rw[L0,F1,List.map_map]
 have:((λl:Ae=>(⟨l.toArray⟩:BA)) ∘ λs:BA=>s.toList)=id:=by
  funext s
  show (⟨s.toList.toArray⟩:BA)=s
  rw[Go.ByteArray.toList_eq]
 rw[this,List.map_id]
def YA(ps:List Ph)(nm:BA):List Ae:=if P3 ps=true then Ic ps nm else []
theorem SB(ps:List Ph)(nm:BA):L0 (YA ps nm)=CO ps nm:=by
 unfold YA CO;split
 ·rw[← Ee,IL]
 ·rfl
theorem XI{ks:List Ae}(h:Ct w base (u,ks)):F7 w base u (L0 ks):=by
 have:(L0 ks).length=ks.length:=by simp[L0]
 unfold F7;rw[this];exact h
theorem Ka(ps:List Ph)(b o c:Nat)(nm:BA)(w:World)(hE:P2 w)(hr:M2 w b o ps)(hb:b<w.heap.size)(hs:Dd ps)(hcap:ps.length<=c)(hc9:c<=9223372036854775807):
  Calls prog 50 #[Sy b o ps.length c,Tz nm] w λe w'=>(∃u,e=.returned u/\F7 w' w.heap.size u (CO ps nm))/\Up w w':=by
 cases hok:P3 ps
 ·have HV:Hid (CO ps nm=[]):=by show _=_;simp[CO,hok]
  go_in;go_wp2_with fail;refine (DW ps b o c _ hE hr hb hs hcap hc9).mono ?_;rintro e w1 ⟨he,a0⟩;rw[hok] at he;subst he;go_wp2_with fail;go_ret;exact⟨⟨_,rfl,by rw[HV.out];exact B9 _ _ _ _⟩,a0⟩
 ·have hd:=Fg hok 0;rw[List.drop_zero] at hd;have a9:ps.length<=12:=((M3 ps).1 hok).2.1
  have HV:Hid (∀rs:List (BA×VK),Dt rs=fill LI Fx [] ps->L0 (look rs nm X9).2=CO ps nm):=by
   show _;intro rs a2
   rw[← Fy,a2,DR _ _ _ _ hd,← SB];unfold YA;rw[if_pos hok];rfl
  clear hd;go_in;go_wp2_with fail;refine (DW ps b o c _ hE hr hb hs hcap hc9).mono ?_;rintro e w1 ⟨he,a0⟩;rw[hok] at he;subst he;go_wp2_with fail;refine (Ug ps b o c _ (hE.up a0) (hr.up a0 hb) (A2 hb a0.size) hok).mono ?_;rintro e w2 ⟨⟨g,a8,rs,rfl,a2,hT⟩,a7⟩
  have a3:rs.length<=1048576:=by
   have:=congrArg List.length a2;rw[DH] at this;simp only[Dt,B5] at this;omega
  have a1:=D5 a0 a7;have a6:=HV.out rs a2;have Hnn:Hid (L0 (look rs nm X9).2=CO ps nm):=a6;clear a6 a2 a7;go_wp2_with fail;refine (Rw rs w1.heap.size g a8 nm _ hT a3).mono ?_;rintro e w3 ⟨rfl,a5⟩;have hO:F7 w3 w1.heap.size (look rs nm X9).1 (L0 (look rs nm X9).2):=XI (u:=(look rs nm X9).1) (ks:=(look rs nm X9).2) ((hT.up a5).look nm);have a4:=D5 a1 a5;rw[Hnn.out] at hO;clear hT a1 a5;go_wp2_with fail;go_ret;exact⟨⟨_,rfl,I8 hO a0.size⟩,a4⟩
theorem LU(nm ad:BA)(a1 a2:Option Addr)(n1 n2 c1 c2:Nat)(st:Int)(w:World):
  Calls prog 101 #[.agg #[Tz nm,Vz a1 n1 c1,Vz a2 n2 c2,Tz ad,Iz (-1),Iz st]] w λe w'=>e=.returned (.iface 201 (.agg #[]))/\Up w w':=by
 go_in;go_wp2;go_ret;exact⟨rfl,by go_grown⟩
theorem Lj(nm ad:BA)(a1 a2:Option Addr)(n1 n2 c1 c2:Nat)(si st:Int)(w:World)(h:¬si=-1):
  Calls prog 101 #[.agg #[Tz nm,Vz a1 n1 c1,Vz a2 n2 c2,Tz ad,Iz si,Iz st]] w λe w'=>e=.returned (.iface 195 (.agg #[Iz si]))/\Up w w':=by
 go_in;go_wp2;go_ret;exact⟨rfl,by go_grown⟩
theorem SC(n:Int)(w:World):Calls prog 245 #[.agg #[],Iz n] w λe w'=>e=.returned (.bool true)/\Up w w':=by
 go_in;go_wp2;go_ret;exact⟨rfl,by go_grown⟩
theorem Pi(si n:Int)(w:World):Calls prog 244 #[.agg #[Iz si],Iz n] w λe w'=>e=.returned (.bool (decide (0<=si)&&decide (si<n)))/\Up w w':=by
 by_cases h:0<=si
 ·go_in;go_wp2;go_ret;exact⟨D8 (by simp[h]),by go_grown⟩
 ·go_in;go_wp2;go_ret;exact⟨D8 (by simp;omega),by go_grown⟩
theorem Wq(h:Ac w v ss)(hk:k<ss.length):∃g c,v=Sz g ss.length c/\At w g k (Tz ss[k])/\g<w.heap.size:=by
 rcases h with⟨_,h2⟩|⟨g,c,h1,hS,hg,-⟩
 ·subst h2;simp at hk
 ·exact⟨g,c,h1,by have:=hS k ss[k] (by simp);simpa using this,hg⟩
theorem Kb(hs:Dd ps)(nm:BA):∀s∈O9 ps nm,s.size<=maxLen:=λs hs'=>by
 have h1:s.toList∈F1 (O9 ps nm):=List.mem_map.2 ⟨s,hs',rfl⟩;rw[Ee] at h1;have h2:=JO ps nm _ h1;obtain⟨p,hp,h3⟩:=List.mem_flatMap.1 h2;obtain⟨_,z1,z2,_,_⟩:=hs p hp;unfold Ex at h3;split at h3
 ·simp only[List.mem_cons,List.not_mem_nil,or_false] at h3;rcases h3 with h3|h3
  ·rw[AE h3];exact z1
  ·rw[AE h3];exact z2
 ·simp only[List.mem_cons,List.not_mem_nil,or_false] at h3;rw[AE h3];exact z1
theorem Pj(ps:List Ph)(l:List Sl)(b o c g q cc:Nat)(w:World)(hE:P2 w)(hr:M2 w b o ps)(hb:b<w.heap.size)(hs:Dd ps)(hcap:ps.length<=c)(hc9:c<=9223372036854775807)(hok:P3 ps=true)
  (hl:DK w g q l) (hg:g<w.heap.size) (hn:l.length<=1048576) (hz:∀y∈l,y.s.size<=maxLen/\y.t.size<=maxLen) :
  Calls prog 102 #[Sy g q l.length cc,Sy b o ps.length c] w λe w'=>e=.returned (.bool (pB (N7 ps l)))/\Up w w':=by
 obtain⟨b8,b4,-⟩:=(M3 ps).1 hok;obtain⟨c0,-⟩:=hr.cells 0 (by omega);rw[show o+0*8=o by omega] at c0;have b6:=DU ps (I0 ps);have a0:=λW (hB:Up w W)=>Ka ps b o c (I0 ps) W (hE.up hB) (hr.up hB hb) (A2 hb hB.size) hs hcap hc9;have hV:CO ps (I0 ps)=O9 ps (I0 ps):=by simp[CO,hok]
 rw[hV] at a0;rw[← BL (by omega)] at c0;have b1:=JS ps (I0 ps);have b7:=Kb hs (I0 ps);have HP:Hid (N7 ps l=EA l (O9 ps (I0 ps))):=rfl;have a6:(O9 ps (I0 ps)).length<=24:=by omega
 clear hV b6;generalize O9 ps (I0 ps)=ns at *;generalize I0 ps=f0 at *;go_in;go_wp2_with fail;refine (a0 _ (A5 _ _)).mono ?_;rintro e w1 ⟨⟨u,rfl,hO⟩,a4⟩;have hL:=hO.lst;obtain⟨ua,uc,rfl⟩:=hL.shape;have Hnd:Hid (F1 ns).Nodup:=b1;have Hcall:Hid True:=trivial;clear a0 c0 b1;by_cases hll:l.length=ns.length
 case neg =>
  have HN:Hid (pB (N7 ps l)=false):=I5 (by rw[HP.out];exact λh=>hll h.1);go_wp2_with fail;go_ret;exact⟨D8 HN.out.symm,a4⟩
 have Hll:Hid (l.length=ns.length):=hll;go_upto_region 4 with fail;clear hll;have hn:ns.length<=1048576:=by omega
 go_wp2_with fail;go_loopw [6,7,21] (λ_ _ i w'=>∃k:Nat,k<=ns.length/\i=.int .i64 k/\Ce l ns k/\Up w1 w') (λ_ _ i _=>ns.length-(intOf i).toNat)
 case atStart=>exact⟨0,by omega,rfl,λj x hj _=>by omega,A5 _ _⟩
 case round =>
  obtain⟨k,hk,rfl,hP,hB⟩:=hrel;have HPk:Hid (Ce l ns k):=hP;clear hP;by_cases hkn:k<ns.length
  ·have hp:k<l.length:=by have:=Hll.out;omega
   obtain⟨d0,d1⟩:=(hl.up (D5 a4 hB) hg).cells k hp;obtain⟨gu,cu,hu,e0,b5⟩:=Wq (hL.up hB) hkn;simp only[Value.slice.injEq] at hu;obtain⟨rfl,-,rfl⟩:=hu;obtain⟨zs,zt⟩:=hz l[k] (by simp);have N1:Hid (((l[k]).s.toList==(ns[k]).toList)=false->¬EA l ns):=Ce.no1 hp hkn;have N2:Hid (G0 (l[k]).t=false->¬EA l ns):=Ce.no2 hp;have N3:Hid (((l[k]).s.toList==(ns[k]).toList)=true->G0 (l[k]).t=true->Ce l ns (k+1)):=HPk.out.step hp hkn;generalize l[k]=y at *;generalize ns[k]=s0 at *;have a7:=hB.alloc hB.size (Kz [Tz (y).s,Tz (y).t] 58);have hC:CB (wr.alloc (Kz [Tz (y).s,Tz (y).t] 58)) wr.heap.size [Tz y.s,Tz y.t]:=F3 wr _ _;have e1:=((A5 wr.heap.size wr).alloc (A4 _) (Kz [Tz (y).s,Tz (y).t] 58)).cell (p:=⟨gu,k,none⟩) b5 |>.trans e0
   go_upto_region 7 with fail;generalize wr.alloc (Kz [Tz (y).s,Tz (y).t] 58)=W1 at *;obtain⟨⟨b9,f1⟩,-⟩:=hC.c2;clear d0 d1 e0 hB;cases h1:(y.s.toList==s0.toList)
   ·have Hno:Hid (pB (N7 ps l)=false):=I5 (by rw[HP.out];exact N1.out h1);go_wp2_with fail;go_quiet (fail);go_wp2;go_ret;exact⟨D8 Hno.out.symm,G4 (D5 a4 a7) _⟩
   ·cases h2:G0 y.t
    ·have Hno:Hid (pB (N7 ps l)=false):=I5 (by rw[HP.out];exact N2.out h2);go_wp2_with fail;go_region_with (go_at_call 87;refine (AJ _ _ zt).mono ?_;rintro e w3 ⟨rfl,a9⟩)
     all_goals
      have a8:=D5 (D5 a4 a7).drew a9;go_wp2_with fail;go_ret;exact⟨D8 Hno.out.symm,a8⟩
    ·have Hyes:Hid (Ce l ns (k+1)):=N3.out h1 h2;go_wp2_with fail;go_region_with (go_at_call 87;refine (AJ _ _ zt).mono ?_;rintro e w3 ⟨rfl,a9⟩)
     all_goals
      have a8:=D5 a7.drew a9;go_wp2_with fail;go_roundw
      case rel=>exact⟨k+1,by omega,by go_num,Hyes.out,a8⟩
      case measure=>simp[intOf];omega
  ·have HPl:Hid (Ce l ns l.length):=by
    have:=HPk.out;rwa [show k=l.length by have:=Hll.out;omega] at this
   have a1:=D5 a4 hB;go_wp2_with fail;refine (Sq l _ g q cc _ Hll.out (hl.up a1 hg) (A2 hg a1.size) hn (λy hy=>(hz y hy).1)).mono ?_;rintro e w4 ⟨⟨M,D,rfl,hM,hD,-⟩,b0⟩;go_wp2_with fail;refine (GY l ns M _ D _ _ hM hD ((hL.up hB).up b0) b7 (by omega)).mono ?_;rintro e w5 ⟨⟨u5,rfl,b2⟩,b3⟩;obtain⟨a5,c5,rfl⟩:=b2.lst.shape;have a2:(L0 (Dv l ns)).length=(Dv l ns).length:=by simp[L0]
   have Hc:Hid ((Dv l ns).length=l.length↔EA l ns):=Ce.count Hll.out HPl.out Hnd.out;have a3:=D5 (D5 a1 b0) b3;have c1:=Rx l ns;rw[a2];clear b2 hM hD b0 b3 a2;rw[Hll.out] at Hc;by_cases hq:(Dv l ns).length=ns.length
   ·have Hq:Hid (pB (N7 ps l)=true):=L9 (by rw[HP.out];exact Hc.out.1 hq);go_wp2_with fail;go_ret;exact⟨D8 (by rw[Hq.out]),a3⟩
   ·have Hq:Hid (pB (N7 ps l)=false):=I5 (by rw[HP.out];exact λh=>hq (Hc.out.2 h));go_wp2_with fail;go_ret;exact⟨D8 (by rw[Hq.out];simp;omega),a3⟩
structure T1 (w:World) (x:Rb) (rv sv:Value):Prop where
 r:∃b o c,rv=.slice (some ⟨b,o,none⟩) x.ps.length c/\M2 w b o x.ps/\b<w.heap.size/\x.ps.length<=c/\c<=9223372036854775807
 s:∃b o c,sv=.slice (some ⟨b,o,none⟩) x.sl.length c/\DK w b o x.sl/\b<w.heap.size
 zp:Dd x.ps
 zs:∀y∈x.sl,y.s.size<=maxLen/\y.t.size<=maxLen
 zn:x.nm.size<=maxLen
 np:x.ps.length<=1048576
 ns:x.sl.length<=1048576
theorem T1.up(h:T1 w x rv sv)(hb:Up w w'):T1 w' x rv sv:=by
 obtain⟨b,o,c,h1,h2,h3,h4⟩:=h.r;obtain⟨g,q,d,k1,k2,k3⟩:=h.s;exact⟨⟨b,o,c,h1,h2.up hb h3,A2 h3 hb.size,h4⟩,⟨g,q,d,k1,k2.up hb k3,A2 k3 hb.size⟩,h.zp,h.zs,h.zn,h.np,h.ns⟩
theorem EH(h:O6 ps nm=true):∃k,k<ps.length/\U8 ps nm=(k:Int):=by
 cases hf:ps.findIdx? λp=>p.nm.toList==nm.toList with
 | none =>
  rw[List.findIdx?_eq_none_iff] at hf;unfold O6 at h;rw[List.any_eq_true] at h;obtain⟨p,hp,e⟩:=h;rw[hf p hp] at e;cases e
 | some i =>
  obtain⟨h1,-⟩:=List.findIdx?_eq_some_iff_getElem.1 hf;exact⟨i,h1,by unfold U8;rw[hf]⟩
theorem DL(h:O6 ps nm=true):AF ps nm∈ps:=by
 obtain⟨k,hk,ha⟩:=EH h;rw[EB hk ha];simp
theorem FN(h:P3 ps=true)(hp:p∈ps):p.okB=true:=by
 obtain⟨i,hi,rfl⟩:=B7 hp;have:=((M3 ps).1 h).2.2 i ps[i] hi (by simp);unfold Be at this;simp only[Bool.and_eq_true] at this;exact this.1.1.1
theorem Kc(h:p.okB=true):1<=p.wi/\p.wi<=1000:=by
 unfold Ph.okB V9 at h;simp only[Bool.and_eq_true] at h;exact (BX _ _ _).1 h.1.1.1.2
theorem MD(h:Up W w0/\At w0 q 0 x0/\At w0 q 1 x1/\At w0 q 2 x2/\At w0 q 3 x3/\At w0 q 4 x4/\At w0 q 5 x5/\At w0 r 5 y):Up W w0.drew/\w0.drew.cell? ⟨q,0,none⟩=some x0/\w0.drew.cell? ⟨q,1,none⟩=some x1/\w0.drew.cell? ⟨q,2,none⟩=some x2/\w0.drew.cell? ⟨q,3,none⟩=some x3/\w0.drew.cell? ⟨q,4,none⟩=some x4/\w0.drew.cell? ⟨q,5,none⟩=some x5/\w0.drew.cell? ⟨r,5,none⟩=some y :=
 ⟨h.1.drew,h.2⟩
theorem Og{w1:World}(hq:q<W.heap.size)(hr:r<W.heap.size)(h:Up W w0/\At w0 q 0 x0/\At w0 q 1 x1/\At w0 q 2 x2/\At w0 q 3 x3/\At w0 q 4 x4/\At w0 q 5 x5/\At w0 r 5 y)(hB:Up w0 w1):Up W w1/\At w1 q 0 x0/\At w1 q 1 x1/\At w1 q 2 x2/\At w1 q 3 x3/\At w1 q 4 x4/\At w1 q 5 x5/\At w1 r 5 y:=by
 obtain⟨h1,a0,a1,a2,a3,a4,a5,a6⟩:=h;have hl:q<w0.heap.size:=A2 hq h1.size;have hm:r<w0.heap.size:=A2 hr h1.size;exact⟨D5 h1 hB,(hB.cell (p:=⟨q,0,none⟩) hl).trans a0,(hB.cell (p:=⟨q,1,none⟩) hl).trans a1,(hB.cell (p:=⟨q,2,none⟩) hl).trans a2,(hB.cell (p:=⟨q,3,none⟩) hl).trans a3,(hB.cell (p:=⟨q,4,none⟩) hl).trans a4,(hB.cell (p:=⟨q,5,none⟩) hl).trans a5,(hB.cell (p:=⟨r,5,none⟩) hm).trans a6⟩
theorem Ei(x:Rb)(rv sv:Value)(w:World)(hE:P2 w)(h:T1 w x rv sv):
  Calls prog 47 #[.agg #[Tz x.nm,rv,sv,Tz x.ad,Iz x.si,Iz x.st]] w λe w'=>e=.returned (.bool (pB (M0 x)))/\Up w w':=by
 obtain⟨b,o,c,rfl,hr,hb,a7,b3⟩:=h.r;obtain⟨g,q,d,rfl,hl,hg⟩:=h.s;have zp:=h.zp;have zs:=h.zs;have zn:=h.zn;have np:=h.np;have ns:=h.ns;clear h;have hC:CB (w.alloc (Kz [Tz x.nm,Sy b o x.ps.length c,Sy g q x.sl.length d,Tz x.ad,Iz x.si,Iz x.st] 40)) w.heap.size [Tz x.nm,Sy b o x.ps.length c,Sy g q x.sl.length d,Tz x.ad,Iz x.si,Iz x.st]:=F3 w _ _;have a2:=(A5 w.heap.size w).alloc (A4 _) (Kz [Tz x.nm,Sy b o x.ps.length c,Sy g q x.sl.length d,Tz x.ad,Iz x.si,Iz x.st] 40);have HE:Hid (P2 w):=hE;clear hE;go_in;go_upto_region 1 with fail;generalize w.alloc (Kz [Tz x.nm,Sy b o x.ps.length c,Sy g q x.sl.length d,Tz x.ad,Iz x.si,Iz x.st] 40)=W1 at *;obtain⟨d0,d1,d2,d3,d4,d5⟩:=hC.c6;have a6:=hC.2.2;have hB:Up W1 W1:=A5 _ _;obtain⟨hc,hf⟩:=G9 hB;cases h1:G0 x.nm
 ·have HN:Hid (pB (M0 x)=false):=I5 λh=>by rw[h.1] at h1;cases h1
  go_wp2_with (first|(go_at_call 87;refine (AJ _ _ zn).mono ?_;rintro e w1 ⟨rfl,a0⟩;(first|replace hB:=D5 hB a0|have hB:=a0);clear a0;(try clear hc hf);obtain⟨hc,hf⟩:=G9 hB))
  go_ret;exact⟨D8 HN.out.symm,D5 a2 hB⟩
 by_cases h2:1<=x.st
 case neg =>
  have HN:Hid (pB (M0 x)=false):=I5 λh=>h2 h.2.2.2.1;go_wp2_with (first|(go_at_call 87;refine (AJ _ _ zn).mono ?_;rintro e w1 ⟨rfl,a0⟩;(first|replace hB:=D5 hB a0|have hB:=a0);clear a0;(try clear hc hf);obtain⟨hc,hf⟩:=G9 hB))
  go_ret;exact⟨D8 HN.out.symm,D5 a2 hB⟩
 cases h3:P3 x.ps
 ·have HN:Hid (pB (M0 x)=false):=I5 λh=>by rw[h.2.1] at h3;cases h3
  go_wp2_with (first|(go_at_call 87;refine (AJ _ _ zn).mono ?_;rintro e w1 ⟨rfl,a0⟩;(first|replace hB:=D5 hB a0|have hB:=a0);clear a0;(try clear hc hf);obtain⟨hc,hf⟩:=G9 hB)|(go_at_call 55;refine (DW x.ps b o c _ (HE.out.up (D5 a2 hB)) (hr.up (D5 a2 hB) hb) (A2 hb (D5 a2 hB).size) zp a7 b3).mono ?_;rintro e w1 ⟨rfl,a0⟩;(first|replace hB:=D5 hB a0|have hB:=a0);clear a0;(try clear hc hf);obtain⟨hc,hf⟩:=G9 hB))
  go_ret;exact⟨D8 HN.out.symm,D5 a2 hB⟩
 have H123:Hid (G0 x.nm=true/\P3 x.ps=true/\1<=x.st):=⟨h1,h3,h2⟩;go_upto_region 3 with (first|(go_at_call 87;refine (AJ _ _ zn).mono ?_;rintro e w1 ⟨rfl,a0⟩;(first|replace hB:=D5 hB a0|have hB:=a0);clear a0;(try clear hc hf);obtain⟨hc,hf⟩:=G9 hB)|(go_at_call 55;refine (DW x.ps b o c _ (HE.out.up (D5 a2 hB)) (hr.up (D5 a2 hB) hb) (A2 hb (D5 a2 hB).size) zp a7 b3).mono ?_;rintro e w1 ⟨rfl,a0⟩;(first|replace hB:=D5 hB a0|have hB:=a0);clear a0;(try clear hc hf);obtain⟨hc,hf⟩:=G9 hB))
 clear h1 h2;go_wp2_with fail;refine (GU x.ps b o c x.ad _ (hr.up (D5 a2 hB) hb) (A2 hb (D5 a2 hB).size) np).mono ?_;rintro e w3 ⟨⟨p,rfl,b8⟩,b9⟩
 have Hpk:Hid (O6 x.ps x.ad=true->p=AF x.ps x.ad):=λhh=>by
  obtain⟨k,hk,ha⟩:=EH hh;rw[b8 k hk ha,EB hk ha]
 have a8:=D5 hB b9;clear b8 b9 hB hc hf;have a4:=a8.alloc a8.size (Kz [Tz (p).nm,Iz (p).k,Tz (p).a,Tz (p).b,Iz (p).n,Iz (p).wi,Tz (p).t,Tz (p).e] 43);have b4:CB (w3.alloc (Kz [Tz (p).nm,Iz (p).k,Tz (p).a,Tz (p).b,Iz (p).n,Iz (p).wi,Tz (p).t,Tz (p).e] 43)) w3.heap.size [Tz p.nm,Iz p.k,Tz p.a,Tz p.b,Iz p.n,Iz p.wi,Tz p.t,Tz p.e]:=F3 w3 _ _;go_upto_region 4 with fail;generalize w3.alloc (Kz [Tz (p).nm,Iz (p).k,Tz (p).a,Tz (p).b,Iz (p).n,Iz (p).wi,Tz (p).t,Tz (p).e] 43)=W4 at *;obtain⟨hc,hf⟩:=G9 a4;have e0:=(hc w.heap.size 0 a6).trans d0;have e1:=(hc w.heap.size 1 a6).trans d1;have e2:=(hc w.heap.size 2 a6).trans d2;have e3:=(hc w.heap.size 3 a6).trans d3;have e4:=(hc w.heap.size 4 a6).trans d4;have e5:=(hc w.heap.size 5 a6).trans d5;have e6:At W4 w3.heap.size 5 (Iz p.wi):=b4.1 5 _ rfl;have a1:=D5 a2 a4;have b1:w.heap.size<W4.heap.size:=A2 a6 a4.size;have b2:w3.heap.size<W4.heap.size:=b4.2.2;clear d0 d1 d2 d3 d4 d5 hC b4 a2 a8 a4 hc hf a6;cases h5:O6 x.ps x.ad
 ·have HN:Hid (pB (M0 x)=false):=I5 λh=>by rw[h.2.2.2.2.1] at h5;cases h5
  go_wp2_with fail;go_quiet (fail);go_wp2;go_ret;exact⟨D8 HN.out.symm,G4 a1 _⟩
 have Hw:Hid (1<=p.wi/\p=AF x.ps x.ad):=by
  have e:=Hpk.out h5;exact⟨by rw[e];exact (Kc (FN h3 (DL h5))).1,e⟩
 have HR:Hid (∀(W:World),Up W4 W->Calls prog 102 #[Sy g q x.sl.length d,Sy b o x.ps.length c] W λe w'=>e=.returned (.bool (pB (N7 x.ps x.sl)))/\Up W w'):=λW hW =>
  Pj x.ps x.sl b o c g q d W (HE.out.up (D5 a1 hW)) (hr.up (D5 a1 hW) hb) (A2 hb (D5 a1 hW).size) zp a7 b3 h3 (hl.up (D5 a1 hW) hg) (A2 hg (D5 a1 hW).size) ns zs
 have a9:(λw'=>Up W4 w'/\At w' w.heap.size 0 (Tz x.nm)/\At w' w.heap.size 1 (Sy b o x.ps.length c)/\At w' w.heap.size 2 (Sy g q x.sl.length d)/\At w' w.heap.size 3 (Tz x.ad)/\At w' w.heap.size 4 (Iz x.si)/\At w' w.heap.size 5 (Iz x.st)/\At w' w3.heap.size 5 (Iz p.wi)) W4:=⟨A5 _ _,e0,e1,e2,e3,e4,e5,e6⟩;clear e0 e1 e2 e3 e4 e5 e6 h3;by_cases h6:x.si=-1
 ·have H6:Hid (pB (M0 x)=pB (N7 x.ps x.sl)):=by
   show _=_
   obtain⟨k1,k2,k3⟩:=H123.out;obtain⟨k4,k5⟩:=Hw.out;have:M0 x↔N7 x.ps x.sl:=⟨λh=>h.2.2.1,λh=>⟨k1,k2,h,k3,h5,by omega,by rw[← k5];omega⟩⟩;unfold pB;simp[this]
  have a5:(λw'=>Up W4 w'/\At w' w.heap.size 0 (Tz x.nm)/\At w' w.heap.size 1 (Sy b o x.ps.length c)/\At w' w.heap.size 2 (Sy g q x.sl.length d)/\At w' w.heap.size 3 (Tz x.ad)/\At w' w.heap.size 4 (Iz (-1))/\At w' w.heap.size 5 (Iz x.st)/\At w' w3.heap.size 5 (Iz p.wi)) W4:=by rw[← h6];exact a9
  clear h6 a9;go_wp2_with fail
  go_region_held (λw'=>Up W4 w'/\At w' w.heap.size 0 (Tz x.nm)/\At w' w.heap.size 1 (Sy b o x.ps.length c)/\At w' w.heap.size 2 (Sy g q x.sl.length d)/\At w' w.heap.size 3 (Tz x.ad)/\At w' w.heap.size 4 (Iz (-1))/\At w' w.heap.size 5 (Iz x.st)/\At w' w3.heap.size 5 (Iz p.wi)) (first|exact MD a5|exact Og b1 b2 (by assumption) (by assumption))
   (first
    | (go_at_call 101;refine (LU _ _ _ _ _ _ _ _ _ _).mono ?_;rintro e w5 ⟨rfl,b6⟩)
    | (go_at_call 245;refine (SC _ _).mono ?_;rintro e w6 ⟨rfl,b7⟩)
    | (go_at_call 102;refine (HR.out _ (And.left (by assumption))).mono ?_;rintro e w7 ⟨rfl,c0⟩))
  rename_i hHeld;have b0:=D5 a1 hHeld.1;go_wp2_with fail;go_ret;exact⟨D8 H6.out.symm,b0⟩
 ·by_cases h7:0<=x.si/\x.si<p.wi
  ·have H6:Hid (pB (M0 x)=pB (N7 x.ps x.sl)):=by
    show _=_
    obtain⟨k1,k2,k3⟩:=H123.out;obtain⟨k4,k5⟩:=Hw.out;have:M0 x↔N7 x.ps x.sl:=⟨λh=>h.2.2.1,λh=>⟨k1,k2,h,k3,h5,by omega,by rw[← k5];omega⟩⟩;unfold pB;simp[this]
   have h8:(decide (0<=x.si)&&decide (x.si<p.wi))=true:=by simp[h7]
   have H6':Hid (¬x.si=-1):=h6;clear h6 h7;go_wp2_with fail
   go_region_held (λw'=>Up W4 w'/\At w' w.heap.size 0 (Tz x.nm)/\At w' w.heap.size 1 (Sy b o x.ps.length c)/\At w' w.heap.size 2 (Sy g q x.sl.length d)/\At w' w.heap.size 3 (Tz x.ad)/\At w' w.heap.size 4 (Iz x.si)/\At w' w.heap.size 5 (Iz x.st)/\At w' w3.heap.size 5 (Iz p.wi)) (first|exact MD a9|exact Og b1 b2 (by assumption) (by assumption))
    (first
     | (go_at_call 101;refine (Lj _ _ _ _ _ _ _ _ _ _ _ H6'.out).mono ?_;rintro e w5 ⟨rfl,b6⟩)
     | (go_at_call 244;refine (Pi _ _ _).mono ?_;rw[h8];rintro e w6 ⟨rfl,b7⟩)
     | (go_at_call 102;refine (HR.out _ (And.left (by assumption))).mono ?_;rintro e w7 ⟨rfl,c0⟩))
   rename_i hHeld;have b0:=D5 a1 hHeld.1;go_wp2_with fail;go_ret;exact⟨D8 H6.out.symm,b0⟩
  ·have HN:Hid (pB (M0 x)=false):=I5 λh=>h7 (by
    obtain⟨-,k5⟩:=Hw.out;rw[k5];exact⟨by have:=h.2.2.2.2.2.1;omega,h.2.2.2.2.2.2⟩)
   have h8:(decide (0<=x.si)&&decide (x.si<p.wi))=false:=by
    rw[Bool.and_eq_false_iff];simp only[decide_eq_false_iff_not];omega
   have H6':Hid (¬x.si=-1):=h6;clear h6 h7;have a5:(λw'=>Up W4 w'/\At w' w.heap.size 0 (Tz x.nm)/\At w' w.heap.size 1 (Sy b o x.ps.length c)/\At w' w.heap.size 2 (Sy g q x.sl.length d)/\At w' w.heap.size 3 (Tz x.ad)/\At w' w.heap.size 4 (Iz x.si)/\At w' w.heap.size 5 (Iz x.st)/\At w' w3.heap.size 5 (Iz p.wi)) W4.drew:=MD a9;clear a9;refine F5 99 (λw'=>Up W4 w'/\At w' w.heap.size 0 (Tz x.nm)/\At w' w.heap.size 1 (Sy b o x.ps.length c)/\At w' w.heap.size 2 (Sy g q x.sl.length d)/\At w' w.heap.size 3 (Tz x.ad)/\At w' w.heap.size 4 (Iz x.si)/\At w' w.heap.size 5 (Iz x.st)/\At w' w3.heap.size 5 (Iz p.wi)) (by kernel_rfl) ?_;refine D6 0 rfl a5 ?_;refine D6 1 rfl a5 ?_;refine D6 2 rfl a5 ?_;refine D6 4 rfl a5 ?_;refine D6 5 rfl a5 ?_;refine E7 3 rfl (λK hK=>?_);go_simp;go_wp2_with (go_at_call 101;refine (Lj _ _ _ _ _ _ _ _ _ _ _ H6'.out).mono ?_;rintro e w5 ⟨rfl,b6⟩)
   have b5:(λw'=>Up W4 w'/\At w' w.heap.size 0 (Tz x.nm)/\At w' w.heap.size 1 (Sy b o x.ps.length c)/\At w' w.heap.size 2 (Sy g q x.sl.length d)/\At w' w.heap.size 3 (Tz x.ad)/\At w' w.heap.size 4 (Iz x.si)/\At w' w.heap.size 5 (Iz x.st)/\At w' w3.heap.size 5 (Iz p.wi)) w5:=Og b1 b2 a5 b6;refine E6 hK b5 ?_;clear hK K;refine E7 6 rfl (λK hK=>?_);go_simp;go_wp2_with (go_at_call 244;refine (Pi _ _ _).mono ?_;rw[h8];rintro e w6 ⟨rfl,b7⟩)
   have a3:(λw'=>Up W4 w'/\At w' w.heap.size 0 (Tz x.nm)/\At w' w.heap.size 1 (Sy b o x.ps.length c)/\At w' w.heap.size 2 (Sy g q x.sl.length d)/\At w' w.heap.size 3 (Tz x.ad)/\At w' w.heap.size 4 (Iz x.si)/\At w' w.heap.size 5 (Iz x.st)/\At w' w3.heap.size 5 (Iz p.wi)) w6:=Og b1 b2 b5 b7;refine E6 hK a3 ?_;clear hK K;refine D6 7 rfl a3 ?_;refine D6 8 rfl a3 ?_;refine K9 9 rfl a3 ?_;refine K9 10 rfl a3 ?_;refine K9 11 rfl a3 ?_;refine K9 12 rfl a3 ?_;refine K9 13 rfl a3 ?_;refine D6 14 rfl a3 ?_;refine E7 15 rfl (λK hK=>?_);go_simp;refine E6 hK a3 ?_;clear hK K;refine F0 (by kernel_rfl) ?_ _;have b0:=D5 a1 a3.1;clear a5 b5 a3 h8 h5;go_wp2_with fail;go_ret;exact⟨D8 HN.out.symm,b0⟩
end Go.Proofs.YtmonodehegcfhaaGreatDoor
