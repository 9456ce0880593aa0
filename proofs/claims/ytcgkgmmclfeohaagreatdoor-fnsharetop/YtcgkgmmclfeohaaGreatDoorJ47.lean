/- Books that come of needing less: their texts can be. -/
import Derived.Test.YtcgkgmmclfeohaaGreatDoorJ28
import Derived.Test.YtcgkgmmclfeohaaGreatDoorJ45
namespace Go.Proofs.YtcgkgmmclfeohaaGreatDoor
open Go.Proofs.Tryz
open Go.RowKit
variable{x:Ba}{b:Bk}{nm:BA}{bs:List Ba}{nd:List BA}{k:Nat}
theorem Aei(h:AF b nm nd=0):∃hpl:F3 b nm<b.bs.length,Z5 b nm nd=⟨b.tg,b.bs.set (F3 b nm) (R6 nd b.bs[F3 b nm])⟩/\I8 b/\nd.length<=8:=by
 cases hb:J6 b
 ·rw[(IW hb).1] at h;omega
 cases hm:D7 (I3 b.bs) nm
 ·rw[(EK hb hm).1] at h;omega
 cases hp:pB (J3 nd (N8 b nm))
 ·rw[(Fq hb hm hp).1] at h;omega
 obtain⟨-,hpl⟩:=BI hm;refine⟨hpl,?_,Ad hb,Fz (Ad hb) (IX hm hp)⟩;rw[(Fs hb hm hp).2,BQ (A0 hpl)]
theorem ZU(h:AF b nm nd≠0):Z5 b nm nd=Z7∨(Z5 b nm nd=b/\I8 b):=by
 cases hb:J6 b
 ·exact .inl (IW hb).2
 refine .inr ⟨?_,Ad hb⟩;cases hm:D7 (I3 b.bs) nm
 ·exact (EK hb hm).2
 cases hp:pB (J3 nd (N8 b nm))
 ·exact (Fq hb hm hp).2
 ·exact absurd (Fs hb hm hp).1 h
theorem Ab8(h:Ah b)(hn:∀s∈nd,s.size<=maxLen):Ah (Z5 b nm nd):=by
 by_cases hc:AF b nm nd=0
 ·obtain⟨a0,e,-⟩:=Aei hc;rw[e];refine⟨h.1,λx hx=>?_⟩;rcases List.mem_or_eq_of_mem_set hx with k|k
  ·exact h.2 x k
  ·subst k;exact⟨λs hs=>(h.2 _ (List.getElem_mem a0)).1 s (List.mem_filter.1 hs).1,hn⟩
 ·rcases ZU hc with e|⟨e,-⟩
  ·rw[e];exact DA
  ·rw[e];exact h
def Db(nm:BA)(x:Ba):List BA:=if x.nm.toList==nm.toList then x.nd.filter (λs=>!D7 x.has s) else []
theorem Ab9(b:Bk)(nm:BA):U8 b nm=b.bs.flatMap (Db nm):=rfl
theorem ZV(hk:k<bs.length):(bs.take (k+1)).flatMap (Db nm)=(bs.take k).flatMap (Db nm)++Db nm bs[k]:=by
 rw[A7 hk,List.flatMap_append,List.flatMap_singleton]
theorem AbA(h:(x.nm.toList==nm.toList)=true):Db nm x=x.nd.filter (λs=>!D7 x.has s):=if_pos h
theorem Aej(h:(x.nm.toList==nm.toList)=false):Db nm x=[]:=if_neg (by rw[h];simp)
set_option maxRecDepth 20000 in
set_option maxHeartbeats 4000000 in
theorem Qt(b:Bk)(v:Value)(nm:BA)(w:World)(h:K6 w v b)(hn5:b.bs.length<=100)(hsm:∀y∈b.bs,y.nd.length<=100):
  Calls prog 18 #[v,.string nm] w λe w'=>(∃u,e=.returned u/\G3 w' w.heap.size u (U8 b nm))/\Up w w':=by
 obtain⟨a1,c1,a2,c2,rfl,h1,h2⟩:=h.parts;obtain⟨is,c7,c8,c9,d0⟩:=info_parts Bg;obtain⟨W1,b6,kA,a6,d1⟩:=cbE1 w [.slice a1 (b).tg.length c1,.slice a2 (b).bs.length c2] 26;rw[Ab9];go_in;go_upto_region 1 with fail;try rw[b6]
 clear b6 h h1;obtain⟨e0,e1⟩:=kA.c2';have a8:w.heap.size<W1.heap.size:=by omega
 have b4:w.heap.size<=W1.heap.size:=by omega
 clear d1 e0;have b7:=EG W1;have b8:Up W1 (W1.alloc (.cells #[] 9)):=(A4 _ _).alloc (A3 _) _;obtain⟨-,b2⟩:=h2.at;go_wp2_with fail;(try dsimp only[Iz,Sz,Sy,Nz,Vz,Tz,Ez,Pz]);go_loopw [5,6,7] (λov i _ w'=>∃(k:Nat)(xs:List BA),k<=b.bs.length/\i=.int .i64 k/\Hid (xs=(b.bs.take k).flatMap (Db nm))/\G3 w' W1.heap.size ov xs/\xs.length<=100*k/\Up W1 w') (λ_ i _ _=>b.bs.length-(intOf i).toNat)
 case atStart=>exact⟨0,[],by omega,rfl,rfl,b7,by simp,b8⟩
 case round =>
  clear b7 b8;obtain⟨k,xs,hk,rfl,b3,a0,d7,hB⟩:=hrel;have a9:=D4 a6 hB;have f1:=(hB.cell (p:=⟨w.heap.size,1,none⟩) a8).trans e1;by_cases hp:k<b.bs.length
  ·obtain⟨bb,o,rfl,hS,hb⟩:=b2 (by omega);obtain⟨a3,d3,a4,d4,c3,c4,c5,l3,l4,z0⟩:=(hS.at hp).cells;have s2:=hsm b.bs[k] (by simp);have HX:Hid ((b.bs.take (k+1)).flatMap (Db nm)=(b.bs.take k).flatMap (Db nm)++Db nm b.bs[k]):=ZV hp;have L3:Hid (Ls w (.slice a3 (b.bs[k]).has.length d3) (b.bs[k]).has):=l3;have L4:Hid (Ls w (.slice a4 (b.bs[k]).nd.length d4) (b.bs[k]).nd):=l4;clear l3 l4 z0 hS;generalize b.bs[k]=x0 at *;obtain⟨ax,cx,rfl⟩:=L9 a0
   have C3:∀Z,Up W1 Z->Z.cell? ⟨w.heap.size,1,none⟩=some (.slice (some ⟨bb,o,none⟩) b.bs.length c2)/\Z.cell? ⟨bb,o+k*3,none⟩=some (.string x0.nm)/\Z.cell? ⟨bb,o+k*3+1,none⟩=some (.slice a3 x0.has.length d3)/\Z.cell? ⟨bb,o+k*3+2,none⟩=some (.slice a4 x0.nd.length d4):=λZ hZ =>
    ⟨(hZ.cell (p:=⟨w.heap.size,1,none⟩) a8).trans e1,((D4 a6 hZ).cell (p:=⟨bb,o+k*3,none⟩) hb).trans c3,((D4 a6 hZ).cell (p:=⟨bb,o+k*3+1,none⟩) hb).trans c4,((D4 a6 hZ).cell (p:=⟨bb,o+k*3+2,none⟩) hb).trans c5⟩
   have HC3:Hid (∀Z,Up W1 Z->Z.cell? ⟨w.heap.size,1,none⟩=some (.slice (some ⟨bb,o,none⟩) b.bs.length c2)/\Z.cell? ⟨bb,o+k*3,none⟩=some (.string x0.nm)/\Z.cell? ⟨bb,o+k*3+1,none⟩=some (.slice a3 x0.has.length d3)/\Z.cell? ⟨bb,o+k*3+2,none⟩=some (.slice a4 x0.nd.length d4)):=C3;clear C3 c3 c4 c5 f1 hb;cases hq:(x0.nm.toList==nm.toList)
   ·have HM:Hid (xs=(b.bs.take (k+1)).flatMap (Db nm)):=by show xs=_;rw[HX.out,Aej hq,List.append_nil];exact b3.out
    obtain⟨g1,g2,g3,g4⟩:=HC3.out _ hB;obtain⟨V,hV⟩:∃V,V=wr:=⟨_,rfl⟩;subst hV;go_wp2_with fail;(try dsimp only[Iz,Sz,Sy,Nz,Vz,Tz,Ez,Pz]);go_loopw [5,7] (λhv i w'=>hv=.slice ax xs.length cx/\i=.int .i64 0/\w'=V) (λ_ _ _=>0)
    case atStart=>exact⟨rfl,rfl,rfl⟩
    case round =>
     obtain⟨rfl,rfl,rfl⟩:=hrel;by_cases hm:0<x0.nd.length
     ·have b5:(0:Int)<(x0.nd.length:Int):=by omega
      go_wp2_with fail;go_roundw
      case rel=>exact⟨k+1,xs,by omega,by go_num,HM,a0,by omega,hB⟩
      case measure=>simp[intOf];omega
     ·have b5:¬(0:Int)<(x0.nd.length:Int):=by omega
      go_wp2_with fail;go_roundw
      case rel=>exact⟨k+1,xs,by omega,by go_num,HM,a0,by omega,hB⟩
      case measure=>simp[intOf];omega
   ·have HM:Hid (xs++x0.nd.filter (λs=>!D7 x0.has s)=(b.bs.take (k+1)).flatMap (Db nm)):=by show _=_;rw[HX.out,AbA hq,← b3.out]
    obtain⟨g1,g2,g3,g4⟩:=HC3.out _ hB;go_wp2_with fail;(try dsimp only[Iz,Sz,Sy,Nz,Vz,Tz,Ez,Pz]);go_loopw [5,7] (λhv i w'=>∃m:Nat,m<=x0.nd.length/\i=.int .i64 m/\G3 w' W1.heap.size hv (xs++(x0.nd.take m).filter (λs=>!D7 x0.has s))/\Up W1 w') (λ_ i _=>x0.nd.length-(intOf i).toNat)
    case atStart=>exact⟨0,by omega,rfl,by simpa using a0,hB⟩
    case round =>
     clear a0 hB a9 g1 g2 g3 g4;obtain⟨m,hm,rfl,a0,hB⟩:=hrel;have a9:=D4 a6 hB;obtain⟨g1,g2,g3,g4⟩:=HC3.out _ hB;by_cases hmp:m<x0.nd.length
     ·obtain⟨bx,dx,rfl⟩:=L9 a0;obtain⟨g,o2,rfl,hS,hg⟩:=(L4.out.up a9).inv.2.2 (by omega);have c0:=hS.cell hmp;have HF:=Py (f:=λs=>!D7 x0.has s) hmp;have Hl:=Mp x0.nd (λs=>!D7 x0.has s) m;have r1:Hid (∀n,Calls prog 44 #[.slice a3 x0.has.length d3,.string x0.nd[m]] (wr.drewN n) λe w''=>e=.returned (.bool (D7 x0.has x0.nd[m]))/\∃m,w''=wr.drewN m):=λn=>Calls.quiet_of_same (XP _ _ _ _ (L3.out.up a9).drewN);have r1:=r1.out;generalize x0.nd[m]=s0 at *;have b5:(m:Int)<(x0.nd.length:Int):=by omega
      generalize hys:xs++(x0.nd.take m).filter (λs=>!D7 x0.has s)=ys at *;have d8:ys.length<=100*k+m:=by rw[← hys,A9];exact Nat.add_le_add (by omega) Hl
      have Hys:Hid (xs++(x0.nd.take m).filter (λs=>!D7 x0.has s)=ys):=hys;clear hys;cases hq1:D7 x0.has s0
      ·have HF':Hid (xs++(x0.nd.take (m+1)).filter (λs=>!D7 x0.has s)=ys++[s0]):=by show _=_;rw[HF,hq1,← List.append_assoc,Hys.out];rfl
       rw[hq1] at r1;clear HF hq1;go_wp2_with fail;go_quiet (first|(go_at_call_of 44 (Value.slice a3 x0.has.length d3);exact r1 _))
       clear r1;obtain⟨w5,a7⟩:∃w5,wr.drewN nq=w5:=⟨_,rfl⟩;have c5:w5.cell? ⟨g,o2+m,none⟩=some (.string s0):=by rw[← a7];exact c0
       have b0:G3 w5 W1.heap.size (.slice bx ys.length dx) ys:=by rw[← a7];exact a0
       have b1:Up W1 w5:=by rw[← a7];exact N0 hB _
       obtain⟨j1,j2,j3,j4⟩:=HC3.out _ b1;rw[a7];clear a7 g1 g2 g3 g4 c0 a0 hB;have a5:=World.ownsRow.alloc b0 (.cells #[.string s0] 9);have b9:=b1.alloc b1.size (.cells #[.string s0] 9);have d9:=b1.size;clear b0;go_wp2_with (at_builtin;refine wpList_append_own _ rfl _ _ 23 rfl W1.heap.size 9 is _ 1 16 underlying23 c7 c8 c9 d0 rfl (by decide) _ _ _ rfl a5 ⟨w5.heap.size,0,none⟩ 1 1 [.string s0] rfl rfl (BZ _ _ _) (Gk s0) (by unfold maxLen;omega) (by omega) (by simp;omega) ?_)
       intro v' w7 hown7 hgr7 _;have d5:=O6 b9 a5 hgr7 (A3 _);have c6:G3 w7 W1.heap.size v' (ys++[s0]):=by unfold G3;simpa using hown7
       obtain⟨ya,yc,d2⟩:=L9 c6;subst d2;clear a5 hgr7 hown7 b9;go_wp2_with fail;go_roundw
       case rel=>exact⟨m+1,by omega,by go_num,by rw[HF'.out];exact c6,d5⟩
       case measure=>simp[intOf];omega
      ·have HF':Hid (xs++(x0.nd.take (m+1)).filter (λs=>!D7 x0.has s)=ys):=by show _=_;rw[HF,hq1,← Hys.out];simp
       rw[hq1] at r1;clear HF hq1;go_wp2_with fail;go_quiet (first|(go_at_call_of 44 (Value.slice a3 x0.has.length d3);exact r1 _))
       go_wp2_with fail;go_roundw
       case rel=>exact⟨m+1,by omega,by go_num,by rw[HF'.out];exact a0,N0 hB _⟩
       case measure=>simp[intOf];omega
     ·obtain rfl:m=x0.nd.length:=by omega
      have b5:¬(x0.nd.length:Int)<(x0.nd.length:Int):=by omega
      have Hl:=Mp x0.nd (λs=>!D7 x0.has s) x0.nd.length;rw[List.take_length] at a0 Hl;rw[HM.out] at a0;have h8:xs.length<=100*k:=by omega
      have h9:x0.nd.length<=100:=by omega
      have d6:((b.bs.take (k+1)).flatMap (Db nm)).length<=100*(k+1):=by rw[← HM.out,A9];exact Nat.le_trans (Nat.add_le_add h8 (Nat.le_trans Hl h9)) (by omega)
      generalize hz:(b.bs.take (k+1)).flatMap (Db nm)=zs at *;have Hz:Hid (zs=(b.bs.take (k+1)).flatMap (Db nm)):=hz.symm;clear hz HM HX;go_wp2_with fail;go_roundw
      case rel=>exact⟨k+1,zs,by omega,by go_num,Hz,a0,d6,hB⟩
      case measure=>simp[intOf];omega
  ·obtain rfl:k=b.bs.length:=by omega
   have hh:=b3.out;rw[List.take_length] at hh;go_wp2_with fail;go_ret;exact⟨⟨_,rfl,by rw[← hh];exact N1 a0 b4⟩,a9⟩
end Go.Proofs.YtcgkgmmclfeohaaGreatDoor
