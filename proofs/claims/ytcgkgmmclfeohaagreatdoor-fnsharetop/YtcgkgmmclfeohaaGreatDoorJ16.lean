/- The program's chapter 13: who asks; whether a list is of what they need. -/
import Derived.Test.YtcgkgmmclfeohaaGreatDoorKr5
import Derived.Test.YtcgkgmmclfeohaaGreatDoorJ14
import Derived.Test.YtcgkgmmclfeohaaGreatDoorKs2
import Derived.Test.YtcgkgmmclfeohaaGreatDoorJ3
set_option maxRecDepth 20000
set_option maxHeartbeats 2000000
namespace Go.Proofs.YtcgkgmmclfeohaaGreatDoor
open Go.Proofs.Tryz
open Go.RowKit
variable{b:Bk}{nm:BA}{c:Int}{ls:List BA}{v:Value}
theorem Na(ha:AM (I3 b.bs))(hm:D7 (I3 b.bs) nm=true):Jt (I3 b.bs) nm=F3 b nm:=by
 obtain⟨hi,a2⟩:=BI hm;obtain⟨k,hk,a0,a1⟩:=IM (l:=I3 b.bs) (s:=nm) (by omega);obtain rfl:F3 b nm=k:=by omega
 refine Ux (Nat.le_of_lt a0) (λj x hj hx=>?_) (λj x hj hx=>?_)
 ·exact El ha (F3 b nm-j-1) j x nm hx (by rw[show j+1+(F3 b nm-j-1)=F3 b nm by omega,A0 a0,a1])
 ·by_cases e:j=F3 b nm
  ·subst e;rw[A0 a0,a1] at hx;obtain rfl:=A5 hx;exact DU _
  ·have h1:=El ha (j-F3 b nm-1) (F3 b nm) nm x (by rw[A0 a0,a1]) (by rw[show F3 b nm+1+(j-F3 b nm-1)=j by omega];exact hx);cases hq:Z9 x nm
   ·rfl
   ·have:=FV h1 hq;rw[DU] at this;cases this
def Y4(c:Int):Value:=if c=0 then .nilIface else .iface 91 (.agg #[.int .i64 c])
theorem Pw:Y4 0=.nilIface:=rfl
theorem Px(h:c≠0):Y4 c=.iface 91 (.agg #[Iz c]):=by simp[Y4,h]
noncomputable def O8(b:Bk)(nm:BA)(ls:List BA):Int:=if D7 (I3 b.bs) nm=false then 3 else if pB (J3 ls (N8 b nm))=false then 2 else 0
theorem Lg(hm:D7 (I3 b.bs) nm=false):O8 b nm ls=3:=by simp[O8,hm]
theorem Nd(hm:D7 (I3 b.bs) nm=true)(hp:pB (J3 ls (N8 b nm))=false):O8 b nm ls=2:=by simp[O8,hm,hp]
theorem IX(hm:D7 (I3 b.bs) nm=true)(hp:pB (J3 ls (N8 b nm))=true):O8 b nm ls=0:=by simp[O8,hm,hp]
theorem RV(all:List BA):pB (J3 [] all)=true:=Au ⟨λi x hi hx=>by simp at hx,λi a b hi ha=>by simp at ha⟩
theorem EL(h:Y4 c=v):Ending.returned v=.returned (Y4 c):=by rw[h]
theorem EM(nm:BA)(w:World):Calls prog 142 #[.agg #[Tz nm]] w λe w'=>e=.returned (Tz nm)/\Up w w':=by
 go_in;go_wp2;go_ret;exact⟨rfl,by go_grown⟩
theorem IH(b:Bk)(v:Value)(nm:BA)(lv:Value)(ls:List BA)(w:World)(h:K6 w v b)(hok:I8 b)(hl:Ls w lv ls):
  Calls prog 145 #[v,Tz nm,lv] w λe w'=>e=.returned (Y4 (O8 b nm ls))/\Up w w':=by
 obtain⟨a1,c1,a2,c2,rfl,-,h2⟩:=h.parts;obtain⟨la,lc,rfl,b0,-⟩:=id hl;unfold maxLen at b0;have b4:b.bs.length<=5:=hok.2.1;have hC:CB (w.alloc (Kz [Vz a1 (b).tg.length c1,Vz a2 (b).bs.length c2] 26)) w.heap.size [Vz a1 b.tg.length c1,Vz a2 b.bs.length c2]:=O7 w _ _;have a8:=(A4 w.heap.size w).alloc (A3 _) (Kz [Vz a1 (b).tg.length c1,Vz a2 (b).bs.length c2] 26);go_in;go_upto_region 1 with fail;generalize w.alloc (Kz [Vz a1 (b).tg.length c1,Vz a2 (b).bs.length c2] 26)=W1 at *;have b1:=hC.2.2;have hk:=h.up a8;obtain⟨d0,d1⟩:=hC.c2';go_wp2_with fail;refine (Ft b _ nm _ hk hok).mono ?_;rintro e w2 ⟨rfl,a9⟩;have a0:=D4 a8 a9;clear d0 d1;cases hm:D7 (I3 b.bs) nm
 ·have HC:Hid (Y4 (O8 b nm ls)=.iface 91 (.agg #[Iz 3])):=by show _=_;rw[Lg hm];rfl
  generalize Jt (I3 b.bs) nm=q at *;go_wp2_with fail;go_ret;exact⟨EL HC.out,a0⟩
 obtain⟨-,a7⟩:=BI hm;rw[Na hok.2.2.2.1 hm];have HN:Hid (N8 b nm=(b.bs[F3 b nm]).nd):=BL (A0 a7);have HT:Hid (pB (J3 ls (N8 b nm))=false->Y4 (O8 b nm ls)=.iface 91 (.agg #[Iz 2])):=λhp=>by rw[Nd hm hp];rfl
 have HY:Hid (pB (J3 ls (N8 b nm))=true->Y4 (O8 b nm ls)=.nilIface):=λhp=>by rw[IX hm hp];rfl
 generalize F3 b nm=p at *;obtain⟨-,a6⟩:=h2.at;obtain⟨bb,o,rfl,hS,hb⟩:=a6 (by omega);obtain⟨a3,d3,a4,d4,c3,c4,c5,l3,l4,z0⟩:=((hS.at a7).up a0 hb).cells;obtain⟨e0,e1⟩:=(hC.up a9 b1).c2';rw[HN.out] at HT HY;have b2:=hl.up a0;generalize b.bs[p]=x0 at *;clear hm HN;go_wp2_with fail;refine (ET ls x0.nd _ _ _ b2 l4).mono ?_;rintro e w3 ⟨rfl,b3⟩;have a5:=D4 a0 b3;clear c3 c4 c5 e0 e1;cases hp:pB (J3 ls x0.nd)
 ·have HC:Hid (Y4 (O8 b nm ls)=.iface 91 (.agg #[Iz 2])):=HT.out hp;go_wp2_with fail;go_ret;exact⟨EL HC.out,a5⟩
 ·have HC:Hid (Y4 (O8 b nm ls)=.nilIface):=HY.out hp;go_wp2_with fail;go_ret;exact⟨EL HC.out,a5⟩
theorem Uy(n:Nat)(nm:Value)(w:World):(Go.method (n+1) 66 (.agg #[nm]) "loop.example/maltrun/impl.who").run prog w=.ok (142,.agg #[nm]) w:=by kernel_rfl
theorem Uz(n:Nat)(nm x:Value)(w:World):(Go.method (n+1) 63 (.agg #[nm,x]) "loop.example/maltrun/impl.who").run prog w=.ok (142,.agg #[nm]) w:=by kernel_rfl
theorem UA(n:Nat)(nm x:Value)(w:World):(Go.method (n+1) 51 (.agg #[nm,x]) "loop.example/maltrun/impl.who").run prog w=.ok (142,.agg #[nm]) w:=by kernel_rfl
theorem UB(n:Nat)(nm x:Value)(w:World):(Go.method (n+1) 60 (.agg #[nm,x]) "loop.example/maltrun/impl.who").run prog w=.ok (142,.agg #[nm]) w:=by kernel_rfl
theorem Ahm(v:Value)(w:World):(Instr.typeAssert (.iface 66 v) 85 51 true).run prog w=.ok (.tuple #[.agg #[Ez,Nz],.bool false]) w:=by kernel_rfl
theorem Ahn(v:Value)(w:World):(Instr.typeAssert (.iface 66 v) 85 60 true).run prog w=.ok (.tuple #[.agg #[Ez,Nz],.bool false]) w:=by kernel_rfl
theorem Aho(v:Value)(w:World):(Instr.typeAssert (.iface 66 v) 85 63 true).run prog w=.ok (.tuple #[.agg #[Ez,Nz],.bool false]) w:=by kernel_rfl
theorem Ahp(v:Value)(w:World):(Instr.typeAssert (.iface 66 v) 85 66 true).run prog w=.ok (.tuple #[v,.bool true]) w:=by kernel_rfl
theorem Ahq(v:Value)(w:World):(Instr.typeAssert (.iface 63 v) 85 51 true).run prog w=.ok (.tuple #[.agg #[Ez,Nz],.bool false]) w:=by kernel_rfl
theorem Ahr(v:Value)(w:World):(Instr.typeAssert (.iface 63 v) 85 60 true).run prog w=.ok (.tuple #[.agg #[Ez,Nz],.bool false]) w:=by kernel_rfl
theorem Ahs(v:Value)(w:World):(Instr.typeAssert (.iface 63 v) 85 63 true).run prog w=.ok (.tuple #[v,.bool true]) w:=by kernel_rfl
theorem Aht(v:Value)(w:World):(Instr.typeAssert (.iface 60 v) 85 51 true).run prog w=.ok (.tuple #[.agg #[Ez,Nz],.bool false]) w:=by kernel_rfl
theorem Ahu(v:Value)(w:World):(Instr.typeAssert (.iface 60 v) 85 60 true).run prog w=.ok (.tuple #[v,.bool true]) w:=by kernel_rfl
theorem Ahv(v:Value)(w:World):(Instr.typeAssert (.iface 51 v) 85 51 true).run prog w=.ok (.tuple #[v,.bool true]) w:=by kernel_rfl
theorem RX(b:Bk)(v:Value)(nm:BA)(w:World)(h:K6 w v b)(hok:I8 b):
  Calls prog 148 #[.agg #[Tz nm],v] w λe w'=>e=.returned (Y4 (O8 b nm []))/\Up w w':=by
 obtain⟨a1,c1,a2,c2,rfl,-,-⟩:=h.parts;obtain⟨W1,a0,kA,kB,a3,a5⟩:=cbE2 w [Tz nm] 66 [Vz a1 (b).tg.length c1,Vz a2 (b).bs.length c2] 26;go_in;go_upto_region 1 with fail;try rw[a0]
 clear a0;have hk:=h.up a3;have e0:At W1 w.heap.size 0 (Tz nm):=kA.1 0 _ rfl;obtain⟨d0,d1⟩:=kB.c2';go_wp2_with fail;refine (IH b _ nm _ [] _ hk hok (Ls.nil _ _ _)).mono ?_;rintro e w2 ⟨rfl,a4⟩;clear d0 d1 e0;go_wp2_with fail;go_ret;exact⟨rfl,D4 a3 a4⟩
theorem TJ(b:Bk)(v:Value)(nm:BA)(lv:Value)(ls:List BA)(w:World)(h:K6 w v b)(hok:I8 b)(hl:Ls w lv ls):
  Calls prog 147 #[.agg #[Tz nm,lv],v] w λe w'=>e=.returned (Y4 (O8 b nm ls))/\Up w w':=by
 obtain⟨a1,c1,a2,c2,rfl,-,-⟩:=h.parts;obtain⟨la,lc,rfl,-⟩:=id hl;obtain⟨W1,a3,kA,kB,a0,a6⟩:=cbE2 w [Tz nm,Vz la ls.length lc] 63 [Vz a1 (b).tg.length c1,Vz a2 (b).bs.length c2] 26;go_in;go_upto_region 1 with fail;try rw[a3]
 clear a3;have hk:=h.up a0;have a4:=hl.up a0;obtain⟨e0,e1⟩:=kA.c2';obtain⟨d0,d1⟩:=kB.c2';go_wp2_with fail;refine (IH b _ nm _ ls _ hk hok a4).mono ?_;rintro e w2 ⟨rfl,a5⟩;clear d0 d1 e0 e1;go_wp2_with fail;go_ret;exact⟨rfl,D4 a0 a5⟩
theorem Yj(b:Bk)(v gv:Value)(at':Nat)(gone:List BA)(w:World)(h:K6 w v b)(hg:Ls w gv gone)(hat:at'<b.bs.length):
  Calls prog 87 #[v,Iz at',gv] w λe w'=>e=.returned (.bool (pB (ES b.bs at' gone)))/\Up w w':=by
 obtain⟨a1,c1,a2,c2,rfl,h1,h2⟩:=h.parts;have hC:CB (w.alloc (Kz [Vz a1 (b).tg.length c1,Vz a2 (b).bs.length c2] 26)) w.heap.size [Vz a1 b.tg.length c1,Vz a2 b.bs.length c2]:=O7 w _ _;have a7:=(A4 w.heap.size w).alloc (A3 _) (Kz [Vz a1 (b).tg.length c1,Vz a2 (b).bs.length c2] 26);have g2:=h2.at.1;unfold maxLen at g2;go_in;go_upto_region 1 with fail;generalize w.alloc (Kz [Vz a1 (b).tg.length c1,Vz a2 (b).bs.length c2] 26)=W1 at *;have l2:=h2.up a7;have lg:=hg.up a7;clear h h1 h2 hg;obtain⟨e0,e1⟩:=hC.c2';obtain⟨-,a8⟩:=l2.at;obtain⟨bb,o,rfl,hS,hb⟩:=a8 (by omega);obtain⟨a5,d5,a6,d6,-,-,c8,-,l6,-⟩:=(hS.at hat).cells;go_wp2_with fail;(try dsimp only[Iz,Sz,Sy,Nz,Vz,Tz,Ez,Pz]);go_loopw [7] (λi w'=>∃k m:Nat,k<=b.bs.length/\i=.int .i64 k/\Ds b.bs at' gone k/\w'=W1.drewN m) (λi _=>b.bs.length-(intOf i).toNat)
 case atStart=>exact⟨0,0,by omega,rfl,Ds.zero _ _ _,rfl⟩
 case round =>
  obtain⟨k,m,hk,rfl,a9,hw⟩:=hrel;have Hw:Hid (wr=W1.drewN m):=hw;have Hal:Hid (Ds b.bs at' gone k):=a9;have b2:Up W1 wr:=by rw[hw];exact N0 (A4 _ _) _
  clear hw a9;have f1:At wr w.heap.size 1 (Sy bb o b.bs.length c2):=by rw[Hw.out];exact e1
  by_cases hp:k<b.bs.length
  ·by_cases hka:k=at'
   ·subst hka;have Hs:Hid (Ds b.bs k gone (k+1)):=Hal.out.step hp hat (.inl rfl);go_wp2_with fail;go_quiet (fail);go_wp2_with fail;go_roundw
    case rel =>
     obtain⟨m',a0⟩:=AX (n:=nq) Hw.out;exact⟨k+1,m',by omega,by go_num,Hs.out,a0⟩
    case measure=>simp[intOf];omega
   have b5:((k:Int) != (at':Int))=true:=by rw[bne_iff_ne];omega
   obtain⟨a3,d3,a4,d4,c3,c4,-,l3,-,-⟩:=(hS.at hp).cells;have b6:At wr bb (o+k*3) (Tz (b.bs[k]).nm):=by rw[Hw.out];exact c3
   have b3:At wr bb (o+k*3+1) (Vz a3 (b.bs[k]).has.length d3):=by rw[Hw.out];exact c4
   have b4:At wr bb (o+at'*3+2) (Vz a6 (b.bs[at']).nd.length d6):=by rw[Hw.out];exact c8
   have HY:Hid (D7 gone (b.bs[k]).nm=true∨P3 (b.bs[k]).has (b.bs[at']).nd=false->Ds b.bs at' gone (k+1)):=λh=>Hal.out.step hp hat (.inr h);have HN:Hid (D7 gone (b.bs[k]).nm=false->P3 (b.bs[k]).has (b.bs[at']).nd=true->¬ES b.bs at' gone):=λh1 h2=>AeB hp hat hka h1 h2;have R1:Hid (∀n,Calls prog 34 #[gv,Tz (b.bs[k]).nm] (wr.drewN n) λe w''=>e=.returned (.bool (D7 gone (b.bs[k]).nm))/\∃m,w''=wr.drewN m):=λn=>Calls.quiet_of_same (Ch gone gv _ _ (by have e:=Hw.out;subst e;exact lg));have R2:Hid (∀n,Calls prog 51 #[Vz a3 (b.bs[k]).has.length d3,Vz a6 (b.bs[at']).nd.length d6] (wr.drewN n) λe w''=>e=.returned (.bool (P3 (b.bs[k]).has (b.bs[at']).nd))/\∃m,w''=wr.drewN m):=λn=>Calls.quiet_of_same (FM _ _ _ _ _ (by have e:=Hw.out;subst e;exact l3) (by have e:=Hw.out;subst e;exact l6));clear c3 c4 l3;generalize b.bs[k]=x0 at *;generalize b.bs[at']=y0 at *;obtain⟨hv,b0⟩:∃hv,Vz a3 x0.has.length d3=hv:=⟨_,rfl⟩;obtain⟨nv,b1⟩:∃nv,Vz a6 y0.nd.length d6=nv:=⟨_,rfl⟩;rw[b0] at b3 R2;rw[b1] at b4 R2;clear b0 b1;cases hm:D7 gone x0.nm
   case true =>
    have Hs:Hid (Ds b.bs at' gone (k+1)):=HY.out (.inl hm);have Q1:Hid (∀n,Calls prog 34 #[gv,Tz x0.nm] (wr.drewN n) λe w''=>e=.returned (.bool true)/\∃m,w''=wr.drewN m):=by have:=R1.out;rw[hm] at this;exact this
    have q1:=Q1.out;clear Q1 R1 R2 HY HN;go_wp2_with fail;go_quiet ((go_at_call 34;exact q1 _))
    go_wp2_with fail;go_roundw
    case rel =>
     obtain⟨m',a0⟩:=AX (n:=nq) Hw.out;exact⟨k+1,m',by omega,by go_num,Hs.out,a0⟩
    case measure=>simp[intOf];omega
   have Q1:Hid (∀n,Calls prog 34 #[gv,Tz x0.nm] (wr.drewN n) λe w''=>e=.returned (.bool false)/\∃m,w''=wr.drewN m):=by have:=R1.out;rw[hm] at this;exact this
   cases hs:P3 x0.has y0.nd
   ·have Hs:Hid (Ds b.bs at' gone (k+1)):=HY.out (.inr hs);have Q2:Hid (∀n,Calls prog 51 #[hv,nv] (wr.drewN n) λe w''=>e=.returned (.bool false)/\∃m,w''=wr.drewN m):=by have:=R2.out;rw[hs] at this;exact this
    have q1:=Q1.out;have q2:=Q2.out;clear Q1 Q2 R1 R2 HY HN;go_wp2_with fail;go_quiet ((first|(go_at_call 34;exact q1 _)|(go_at_call 51;exact q2 _)))
    go_wp2_with fail;go_roundw
    case rel =>
     obtain⟨m',a0⟩:=AX (n:=nq) Hw.out;exact⟨k+1,m',by omega,by go_num,Hs.out,a0⟩
    case measure=>simp[intOf];omega
   ·have Hs:Hid (¬ES b.bs at' gone):=HN.out hm hs;have Q2:Hid (∀n,Calls prog 51 #[hv,nv] (wr.drewN n) λe w''=>e=.returned (.bool true)/\∃m,w''=wr.drewN m):=by have:=R2.out;rw[hs] at this;exact this
    have q1:=Q1.out;have q2:=Q2.out;clear Q1 Q2 R1 R2 HY HN;go_wp2_with fail;go_quiet ((first|(go_at_call 34;exact q1 _)|(go_at_call 51;exact q2 _)))
    go_wp2_with fail;go_ret;exact⟨J5 (AL Hs.out).symm,D4 a7 (N0 b2 _)⟩
  ·have Hs:Hid (ES b.bs at' gone):=Ac5 Hal.out hp;go_wp2_with fail;go_ret;exact⟨J5 (Au Hs.out).symm,D4 a7 b2⟩
end Go.Proofs.YtcgkgmmclfeohaaGreatDoor
