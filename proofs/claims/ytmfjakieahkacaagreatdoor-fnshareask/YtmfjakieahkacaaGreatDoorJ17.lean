/- Books that change, in plain: needing less, asking. -/
import Derived.Test.YtmfjakieahkacaaGreatDoorJ8
import Derived.Test.YtmfjakieahkacaaGreatDoorJ11
import Derived.Test.YtmfjakieahkacaaGreatDoorKr5
import Derived.Test.YtmfjakieahkacaaGreatDoorJ14
import Derived.OpenShut
import Derived.Deep.MidRow
import Derived.Test.YtmfjakieahkacaaGreatDoorKp7
import Derived.Test.YtmfjakieahkacaaGreatDoorJ2
import Derived.Test.YtmfjakieahkacaaGreatDoorRf2
import Derived.OwnWalkIn
import Derived.TacticsIn
import Derived.TacticsInMore
import Derived.LoopIn
import Derived.RegionIn
import Derived.WalkKit
import Derived.Deep.RegionWith
import Derived.Shelf.RegionOpen
import Derived.Test.YtmfjakieahkacaaGreatDoorKt4
import Derived.Test.YtmfjakieahkacaaGreatDoorJ9
import Derived.Laws.OwnMore
set_option maxRecDepth 20000
set_option maxHeartbeats 2000000
namespace Go.Proofs.YtmfjakieahkacaaGreatDoor
def X8(b:Bk)(p:Nat)(f:Ba->Ba):Bk:=match b.bs[p]? with
 | some x=>⟨b.tg,b.bs.set p (f x)⟩
 | none=>b
theorem Ck{b:Bk}{p:Nat}{f:Ba->Ba}{x:Ba}(h:b.bs[p]?=some x):X8 b p f=⟨b.tg,b.bs.set p (f x)⟩:=by simp[X8,h]
def O6(b:Bk)(nm:ByteArray):List ByteArray:=((b.bs[I3 b nm]?).map (·.nd)).getD []
theorem BO{b:Bk}{nm:ByteArray}{x:Ba}(h:b.bs[I3 b nm]?=some x):O6 b nm=x.nd:=by simp[O6,h]
def Cd(nd:List ByteArray)(x:Ba):Ba:=⟨x.nm,x.has.filter (D2 nd),nd⟩
def U1(has tg:List ByteArray):List ByteArray:=tg.foldl S4 has
def N6(tg:List ByteArray)(x:Ba):Ba:=⟨x.nm,U1 x.has tg,x.nd⟩
theorem QO(has tg:List ByteArray)(k:Nat)(hk:k<tg.length):U1 has (tg.take (k+1))=S4 (U1 has (tg.take k)) tg[k]:=by
 unfold U1;rw[A7 hk,List.foldl_append];rfl
theorem Hf(has:List ByteArray):∀tg:List ByteArray,(U1 has tg).length<=has.length+tg.length:=by
 intro tg;induction tg generalizing has with
 | nil=>simp[U1]
 | cons x r ih =>
  have h1:=ih (S4 has x);have h2:=Xe has x;simp only[U1,List.foldl_cons,List.length_cons] at *;omega
theorem Xk(ss:List ByteArray)(x:ByteArray):∀s∈S4 ss x,s∈ss∨s=x:=by
 induction ss with
 | nil=>intro s hs;simp[S4] at hs;exact .inr hs
 | cons y r ih =>
  intro s hs;simp only[S4] at hs;split at hs
  ·rcases List.mem_cons.1 hs with h|h
   ·exact .inl (by simp[h])
   ·rcases ih s h with h|h
    ·exact .inl (by simp[h])
    ·exact .inr h
  ·split at hs
   ·exact .inl hs
   ·rcases List.mem_cons.1 hs with h|h
    ·exact .inr h
    ·exact .inl h
theorem DY(has:List ByteArray):∀tg:List ByteArray,∀s∈U1 has tg,s∈has∨s∈tg:=by
 intro tg;induction tg generalizing has with
 | nil=>intro s hs;exact .inl hs
 | cons x r ih =>
  intro s hs;rcases ih (S4 has x) s hs with h|h
  ·rcases Xk has x s h with h|h
   ·exact .inl h
   ·exact .inr (by simp[h])
  ·exact .inr (by simp[h])
noncomputable def BC(b:Bk)(nm:ByteArray)(nd:List ByteArray):Int :=
 if I1 b=false then 1 else if D2 (I9 b.bs) nm=false then 3 else if pB (J9 nd (O6 b nm))=false then 2 else 0
noncomputable def AX(b:Bk)(nm:ByteArray)(nd:List ByteArray):Bk :=
 if I1 b=false then S7 else if BC b nm nd=0 then X8 b (I3 b nm) (Cd nd) else b
theorem RC{b:Bk}{nm:ByteArray}{nd:List ByteArray}(h:I1 b=false):BC b nm nd=1/\AX b nm nd=S7:=by simp[BC,AX,h]
theorem Nd{b:Bk}{nm:ByteArray}{nd:List ByteArray}(h:I1 b=true)(hm:D2 (I9 b.bs) nm=false):BC b nm nd=3/\AX b nm nd=b:=by simp[BC,AX,h,hm]
theorem Pr{b:Bk}{nm:ByteArray}{nd:List ByteArray}(h:I1 b=true)(hm:D2 (I9 b.bs) nm=true)(hp:pB (J9 nd (O6 b nm))=false):BC b nm nd=2/\AX b nm nd=b:=by simp[BC,AX,h,hm,hp]
theorem Ps{b:Bk}{nm:ByteArray}{nd:List ByteArray}(h:I1 b=true)(hm:D2 (I9 b.bs) nm=true)(hp:pB (J9 nd (O6 b nm))=true):BC b nm nd=0/\AX b nm nd=X8 b (I3 b nm) (Cd nd):=by
 have hc:BC b nm nd=0:=by simp[BC,h,hm,hp]
 exact⟨hc,by rw[AX,h,if_neg (by simp),if_pos hc]⟩
theorem QR{ss:List ByteArray}{f:ByteArray->Bool}{k:Nat}(hk:k<ss.length):(ss.take (k+1)).filter f=(ss.take k).filter f++(if f ss[k]=true then [ss[k]] else []):=by
 rw[A7 hk,List.filter_append];congr 1
 by_cases h:f ss[k]=true
 ·simp[h]
 ·simp[h]
end Go.Proofs.YtmfjakieahkacaaGreatDoor
namespace Go.Proofs.YtmfjakieahkacaaGreatDoor
open Go.RowKit
theorem UW{b:Bk}{nm:ByteArray}(ha:Bg (I9 b.bs))(hm:D2 (I9 b.bs) nm=true):Mb (I9 b.bs) nm=I3 b nm:=by
 obtain⟨hi,hlt⟩:=Dv hm;obtain⟨k,hk,hkl,hkn⟩:=Fm (l:=I9 b.bs) (s:=nm) (by omega);obtain rfl:I3 b nm=k:=by omega
 refine RB (Nat.le_of_lt hkl) (λj x hj hx=>?_) (λj x hj hx=>?_)
 ·exact Dr ha (I3 b nm-j-1) j x nm hx (by rw[show j+1+(I3 b nm-j-1)=I3 b nm by omega,A0 hkl,hkn])
 ·by_cases e:j=I3 b nm
  ·subst e;rw[A0 hkl,hkn] at hx;obtain rfl:=A5 hx;exact Dg _
  ·have h1:=Dr ha (j-I3 b nm-1) (I3 b nm) nm x (by rw[A0 hkl,hkn]) (by rw[show I3 b nm+1+(j-I3 b nm-1)=j by omega];exact hx);cases hq:Z9 x nm
   ·rfl
   ·have:=FW h1 hq;rw[Dg] at this;cases this
def AO(c:Int):Value:=if c=0 then .nilIface else .iface 78 (.agg #[.int .i64 c])
theorem Nf:AO 0=.nilIface:=rfl
theorem Ng{c:Int}(h:c≠0):AO c=.iface 78 (.agg #[.int .i64 c]):=by simp[AO,h]
noncomputable def Y0(b:Bk)(nm:ByteArray)(ls:List ByteArray):Int:=if D2 (I9 b.bs) nm=false then 3 else if pB (J9 ls (O6 b nm))=false then 2 else 0
theorem Jw{b:Bk}{nm:ByteArray}{ls:List ByteArray}(hm:D2 (I9 b.bs) nm=false):Y0 b nm ls=3:=by simp[Y0,hm]
theorem KZ{b:Bk}{nm:ByteArray}{ls:List ByteArray}(hm:D2 (I9 b.bs) nm=true)(hp:pB (J9 ls (O6 b nm))=false):Y0 b nm ls=2:=by simp[Y0,hm,hp]
theorem La{b:Bk}{nm:ByteArray}{ls:List ByteArray}(hm:D2 (I9 b.bs) nm=true)(hp:pB (J9 ls (O6 b nm))=true):Y0 b nm ls=0:=by simp[Y0,hm,hp]
theorem Md{v:Value}{c:Int}(h:AO c=v):Ending.returned v=.returned (AO c):=by rw[h]
theorem IW(nm:ByteArray)(w:World):Calls Tryz.prog 148 #[.agg #[.string nm]] w λe w'=>e=.returned (.string nm)/\Below w.heap.size w w':=by
 go_enter Tryz.func148,Tryz.ntmps148;go_wp2;go_ret;exact⟨rfl,by go_grown⟩
theorem QU(b:Bk)(v:Value)(nm:ByteArray)(lv:Value)(ls:List ByteArray)(w:World)(h:K0 w v b)(hok:J0 b)(hl:Ls w lv ls):
  Calls Tryz.prog 150 #[v,.string nm,lv] w λe w'=>e=.returned (AO (Y0 b nm ls))/\Below w.heap.size w w':=by
 obtain⟨a1,c1,a2,c2,rfl,-,h2⟩:=h.parts;obtain⟨la,lc,rfl,hln,-⟩:=id hl;unfold maxLen at hln;have hn5:b.bs.length<=5:=hok.2.1;have hC:CB (w.alloc (.cells #[.slice a1 (b).tg.length c1,.slice a2 (b).bs.length c2] 26)) w.heap.size [.slice a1 b.tg.length c1,.slice a2 b.bs.length c2]:=T6 w _ _;have hB0:=(A4 w.heap.size w).alloc (A3 _) (.cells #[.slice a1 (b).tg.length c1,.slice a2 (b).bs.length c2] 26);go_enter Tryz.func150,Tryz.ntmps150;go_upto_region 1 with fail;generalize w.alloc (.cells #[.slice a1 (b).tg.length c1,.slice a2 (b).bs.length c2] 26)=W1 at *;have hlt:=hC.2.2;have hk:=h.up hB0;obtain⟨d0,d1⟩:=hC.c2';go_wp2_with fail;refine (Pm b _ nm _ hk hok).mono ?_;rintro e w2 ⟨rfl,hB2⟩;have hB02:=D1 hB0 hB2;clear d0 d1;cases hm:D2 (I9 b.bs) nm
 ·have HC:Hid (AO (Y0 b nm ls)=.iface 78 (.agg #[.int .i64 3])):=by show _=_;rw[Jw hm];rfl
  generalize Mb (I9 b.bs) nm=q at *;go_wp2_with fail;go_ret;exact⟨Md HC.out,hB02⟩
 obtain⟨-,hpl⟩:=Dv hm;rw[UW hok.2.2.2.1 hm];have HN:Hid (O6 b nm=(b.bs[I3 b nm]).nd):=BO (A0 hpl);have HT:Hid (pB (J9 ls (O6 b nm))=false->AO (Y0 b nm ls)=.iface 78 (.agg #[.int .i64 2])):=λhp=>by rw[KZ hm hp];rfl
 have HY:Hid (pB (J9 ls (O6 b nm))=true->AO (Y0 b nm ls)=.nilIface):=λhp=>by rw[La hm hp];rfl
 generalize I3 b nm=p at *;obtain⟨-,hpos⟩:=h2.at;obtain⟨bb,o,rfl,hS,hb⟩:=hpos (by omega);obtain⟨a3,d3,a4,d4,c3,c4,c5,l3,l4,z0⟩:=((hS.at hpl).up hB02 hb).cells;obtain⟨e0,e1⟩:=(hC.up hB2 hlt).c2';rw[HN.out] at HT HY;have hl2:=hl.up hB02;generalize b.bs[p]=x0 at *;clear hm HN;go_wp2_with fail;refine (EZ ls x0.nd _ _ _ hl2 l4).mono ?_;rintro e w3 ⟨rfl,hB3⟩;have hB03:=D1 hB02 hB3;clear c3 c4 c5 e0 e1;cases hp:pB (J9 ls x0.nd)
 ·have HC:Hid (AO (Y0 b nm ls)=.iface 78 (.agg #[.int .i64 2])):=HT.out hp;go_wp2_with fail;go_ret;exact⟨Md HC.out,hB03⟩
 ·have HC:Hid (AO (Y0 b nm ls)=.nilIface):=HY.out hp;go_wp2_with fail;go_ret;exact⟨Md HC.out,hB03⟩
theorem RD(n:Nat)(nm x:Value)(w:World):(Go.method (n+1) 44 (.agg #[nm,x]) "loop.example/maltrun/impl.who").run Tryz.prog w=.ok (148,.agg #[nm]) w:=by kernel_rfl
theorem Ac4(v:Value)(w:World):(Instr.typeAssert (.iface 44 v) 72 146 true).run Tryz.prog w=.ok (.tuple #[.agg #[.string ⟨#[]⟩,.slice none 0 0],.bool false]) w:=by kernel_rfl
theorem Ac5(v:Value)(w:World):(Instr.typeAssert (.iface 44 v) 72 44 true).run Tryz.prog w=.ok (.tuple #[v,.bool true]) w:=by kernel_rfl
end Go.Proofs.YtmfjakieahkacaaGreatDoor
namespace Go.Proofs.YtmfjakieahkacaaGreatDoor
open Go.ChangeShapes Go.WideShapes Go.ChangeAt Go.RowKit
theorem UX:Tryz.prog.cellsOf 5=1:=by kernel_rfl
theorem NR{H:Type}{enc:TypeId×Value->H}{W:World}{base:Nat}{sp:Nat->Bool}{held:Bool}{v:Value}{d:DataW H}{p:List MemPlace}(hv:∃a l c,v=.slice a l c)
  (h:DataW.Trod enc Tryz.prog W base sp held 22 v d p):∃(a:Option Addr)(l c:Nat),v=.slice a l c/\Y4 W W.heap.size (.slice a l c) l/\l<=c/\c<=maxLen:=by
 obtain⟨a0,l0,k0,rfl⟩:=hv;obtain⟨fuel,hf⟩:=h;rcases open_ints Tryz.underlying22 Tryz.underlying5 UX hf with⟨hcs,_⟩|⟨a,len,cap,zs,hcs,_,hl,hm,hz,_,hcell,hwf⟩
 ·have:Value.slice a0 l0 k0=.slice none 0 0:=by simpa [Value.cells] using hcs
  rw[this];exact⟨none,0,0,rfl,⟨none,0,rfl,.inl rfl⟩,A3 _,Nat.zero_le _⟩
 ·have:Value.slice a0 l0 k0=.slice (some a) len cap:=by simpa [Value.cells] using hcs
  rw[this];refine⟨some a,len,cap,rfl,⟨some a,cap,rfl,?_⟩,hl,hm⟩;rcases C3 len with h0|h0
  ·exact .inl h0
  ·have hlz:len<=zs.length:=by rw[hz];split<;>omega
   obtain⟨b,o,spot⟩:=a;have c0:=hcell 0 (by omega);have hs:spot=none:=by simpa [Addr.add] using World.cell?_spot c0
   subst hs;refine .inr ⟨b,o,λi=>zs.getD i 0,rfl,World.block_lt_of_cell? W _ c0,λi hi=>⟨?_,?_⟩⟩
   ·have:=hcell i (by omega);rwa [Addr.add_mid] at this
   ·have:=range_u8 hwf i;simpa [List.getD_eq_getElem?_getD] using this
end Go.Proofs.YtmfjakieahkacaaGreatDoor
namespace Go.Proofs.YtmfjakieahkacaaGreatDoor
open Go.RowKit
def Cl(ts:List Tr)(gone:List ByteArray):Prop:=∀(i:Nat)(p:Tr),ts[i]?=some p->p.2=D2 gone p.1.nm
theorem UY(l:List ByteArray)(s t:ByteArray):D2 (l++[s]) t=(D2 l t || (s.toList==t.toList)):=by simp[D2]
theorem Nh{bs:List Ba}(ha:Bg (I9 bs)){ts:List Tr}(h:ts.map (·.1)=bs){gone:List ByteArray}(hG:Cl ts gone){n:Nat}{p:Tr}(hp:ts[n]?=some p):Cl (ts.set n (p.1,true)) (gone++[p.1.nm]):=λi q hq=>by
 rw[UY];by_cases e:n=i
 ·subst e;rw[List.getElem?_set,if_pos rfl,if_pos (A2.1 hp).1] at hq;obtain rfl:=A5 hq;simp
 ·rw[List.getElem?_set,if_neg e] at hq;rw[hG i q hq]
  have:(p.1.nm.toList==q.1.nm.toList)=false:=by
   rw[← Bool.not_eq_true,beq_iff_eq];intro h1;refine e (GB ha (a:=p.1.nm) ?_ ?_)
   ·rw[I9,A9,Dt h hp];rfl
   ·rw[I9,A9,Dt h hq,EG h1];rfl
  rw[this,Bool.or_false]
theorem RE{bs:List Ba}{ts:List Tr}(h:ts.map (·.1)=bs){n:Nat}{p:Tr}(hp:ts[n]?=some p):(ts.set n (p.1,true)).map (·.1)=bs:=by
 rw[List.map_set,h];have:=Dt h hp;obtain⟨hn,e⟩:=A2.1 this;show bs.set n p.1=bs
 rw[← e,List.set_getElem_self]
theorem UZ{bs:List Ba}{ts:List Tr}(h:ts.map (·.1)=bs){n:Nat}(hn:n<bs.length):∃p,ts[n]?=some p/\p.1=bs[n]:=by
 have hl:n<ts.length:=by rw[← h] at hn;simpa using hn
 refine⟨ts[n],A0 hl,?_⟩;have:=Dt h (A0 hl);rw[A0 hn] at this;exact (A5 this).symm
theorem Ni(bs:List Ba)(k:Nat):Cl (V6 bs k) []:=λi p hp=>by
 rw[V6,A9,B6] at hp;obtain⟨x,_,rfl⟩:=hp;rfl
theorem Xl{b:Bk}(hok:J0 b){ts:List Tr}(h:ts.map (·.1)=b.bs){gone:List ByteArray}(hG:Cl ts gone){a:Nat}{p:Tr}(hp:ts[a]?=some p):
  (!p.2&&decide (F0 b.tg (D2 p.1.nd) &&& (18446744073709551615-(F0 b.tg (P6 ts)+F0 b.tg (D2 p.1.has)))=0))=true↔Good b.bs gone a:=by
 have hb:=Dt h hp;rw[Bool.and_eq_true,Bool.not_eq_true',decide_eq_true_eq];constructor
 ·rintro⟨h1,h2⟩;exact⟨p.1,hb,by rw[← hG a p hp];exact h1,(Jr hok h hG hp h1).1 h2⟩
 ·rintro⟨x,hx,h1,h2⟩;rw[hb] at hx;obtain rfl:=A5 hx;have h3:p.2=false:=by rw[hG a p hp];exact h1
  exact⟨h3,(Jr hok h hG hp h3).2 h2⟩
theorem Nj(tb:Nat)(b:Bk)(ts:List Tr)(gone:List ByteArray)(w:World)(h:AK w tb b.tg ts)(hok:J0 b)(hm:ts.map (·.1)=b.bs)(hG:Cl ts gone):
  Calls Tryz.prog 70 #[.pointer (some ⟨tb,0,none⟩)] w λe w'=>((∃k:Nat,e=.returned (.tuple #[.int .i64 k,.bool true])/\Y6 b.bs gone (k:Int))∨(e=.returned (.tuple #[.int .i64 0,.bool false])/\Y6 b.bs gone (-1)))/\Below w.heap.size w w':=by
 have hT:=h;obtain⟨rv,hC,hown⟩:=h;have h8:=hok.1.1;have hlb:ts.length=b.bs.length:=by rw[← hm];simp
 have h5:ts.length<=5:=by have:=hok.2.1;omega
 have Hlb:Hid (ts.length=b.bs.length):=hlb;have HG:Hid (∀(a:Nat)(p:Tr),ts[a]?=some p->((!p.2&&decide (F0 b.tg (D2 p.1.nd) &&& (18446744073709551615-(F0 b.tg (P6 ts)+F0 b.tg (D2 p.1.has)))=0))=true↔Good b.bs gone a)):=λa p hp=>Xl hok hm hG hp
 obtain⟨rva,rvc,rfl⟩:∃a c,rv=.slice a ts.length c:=by
  rcases hown.2 with⟨h0,h1⟩|⟨g,cap,_,hv,_⟩
  ·exact⟨none,0,by rw[h0,h1]⟩
  ·exact⟨_,cap,hv⟩
 obtain⟨t0,t1⟩:=hC.c2';clear hC hown hlb hok hm hG;go_enter Tryz.func70,Tryz.ntmps70;go_wp2_with fail;go_loopw [4,10] (λ_ i w'=>∃k:Nat,k<=ts.length/\i=.int .i64 k/\(∀j,j<k->¬Good b.bs gone j)/\Below w.heap.size w w') (λ_ i _=>ts.length-(intOf i).toNat)
 case atStart=>exact⟨0,by omega,rfl,λj hj=>by omega,A4 _ _⟩
 case round =>
  obtain⟨k,hk,rfl,hal,hB⟩:=hrel;have Hal:Hid (∀j,j<k->¬Good b.bs gone j):=hal;clear hal;by_cases hp:k<ts.length
  ·have hpk:=A0 hp;have HI:=HG.out k _ hpk;have HI':Hid ((!(ts[k]).2&&decide (F0 b.tg (D2 (ts[k]).1.nd) &&& (18446744073709551615-(F0 b.tg (P6 ts)+F0 b.tg (D2 (ts[k]).1.has)))=0))=true↔Good b.bs gone k):=HI;clear HI;go_wp2_with fail;refine (Rz tb k b.tg ts _ _ (hT.up hB) h8 hpk h5).mono ?_;rintro e w2 ⟨rfl,hb2⟩;have hB2:=D1 hB hb2;clear hB hb2;revert HI'
   generalize (!(ts[k]).2&&decide (F0 b.tg (D2 (ts[k]).1.nd) &&& (18446744073709551615-(F0 b.tg (P6 ts)+F0 b.tg (D2 (ts[k]).1.has)))=0))=cb;intro HI';cases cb
   ·have Hs:Hid (∀j,j<k+1->¬Good b.bs gone j):=Ev Hal.out λh=>by have:=HI'.out.2 h;cases this
    clear HI' HG;go_wp2_with fail;go_roundw
    case rel=>exact⟨k+1,by omega,by go_num,Hs.out,hB2⟩
    case measure=>simp[intOf];omega
   ·have Hs:Hid (Y6 b.bs gone (k:Int)):=.inr ⟨k,rfl,by have:=Hlb.out;omega,HI'.out.1 rfl,Hal.out⟩;clear HI' HG;go_wp2_with fail;go_returns
    exact⟨.inl ⟨k,rfl,Hs.out⟩,hB2⟩
  ·have Hs:Hid (Y6 b.bs gone (-1)):=.inl ⟨rfl,λj hj=>Hal.out j (by have:=Hlb.out;omega)⟩;go_wp2_with fail;go_returns
   exact⟨.inr ⟨rfl,Hs.out⟩,hB⟩
theorem Nk(tb at':Nat)(tg:List ByteArray)(ts:List Tr)(p:Tr)(bs:List Ba)(w:World)(h:AK w tb tg ts)(h8:tg.length<=8)(hp:ts[at']?=some p)(hg:p.2=false)(hm:ts.map (·.1)=bs)(ha:CO bs)(h5:ts.length<=5):
  Calls Tryz.prog 52 #[.pointer (some ⟨tb,0,none⟩),.int .i64 at'] w λe w'=>(∃v,e=.returned v)/\AK w' tb tg (ts.set at' (p.1,true))/\Below tb w w'/\∀(base:Nat)(u:Value)(ss:List ByteArray),E5 w base u ss->tb<base->E5 w' base u ss:=by
 obtain⟨rv,hC,hown⟩:=h;have hi:=(A2.1 hp).1;obtain⟨g,cap,rfl⟩:=T7 hown (by omega);have hg0:=(hown.lt g rfl).1;obtain⟨r0,r1,r2,r3⟩:=DM hown hp;obtain⟨⟨t0,t1⟩,u0,u1⟩:=hC.c2;have n1:=S2 h8 (D2 p.1.has);have n3:=S2 h8 (P6 ts);have hfr:=SM ha hm hp hg tg;have f3:=hown.frozenAt (at'*4+3);have hst:=hown.stored (at'*4+3) (.bool true);rw[ML tg ts at' p hp] at hst;obtain⟨W1,hW1,hown1,hgr⟩:∃W1,w.setCell ⟨g,at'*4+3,none⟩ (.bool true)=W1/\W1.ownsRow (tb+1) 95 4 (.slice (some ⟨g,0,none⟩) ts.length cap) ts.length (Ai tg (ts.set at' (p.1,true)))/\w.grownBy W1 (some g):=⟨_,rfl,hst.1,hst.2⟩;clear hst;have hC1:=hC.kept hgr (by simp;omega);have hl1:(ts.set at' (p.1,true)).length=ts.length:=List.length_set;have hown1':W1.ownsRow (tb+1) 95 4 (.slice (some ⟨g,0,none⟩) (ts.set at' (p.1,true)).length cap) (ts.set at' (p.1,true)).length (Ai tg (ts.set at' (p.1,true))):=by rw[hl1];exact hown1
 obtain⟨-,s1,-,-⟩:=DM hown1' (i:=at') (p:=(p.1,true)) (by rw[List.getElem?_set,if_pos rfl,if_pos hi]);have hT:∀x,CB x tb [.slice (some ⟨g,0,none⟩) ts.length cap,.int .u64 (F0 tg (P6 (ts.set at' (p.1,true))):Nat)]->W1.grownBy x (some tb)->AK x tb tg (ts.set at' (p.1,true)):=λx h1 h2=>⟨_,h1,by rw[hl1];exact G9 hown1 h2 (by omega)⟩;have HT:Hid (∀x,CB x tb [.slice (some ⟨g,0,none⟩) ts.length cap,.int .u64 (F0 tg (P6 (ts.set at' (p.1,true))):Nat)]->W1.grownBy x (some tb)->AK x tb tg (ts.set at' (p.1,true))):=hT;have hB1:Below tb w W1:=⟨hgr.os,hgr.tape,hgr.output,hgr.size,λi hi=>hgr.block i (Nat.lt_trans hi hC.2.2) (by simp;omega)⟩
 have HO:Hid (∀(base:Nat)(u:Value)(ss:List ByteArray),E5 w base u ss->tb<base->E5 W1 base u ss):=λbase u ss q1 q2=>Pk q1 hgr λg' hg'=>by
  have:=MY q1 hown (by decide) g' hg';simpa [Value.ownBlock] using this
 clear hT hown1 hown1' hgr hown;generalize F0 tg (P6 (ts.set at' (p.1,true)))=fb2 at *;generalize F0 tg (D2 p.1.has)=hb at *;generalize F0 tg (P6 ts)=fb at *;have hadd:IntKind.u64.wrap ((fb:Int)+(hb:Int))=(fb2:Int):=by rw[DX (by omega) (by omega)];omega
 go_enter Tryz.func52,Tryz.ntmps52;go_upto_region 1 with fail;try rw[hW1]
 clear hW1 r0 r1 r2 r3 t0 t1 u0 u1 f3;obtain⟨⟨t0,t1⟩,u0,u1⟩:=hC1.c2;have hC2:CB ((W1.setCell ⟨tb,1,none⟩ (.int .u64 (fb2:Nat))).drew) tb [.slice (some ⟨g,0,none⟩) ts.length cap,.int .u64 (fb2:Nat)]:=CB.set (j:=1) hC1 (by simp);have HTx:Hid (AK ((W1.setCell ⟨tb,1,none⟩ (.int .u64 (fb2:Nat))).drew) tb tg (ts.set at' (p.1,true))):=HT.out _ hC2 (DS (E3 (F7 _ _) _));have HBx:Hid (Below tb w ((W1.setCell ⟨tb,1,none⟩ (.int .u64 (fb2:Nat))).drew)):=(hB1.setCell (p:=⟨tb,1,none⟩) (A3 _) _).drew;clear hC2 HT;go_wp2_with fail;go_region
 go_end0
 exact⟨⟨_,rfl⟩,HTx.out,HBx.out,λbase u ss q1 q2=>G9 (HO.out base u ss q1 q2) (DS (E3 (F7 _ _) _)) q2⟩
end Go.Proofs.YtmfjakieahkacaaGreatDoor
namespace Go.Proofs.YtmfjakieahkacaaGreatDoor
open Go Go.RowKit Go.Shelf
attribute [local go_sem] Oper.semAt_some
theorem CB.c1'{w:World}{b:Nat}{x0:Value}(h:CB w b [x0]):w.cell? ⟨b,0,none⟩=some x0/\w.frozen? ⟨b,0,none⟩=false:=⟨h.1 0 _ rfl,(h.2.1 0 (by simp)).2⟩
theorem Xm{Z:World}{r:Nat}{x:Value}(h:Z.cell? ⟨r,0,none⟩=some x):(loadVar 23 ⟨r,0,none⟩).run Tryz.prog Z=.ok x Z:=by
 simp[loadVar,isAgg,h,go_sem]
theorem Xn{Z:World}{r:Nat}{x:Value}(h:Z.cell? ⟨r,0,none⟩=some x):(loadVar 4 ⟨r,0,none⟩).run Tryz.prog Z=.ok x Z:=by
 simp[loadVar,isAgg,h,go_sem]
theorem Tc{P:Program}{fn:Func}{q q2:Tmp}{T T2:TypeId}(h:fn.results=#[.cell q T,.cell q2 T2]){tmps:Array Value}{Z:World}{r r2:Nat}{x y:Value}
  (ht:tmps.getD q undef=.pointer (some ⟨r,0,none⟩)) (ht2:tmps.getD q2 undef=.pointer (some ⟨r2,0,none⟩)) (hZ:(loadVar T ⟨r,0,none⟩).run P Z=.ok x Z) (hZ2:(loadVar T2 ⟨r2,0,none⟩).run P Z=.ok y Z):(results fn tmps).run P Z=.ok (.tuple #[x,y]) Z:=by
 have ha:(asAddr (.pointer (some ⟨r,0,none⟩))).run P Z=.ok ⟨r,0,none⟩ Z:=by simp[go_sem]
 have ha2:(asAddr (.pointer (some ⟨r2,0,none⟩))).run P Z=.ok ⟨r2,0,none⟩ Z:=by simp[go_sem]
 have ht':tmps[q]?.getD undef=.pointer (some ⟨r,0,none⟩):=by simpa using ht
 have ht2':tmps[q2]?.getD undef=.pointer (some ⟨r2,0,none⟩):=by simpa using ht2
 simp only[results,h];simp[Sem.run_bind,Result.andThen,ht',ht2',ha,ha2,hZ,hZ2]
end Go.Proofs.YtmfjakieahkacaaGreatDoor
namespace Go.Proofs.YtmfjakieahkacaaGreatDoor
open Go.RowKit
theorem Da{b:Bk}{nm:ByteArray}{ls:List ByteArray}(h:Y0 b nm ls=0):D2 (I9 b.bs) nm=true:=by
 cases hm:D2 (I9 b.bs) nm
 ·rw[Jw hm] at h;omega
 ·rfl
theorem GG{b:Bk}{nm:ByteArray}{ls:List ByteArray}(h:Y0 b nm ls=0):J9 ls (O6 b nm):=by
 have hm:=Da h;cases hp:pB (J9 ls (O6 b nm))
 ·rw[KZ hm hp] at h;omega
 ·exact O7.1 hp
theorem Kq{b:Bk}{nm:ByteArray}{ls:List ByteArray}(hok:J0 b)(h:Y0 b nm ls=0):ls.length<=8:=by
 obtain⟨-,hpl⟩:=Dv (Da h);have hp:=GG h;rw[BO (A0 hpl)] at hp;have h1:=Z5 hp;have h2:=((Br hok).2.2 b.bs[I3 b nm] (by simp)).2;omega
theorem Ga(b:Bk)(v:Value)(w:World)(h:K0 w v b)(hok:J0 b):
  Calls Tryz.prog 18 #[v] w λe w'=>(∃v',e=.returned v'/\O5 w' w.heap.size v' b)/\Below w.heap.size w w':=by
 obtain⟨s1,s2,s3⟩:=Br hok;refine (Fg b v w h (by omega) (by omega) (λy hy=>by have:=s3 y hy;omega)).mono ?_;rintro e w' ⟨⟨tu,bu,ps,rfl,h1,h2,h3,-⟩,hb⟩;exact⟨⟨_,rfl,tu,bu,ps,rfl,h1,h2,h3⟩,hb⟩
theorem Gb(b:Bk)(v:Value)(w:World)(h:K0 w v b)(h1:b.tg.length<=100)(h2:b.bs.length<=100)(h3:∀y∈b.bs,y.has.length<=100/\y.nd.length<=100):
  Calls Tryz.prog 18 #[v] w λe w'=>(∃v',e=.returned v'/\O5 w' w.heap.size v' b)/\Below w.heap.size w w':=by
 refine (Fg b v w h (by omega) (by omega) (λy hy=>by have:=h3 y hy;omega)).mono ?_;rintro e w' ⟨⟨tu,bu,ps,rfl,h1,h2,h3,-⟩,hb⟩;exact⟨⟨_,rfl,tu,bu,ps,rfl,h1,h2,h3⟩,hb⟩
theorem Va(b:Bk)(v:Value)(w:World)(h:K0 w v b)(h1:b.tg.length<=100)(h2:b.bs.length<=100)(h3:∀y∈b.bs,y.has.length<=100/\y.nd.length<=100):
  Calls Tryz.prog 18 #[v] w λe w'=>(∃a1 c1 a2 c2 ps,e=.returned (.agg #[.slice a1 b.tg.length c1,.slice a2 b.bs.length c2])/\Bp w' w.heap.size (.slice a2 b.bs.length c2) ps/\ps.map (·.1)=b.bs/\M1 w' w.heap.size none ((.slice a1 b.tg.length c1,b.tg)::N4 ps))/\Below w.heap.size w w':=by
 refine (Fg b v w h (by omega) (by omega) (λy hy=>by have:=h3 y hy;omega)).mono ?_;rintro e w' ⟨⟨tu,bu,ps,rfl,h1,h2,h3,hF,-⟩,hb⟩;obtain⟨a1,c1,rfl⟩:=h1.lst.shape;obtain⟨a2,c2,rfl⟩:=K3 h2.1;have hl:ps.length=b.bs.length:=by rw[← h3,B5]
 rw[hl] at h2;exact⟨⟨a1,c1,a2,c2,ps,by rw[hl],h2,h3,hF⟩,hb⟩
theorem Fh:∀(ps:List Bv)(k:Nat)(p:Bv)(u:Value)(x:Ba),ps[k]?=some p->x.nm=p.1.nm->(I8 ps).set (k*3+1) u=I8 (ps.set k (x,u,p.2.2))
 | q::r,0,p,u,x,hp,hx=>by
  simp at hp;subst hp
  simp[I8,Ch,hx]
 | q::r,k+1,p,u,x,hp,hx=>by
  have ih:=Fh r k p u x (by simpa using hp) hx;have hl:(Ch q).length=3:=rfl;rw[List.set_cons_succ,I8,I8,← ih,List.set_append_right _ _ (by rw[hl];omega),hl,show (k+1)*3+1-3=k*3+1 by omega]
theorem Hg:∀(ps:List Bv)(k:Nat)(p:Bv)(u:Value)(x:Ba),ps[k]?=some p->x.nm=p.1.nm->(I8 ps).set (k*3+2) u=I8 (ps.set k (x,p.2.1,u))
 | q::r,0,p,u,x,hp,hx=>by
  simp at hp;subst hp
  simp[I8,Ch,hx]
 | q::r,k+1,p,u,x,hp,hx=>by
  have ih:=Hg r k p u x (by simpa using hp) hx;have hl:(Ch q).length=3:=rfl;rw[List.set_cons_succ,I8,I8,← ih,List.set_append_right _ _ (by rw[hl];omega),hl,show (k+1)*3+2-3=k*3+2 by omega]
theorem Vb(b:Bk)(v gv:Value)(at':Nat)(gone:List ByteArray)(w:World)(h:K0 w v b)(hg:Ls w gv gone)(hat:at'<b.bs.length):
  Calls Tryz.prog 90 #[v,.int .i64 at',gv] w λe w'=>e=.returned (.bool (pB (CQ b.bs at' gone)))/\Below w.heap.size w w':=by
 obtain⟨a1,c1,a2,c2,rfl,h1,h2⟩:=h.parts;have hC:CB (w.alloc (.cells #[.slice a1 (b).tg.length c1,.slice a2 (b).bs.length c2] 26)) w.heap.size [.slice a1 b.tg.length c1,.slice a2 b.bs.length c2]:=T6 w _ _;have hB0:=(A4 w.heap.size w).alloc (A3 _) (.cells #[.slice a1 (b).tg.length c1,.slice a2 (b).bs.length c2] 26);have g2:=h2.at.1;unfold maxLen at g2;go_enter Tryz.func90,Tryz.ntmps90;go_upto_region 1 with fail;generalize w.alloc (.cells #[.slice a1 (b).tg.length c1,.slice a2 (b).bs.length c2] 26)=W1 at *;have l2:=h2.up hB0;have lg:=hg.up hB0;clear h h1 h2 hg;obtain⟨e0,e1⟩:=hC.c2';obtain⟨-,hpos⟩:=l2.at;obtain⟨bb,o,rfl,hS,hb⟩:=hpos (by omega);obtain⟨a5,d5,a6,d6,-,-,c8,-,l6,-⟩:=(hS.at hat).cells;go_wp2_with fail;go_loopw [7] (λi w'=>∃k m:Nat,k<=b.bs.length/\i=.int .i64 k/\CP b.bs at' gone k/\w'=W1.drewN m) (λi _=>b.bs.length-(intOf i).toNat)
 case atStart=>exact⟨0,0,by omega,rfl,CP.zero _ _ _,rfl⟩
 case round =>
  obtain⟨k,m,hk,rfl,hal,hw⟩:=hrel;have Hw:Hid (wr=W1.drewN m):=hw;have Hal:Hid (CP b.bs at' gone k):=hal;have hBw:Below W1.heap.size W1 wr:=by rw[hw];exact M3 (A4 _ _) _
  clear hw hal;have f1:wr.cell? ⟨w.heap.size,1,none⟩=some (.slice (some ⟨bb,o,none⟩) b.bs.length c2):=by rw[Hw.out];exact e1
  by_cases hp:k<b.bs.length
  ·by_cases hka:k=at'
   ·subst hka;have Hs:Hid (CP b.bs k gone (k+1)):=Hal.out.step hp hat (.inl rfl);go_wp2_with fail;go_quiet (fail);go_wp2_with fail;go_roundw
    case rel =>
     obtain⟨m',hm'⟩:=Aw (n:=nq) Hw.out;exact⟨k+1,m',by omega,by go_num,Hs.out,hm'⟩
    case measure=>simp[intOf];omega
   have hkb:((k:Int) != (at':Int))=true:=by rw[bne_iff_ne];omega
   obtain⟨a3,d3,a4,d4,c3,c4,-,l3,-,-⟩:=(hS.at hp).cells;have c3':wr.cell? ⟨bb,o+k*3,none⟩=some (.string (b.bs[k]).nm):=by rw[Hw.out];exact c3
   have c4':wr.cell? ⟨bb,o+k*3+1,none⟩=some (.slice a3 (b.bs[k]).has.length d3):=by rw[Hw.out];exact c4
   have c8':wr.cell? ⟨bb,o+at'*3+2,none⟩=some (.slice a6 (b.bs[at']).nd.length d6):=by rw[Hw.out];exact c8
   have HY:Hid (D2 gone (b.bs[k]).nm=true∨O4 (b.bs[k]).has (b.bs[at']).nd=false->CP b.bs at' gone (k+1)):=λh=>Hal.out.step hp hat (.inr h);have HN:Hid (D2 gone (b.bs[k]).nm=false->O4 (b.bs[k]).has (b.bs[at']).nd=true->¬CQ b.bs at' gone):=λh1 h2=>AaC hp hat hka h1 h2;have R1:Hid (∀n,Calls Tryz.prog 43 #[gv,.string (b.bs[k]).nm] (wr.drewN n) λe w''=>e=.returned (.bool (D2 gone (b.bs[k]).nm))/\∃m,w''=wr.drewN m):=λn=>Calls.quiet_of_same (Bi gone gv _ _ (by have e:=Hw.out;subst e;exact lg));have R2:Hid (∀n,Calls Tryz.prog 41 #[.slice a3 (b.bs[k]).has.length d3,.slice a6 (b.bs[at']).nd.length d6] (wr.drewN n) λe w''=>e=.returned (.bool (O4 (b.bs[k]).has (b.bs[at']).nd))/\∃m,w''=wr.drewN m):=λn=>Calls.quiet_of_same (Ew _ _ _ _ _ (by have e:=Hw.out;subst e;exact l3) (by have e:=Hw.out;subst e;exact l6));clear c3 c4 l3;generalize b.bs[k]=x0 at *;generalize b.bs[at']=y0 at *;obtain⟨hv,hhv⟩:∃hv,Value.slice a3 x0.has.length d3=hv:=⟨_,rfl⟩;obtain⟨nv,hnv⟩:∃nv,Value.slice a6 y0.nd.length d6=nv:=⟨_,rfl⟩;rw[hhv] at c4' R2;rw[hnv] at c8' R2;clear hhv hnv;cases hm:D2 gone x0.nm
   case true =>
    have Hs:Hid (CP b.bs at' gone (k+1)):=HY.out (.inl hm);have Q1:Hid (∀n,Calls Tryz.prog 43 #[gv,.string x0.nm] (wr.drewN n) λe w''=>e=.returned (.bool true)/\∃m,w''=wr.drewN m):=by have:=R1.out;rw[hm] at this;exact this
    have q1:=Q1.out;clear Q1 R1 R2 HY HN;go_wp2_with fail;go_quiet ((go_at_call 43;exact q1 _))
    go_wp2_with fail;go_roundw
    case rel =>
     obtain⟨m',hm'⟩:=Aw (n:=nq) Hw.out;exact⟨k+1,m',by omega,by go_num,Hs.out,hm'⟩
    case measure=>simp[intOf];omega
   have Q1:Hid (∀n,Calls Tryz.prog 43 #[gv,.string x0.nm] (wr.drewN n) λe w''=>e=.returned (.bool false)/\∃m,w''=wr.drewN m):=by have:=R1.out;rw[hm] at this;exact this
   cases hs:O4 x0.has y0.nd
   ·have Hs:Hid (CP b.bs at' gone (k+1)):=HY.out (.inr hs);have Q2:Hid (∀n,Calls Tryz.prog 41 #[hv,nv] (wr.drewN n) λe w''=>e=.returned (.bool false)/\∃m,w''=wr.drewN m):=by have:=R2.out;rw[hs] at this;exact this
    have q1:=Q1.out;have q2:=Q2.out;clear Q1 Q2 R1 R2 HY HN;go_wp2_with fail;go_quiet ((first|(go_at_call 43;exact q1 _)|(go_at_call 41;exact q2 _)))
    go_wp2_with fail;go_roundw
    case rel =>
     obtain⟨m',hm'⟩:=Aw (n:=nq) Hw.out;exact⟨k+1,m',by omega,by go_num,Hs.out,hm'⟩
    case measure=>simp[intOf];omega
   ·have Hs:Hid (¬CQ b.bs at' gone):=HN.out hm hs;have Q2:Hid (∀n,Calls Tryz.prog 41 #[hv,nv] (wr.drewN n) λe w''=>e=.returned (.bool true)/\∃m,w''=wr.drewN m):=by have:=R2.out;rw[hs] at this;exact this
    have q1:=Q1.out;have q2:=Q2.out;clear Q1 Q2 R1 R2 HY HN;go_wp2_with fail;go_quiet ((first|(go_at_call 43;exact q1 _)|(go_at_call 41;exact q2 _)))
    go_wp2_with fail;go_ret;exact⟨F6 (V4 Hs.out).symm,D1 hB0 (M3 hBw _)⟩
  ·have Hs:Hid (CQ b.bs at' gone):=YZ Hal.out hp;go_wp2_with fail;go_ret;exact⟨F6 (Z3 Hs.out).symm,D1 hB0 hBw⟩
theorem Td(b:Bk)(v gv:Value)(gone:List ByteArray)(w:World)(h:K0 w v b)(hg:Ls w gv gone):
  Calls Tryz.prog 66 #[v,gv] w λe w'=>(∃n:Int,e=.returned (.int .i64 n)/\Y6 b.bs gone n)/\Below w.heap.size w w':=by
 obtain⟨a1,c1,a2,c2,rfl,h1,h2⟩:=h.parts;obtain⟨ag,cg,rfl,-⟩:=id hg;have hC:CB (w.alloc (.cells #[.slice a1 (b).tg.length c1,.slice a2 (b).bs.length c2] 26)) w.heap.size [.slice a1 b.tg.length c1,.slice a2 b.bs.length c2]:=T6 w _ _;have hB0:=(A4 w.heap.size w).alloc (A3 _) (.cells #[.slice a1 (b).tg.length c1,.slice a2 (b).bs.length c2] 26);have g2:=h2.at.1;unfold maxLen at g2;go_enter Tryz.func66,Tryz.ntmps66;go_upto_region 1 with fail;generalize w.alloc (.cells #[.slice a1 (b).tg.length c1,.slice a2 (b).bs.length c2] 26)=W1 at *;have l2:=h2.up hB0;have hk:=h.up hB0;have lg:=hg.up hB0;clear h h1 h2 hg;obtain⟨e0,e1⟩:=hC.c2';have hlt:=hC.2.2;obtain⟨-,hpos⟩:=l2.at;have hB:Below W1.heap.size W1 W1:=A4 _ _;go_wp2_with fail;go_loopw [5] (λi w'=>∃k:Nat,k<=b.bs.length/\i=.int .i64 k/\(∀j,j<k->¬Good b.bs gone j)/\Below W1.heap.size W1 w') (λi _=>b.bs.length-(intOf i).toNat)
 case atStart=>exact⟨0,by omega,rfl,λj hj=>by omega,hB⟩
 case round =>
  clear hB;obtain⟨k,hkl,rfl,hal,hB⟩:=hrel;have Hal:Hid (∀j,j<k->¬Good b.bs gone j):=hal;clear hal;have f0:=(hB.cell (p:=⟨w.heap.size,0,none⟩) hlt).trans e0;have f1:=(hB.cell (p:=⟨w.heap.size,1,none⟩) hlt).trans e1;by_cases hp:k<b.bs.length
  ·obtain⟨bb,o,rfl,hS,hb⟩:=hpos (by omega);obtain⟨a3,d3,a4,d4,c3,c4,c5,-,-,-⟩:=((hS.at hp).up hB hb).cells;have HI:Hid (Good b.bs gone k↔D2 gone (b.bs[k]).nm=false/\CQ b.bs k gone):=WJ hp;generalize b.bs[k]=x0 at *;clear hS;go_wp2_with fail;refine (Bi gone _ x0.nm _ (lg.up hB)).mono ?_;rintro e w' ⟨rfl,hw⟩;obtain rfl:=hw.symm;clear hw;cases hm:D2 gone x0.nm
   case true =>
    have Hs:Hid (∀j,j<k+1->¬Good b.bs gone j):=Ev Hal.out λh=>by rw[(HI.out.1 h).1] at hm;cases hm
    clear HI;go_wp2_with fail;go_roundw
    case rel=>exact⟨k+1,by omega,by go_num,Hs.out,hB⟩
    case measure=>simp[intOf];omega
   go_wp2_with fail;refine (Vb b _ _ k gone _ (hk.up hB) (lg.up hB) hp).mono ?_;rintro e w2 ⟨rfl,hb2⟩;have hB2:=D1 hB hb2;clear f0 f1 hB hb2 c3 c4 c5;cases hcn:pB (CQ b.bs k gone)
   ·have Hs:Hid (∀j,j<k+1->¬Good b.bs gone j):=Ev Hal.out λh=>Bd.1 hcn (HI.out.1 h).2;clear HI;go_wp2_with fail;go_roundw
    case rel=>exact⟨k+1,by omega,by go_num,Hs.out,hB2⟩
    case measure=>simp[intOf];omega
   ·have Hs:Hid (Y6 b.bs gone (k:Int)):=.inr ⟨k,rfl,hp,HI.out.2 ⟨hm,O7.1 hcn⟩,Hal.out⟩;clear HI;go_wp2_with fail;go_ret;exact⟨⟨_,rfl,Hs.out⟩,D1 hB0 hB2⟩
  ·have Hs:Hid (Y6 b.bs gone (-1)):=.inl ⟨rfl,λj hj=>Hal.out j (by omega)⟩;go_wp2_with fail;go_ret;exact⟨⟨_,rfl,Hs.out⟩,D1 hB0 hB⟩
def AaK:Value->Nat
 | .slice _ n _=>n
 | _=>0
theorem NS(b:Bk)(v:Value)(w:World)(h:K0 w v b):
  Calls Tryz.prog 44 #[v] w λe w'=>(∃u ss ok,e=.returned (.tuple #[u,.bool ok])/\U4 b ss ok/\E5 w' w.heap.size u ss/\∀s∈ss,s.size<=maxLen)/\Below w.heap.size w w':=by
 obtain⟨a1,c1,a2,c2,rfl,h1,h2⟩:=h.parts;obtain⟨W1,hW1,kA,hB1,hs1⟩:=cbE1 w [.slice a1 (b).tg.length c1,.slice a2 (b).bs.length c2] 26;have hz1:=hB1.size;clear hs1;obtain⟨ii,hi,iz0,iz1,iz2⟩:=info_parts Z0;go_enter Tryz.func44,Tryz.ntmps44;go_upto_region 1 with fail;try rw[hW1]
 clear hW1;have hk:=h.up hB1;have l2:=h2.up hB1;obtain⟨e0,e1⟩:=kA.c2';have hlt:=kA.2.2;obtain⟨-,hpos⟩:=l2.at;clear h h1 h2;have ho2:=BM W1;have hb2:=(A4 W1.heap.size W1).alloc (A3 _) (.cells #[] 9);go_upto_region 2 with fail;generalize W1.alloc (.cells #[] 9)=W2 at *;have f0:=(hb2.cell (p:=⟨w.heap.size,0,none⟩) hlt).trans e0;have f1:=(hb2.cell (p:=⟨w.heap.size,1,none⟩) hlt).trans e1;go_wp2_with fail;refine (CY b _ _ (hk.up hb2)).mono ?_;rintro e w3 ⟨rfl,hb3⟩;have hB3:=D1 hb2 hb3;have ho3:=ho2.up hb3;clear f0 f1 hb3 ho2 hb2;cases hq:I1 b
 ·have Hq:Hid (U4 b [] false):=.inr ⟨rfl,rfl,.inl (Bd.1 hq)⟩;go_wp2_with fail;go_returns
  exact⟨⟨_,[],false,rfl,Hq.out,N3 ho3 (by omega),λs hs=>by simp at hs⟩,D1 hB1 hB3⟩
 have Hok:Hid (J0 b):=O7.1 hq;have h5:b.bs.length<=5:=Hok.out.2.1;clear hq;go_wp2_with fail;go_loopw [4,5] (λu _ w'=>∃(n:Nat)(gone:List ByteArray),n<=b.bs.length/\Ag b.bs n gone/\E5 w' W1.heap.size u gone/\(∀s∈gone,s.size<=maxLen)/\Below W1.heap.size W1 w') (λu _ _=>b.bs.length-AaK u)
 case atStart=>exact⟨0,[],by omega,.none,ho3,λs hs=>by simp at hs,hB3⟩
 case round =>
  clear hB3 ho3;obtain⟨n,gone,hnl,hgo,hown,hsz,hB⟩:=hrel;have Hgo:Hid (Ag b.bs n gone):=hgo;have Hlen:Hid (gone.length=n):=hgo.length;have lgo:=hown.lst.ls hsz;obtain⟨ag,cg,rfl⟩:=hown.lst.shape;have Hsz:Hid (∀s∈gone,s.size<=maxLen):=hsz;clear hgo hsz;have hgl:gone.length<=b.bs.length:=by rw[Hlen.out];exact hnl
  have f0:=(hB.cell (p:=⟨w.heap.size,0,none⟩) hlt).trans e0;have f1:=(hB.cell (p:=⟨w.heap.size,1,none⟩) hlt).trans e1;by_cases hp:gone.length<b.bs.length
  ·go_wp2_with fail;refine (Td b _ _ gone _ (hk.up hB) lgo).mono ?_;rintro e w4 ⟨⟨nx,rfl,hnx⟩,hb4⟩;have hB4:=D1 hB hb4;have hown4:=hown.up hb4;have Hnx:Hid (Y6 b.bs gone nx):=hnx;clear f0 f1 hB hb4 hown lgo;rcases hnx with⟨rfl,-⟩|⟨k,rfl,hkl,-,-⟩
   ·have Hs:Hid (U4 b [] false):=.inr ⟨rfl,rfl,.inr ⟨n,gone,by have:=Hlen.out;omega,Hgo.out,Hnx.out⟩⟩;have ho5:=BM w4;have hb5:=(A4 w4.heap.size w4).alloc (A3 _) (.cells #[] 9);have hz4:=hB4.size;go_wp2_with fail;go_returns
    exact⟨⟨_,[],false,rfl,Hs.out,N3 ho5 (by omega),λs hs=>by simp at hs⟩,D1 hB1 (D1 hB4 hb5)⟩
   ·obtain⟨bb,o,rfl,hS,hb⟩:=hpos (by omega);have f1:=(hB4.cell (p:=⟨w.heap.size,1,none⟩) hlt).trans e1;obtain⟨a3,d3,a4,d4,c3,-,-,-,-,z0⟩:=((hS.at hkl).up hB4 hb).cells;have Hs:Hid (Ag b.bs (n+1) (gone++[(b.bs[k]).nm])):=.more Hgo.out Hnx.out (A0 hkl);generalize b.bs[k]=x0 at *;have hnb:decide ((k:Int)<0)=false:=by simp
    have hownA:=P8 hown4 ((A4 w4.heap.size w4).alloc (A3 _) (.cells #[.string x0.nm] 9));have hBA:=hB4.alloc hB4.size (.cells #[.string x0.nm] 9);clear hS;go_wp2_with (at_builtin;refine wpList_append_own _ rfl _ _ 23 rfl W1.heap.size 9 ii _ 1 16 Tryz.underlying23 hi iz0 iz1 iz2 rfl (by decide) _ _ _ rfl hownA ⟨w4.heap.size,0,none⟩ 1 1 [.string x0.nm] rfl rfl (Z1 _ _ _) (CJ _) (by unfold maxLen;omega) (by omega) hBA.size ?_)
    intro v1 w5 hown5 hgr5 _;have hB5:=N5 hBA hownA hgr5 (A3 _);have ho5:E5 w5 W1.heap.size v1 (gone++[x0.nm]):=by unfold E5;rw[A8,List.map_append];exact hown5
    have hl5:∃a c,v1=.slice a (gone.length+1) c:=by
     have:=ho5.lst.shape;simpa using this
    obtain⟨a5,c5,rfl⟩:=hl5;clear hownA hBA hown5 hgr5 hown4 hB4 f1 c3;go_wp2_with fail;go_roundw
    case rel =>
     refine⟨n+1,_,by have:=Hlen.out;omega,Hs.out,ho5,λs hs=>?_,hB5⟩;rcases C6.1 hs with h|h
     ·exact Hsz.out s h
     ·obtain rfl:s=x0.nm:=by simpa using h
      exact z0
    case measure=>simp[AaK];omega
  ·have Hs:Hid (U4 b gone true):=.inl ⟨rfl,Hok.out,by
    have e:b.bs.length=n:=by have:=Hlen.out;omega
    rw[e];exact Hgo.out⟩
   go_wp2_with fail;go_returns
   exact⟨⟨_,gone,true,rfl,Hs.out,N3 hown (by omega),Hsz.out⟩,D1 hB1 hB⟩
theorem IX(b:Bk)(v:Value)(w:World)(h:K0 w v b):
  Calls Tryz.prog 23 #[v] w λe w'=>(∃ss ok,e=.returned (.bool ok)/\U4 b ss ok)/\Below w.heap.size w w':=by
 obtain⟨a1,c1,a2,c2,rfl,-,-⟩:=h.parts;have hC:CB (w.alloc (.cells #[.slice a1 (b).tg.length c1,.slice a2 (b).bs.length c2] 26)) w.heap.size [.slice a1 b.tg.length c1,.slice a2 b.bs.length c2]:=T6 w _ _;have hB0:=(A4 w.heap.size w).alloc (A3 _) (.cells #[.slice a1 (b).tg.length c1,.slice a2 (b).bs.length c2] 26);go_enter Tryz.func23,Tryz.ntmps23;go_upto_region 1 with fail;generalize w.alloc (.cells #[.slice a1 (b).tg.length c1,.slice a2 (b).bs.length c2] 26)=W1 at *;have hk:=h.up hB0;obtain⟨e0,e1⟩:=hC.c2';go_wp2_with fail;refine (NS b _ _ hk).mono ?_;rintro e w2 ⟨⟨u,ss,ok,rfl,hord,-,-⟩,hb2⟩;clear e0 e1;go_wp2_with fail;go_ret;exact⟨⟨ss,ok,rfl,hord⟩,D1 hB0 hb2⟩
def Di(bs:List Ba)(at':Int)(tg:List ByteArray)(k:Nat):Prop:=∀(i:Nat)(x:Ba),i<k->(i:Int)≠at'->bs[i]?=some x->O4 x.has tg=false
def T4(bs:List Ba)(at':Int)(tg:List ByteArray):Prop:=∃(i:Nat)(x:Ba),(i:Int)≠at'/\bs[i]?=some x/\O4 x.has tg=true
theorem Di.step{bs:List Ba}{a:Int}{tg:List ByteArray}{k:Nat}(h:Di bs a tg k)(hk:k<bs.length)(h1:(k:Int)=a∨O4 (bs[k]).has tg=false):Di bs a tg (k+1):=λi x hi hne hx=>by
 by_cases e:i=k
 ·subst e;rw[A0 hk] at hx;obtain rfl:=A5 hx;exact h1.resolve_left hne
 ·exact h i x (by omega) hne hx
theorem Xo{bs:List Ba}{a:Int}{tg:List ByteArray}{k:Nat}(h:Di bs a tg k)(hk:¬k<bs.length):¬T4 bs a tg:=λ⟨i,x,hne,hx,hs⟩=>by
 rw[h i x (by have:=(A2.1 hx).1;omega) hne hx] at hs;cases hs
theorem QV(b:Bk)(v tv:Value)(at':Int)(tg:List ByteArray)(w:World)(h:K0 w v b)(ht:Ls w tv tg):
  Calls Tryz.prog 21 #[v,.int .i64 at',tv] w λe w'=>e=.returned (.bool (pB (T4 b.bs at' tg)))/\Below w.heap.size w w':=by
 obtain⟨a1,c1,a2,c2,rfl,h1,h2⟩:=h.parts;obtain⟨at1,ct1,rfl,-⟩:=id ht;have hC:CB (w.alloc (.cells #[.slice a1 (b).tg.length c1,.slice a2 (b).bs.length c2] 26)) w.heap.size [.slice a1 b.tg.length c1,.slice a2 b.bs.length c2]:=T6 w _ _;have hB0:=(A4 w.heap.size w).alloc (A3 _) (.cells #[.slice a1 (b).tg.length c1,.slice a2 (b).bs.length c2] 26);have g2:=h2.at.1;unfold maxLen at g2;go_enter Tryz.func21,Tryz.ntmps21;go_upto_region 1 with fail;generalize w.alloc (.cells #[.slice a1 (b).tg.length c1,.slice a2 (b).bs.length c2] 26)=W1 at *;have l2:=h2.up hB0;have lt:=ht.up hB0;clear h h1 h2 ht;obtain⟨e0,e1⟩:=hC.c2';obtain⟨-,hpos⟩:=l2.at;go_wp2_with fail;go_loop [7] (λi=>∃k:Nat,k<=b.bs.length/\i=.int .i64 k/\Di b.bs at' tg k) (λi=>b.bs.length-(intOf i).toNat)
 case atStart=>exact⟨0,by omega,rfl,λi _ hi=>by omega⟩
 case round =>
  obtain⟨k,hk,rfl,hal⟩:=hrel;have Hal:Hid (Di b.bs at' tg k):=hal;clear hal;by_cases hp:k<b.bs.length
  ·obtain⟨bb,o,rfl,hS,hb⟩:=hpos (by omega);by_cases hka:(k:Int)=at'
   ·have hkb:((k:Int) != at')=false:=by rw[bne_eq_false_iff_eq];exact hka
    have Hs:Hid (Di b.bs at' tg (k+1)):=Hal.out.step hp (.inl hka);clear hka;go_wp2_with fail;go_round
    case rel=>exact⟨k+1,by omega,by go_num,Hs.out⟩
    case measure=>simp[intOf];omega
   have hkb:((k:Int) != at')=true:=by rw[bne_iff_ne];exact hka
   obtain⟨a3,d3,a4,d4,-,c4,-,l3,-,-⟩:=(hS.at hp).cells;have HY:Hid (O4 (b.bs[k]).has tg=false->Di b.bs at' tg (k+1)):=λh=>Hal.out.step hp (.inr h);have HN:Hid (O4 (b.bs[k]).has tg=true->T4 b.bs at' tg):=λh=>⟨k,_,hka,A0 hp,h⟩;clear hka;generalize b.bs[k]=x0 at *;go_wp2_with fail;refine (Ew x0.has tg _ _ _ l3 lt).mono ?_;rintro e w' ⟨rfl,hw⟩;obtain rfl:=hw.symm;clear hw;cases hs:O4 x0.has tg
   ·have Hs:Hid (Di b.bs at' tg (k+1)):=HY.out hs;clear HY HN;go_wp2_with fail;go_round
    case rel=>exact⟨k+1,by omega,by go_num,Hs.out⟩
    case measure=>simp[intOf];omega
   ·have Hs:Hid (T4 b.bs at' tg):=HN.out hs;clear HY HN;go_wp2_with fail;go_ret;exact⟨F6 (Z3 Hs.out).symm,hB0⟩
  ·have Hs:Hid (¬T4 b.bs at' tg):=Xo Hal.out hp;go_wp2_with fail;go_ret;exact⟨F6 (V4 Hs.out).symm,hB0⟩
end Go.Proofs.YtmfjakieahkacaaGreatDoor
