/- The program's chapter 13: who asks; whether a list is of what they need. -/
import Derived.Test.YtmonodehegcfhaaGreatDoorJ15
import Derived.Test.YtmonodehegcfhaaGreatDoorJ13
import Derived.Test.YtmonodehegcfhaaGreatDoorJ2
import Derived.LaidEql
import Derived.Stop.Asserts
import Derived.RowKitTokens
import Derived.Laws.IdiomCopy
import Derived.Test.YtmonodehegcfhaaGreatDoorKf
import Derived.Shelf.Spec.SlicesInsert
import Derived.Lib.AppendZerosOnto
set_option maxRecDepth 20000
set_option maxHeartbeats 4000000
namespace Go.Proofs.YtmonodehegcfhaaGreatDoor
open Go.Proofs.Tryz
open Go.RowKit
variable{b:Bk}{p:Bv}{nm:BA}{c:Int}{ls:List BA}{xs:List Value}{base e g n q size vb:Nat}{P:Program}{v x0 x1:Value}{W w w0:World}
theorem Un(ha:Ad (G7 b.bs))(hm:E3 (G7 b.bs) nm=true):Ga (G7 b.bs) nm=L1 b nm:=by
 obtain⟨hi,a2⟩:=Dx hm;obtain⟨k,hk,a0,a1⟩:=Ia (l:=G7 b.bs) (s:=nm) (by omega);obtain rfl:L1 b nm=k:=by omega
 refine MB (Nat.le_of_lt a0) (λj x hj hx=>?_) (λj x hj hx=>?_)
 ·exact Ca ha (L1 b nm-j-1) j x nm hx (by rw[show j+1+(L1 b nm-j-1)=L1 b nm by omega,A0 a0,a1])
 ·by_cases e:j=L1 b nm
  ·subst e;rw[A0 a0,a1] at hx;obtain rfl:=A6 hx;exact BH _
  ·have h1:=Ca ha (j-L1 b nm-1) (L1 b nm) nm x (by rw[A0 a0,a1]) (by rw[show L1 b nm+1+(j-L1 b nm-1)=j by omega];exact hx);cases hq:T6 x nm
   ·rfl
   ·have:=DS h1 hq;rw[BH] at this;cases this
def Z7(c:Int):Value:=if c=0 then .nilIface else .iface 104 (.agg #[.int .i64 c])
theorem Nk:Z7 0=.nilIface:=rfl
theorem Kd(h:c≠0):Z7 c=.iface 104 (.agg #[Iz c]):=by simp[Z7,h]
noncomputable def Cm(b:Bk)(nm:BA)(ls:List BA):Int:=if E3 (G7 b.bs) nm=false then 3 else if pB (I4 ls (O5 b nm))=false then 2 else 0
theorem Kw(hm:E3 (G7 b.bs) nm=false):Cm b nm ls=3:=by simp[Cm,hm]
theorem LV(hm:E3 (G7 b.bs) nm=true)(hp:pB (I4 ls (O5 b nm))=false):Cm b nm ls=2:=by simp[Cm,hm,hp]
theorem LW(hm:E3 (G7 b.bs) nm=true)(hp:pB (I4 ls (O5 b nm))=true):Cm b nm ls=0:=by simp[Cm,hm,hp]
theorem Bn(h:Z7 c=v):Ending.returned v=.returned (Z7 c):=by rw[h]
theorem Gz(nm:BA)(w:World):Calls prog 242 #[.agg #[Tz nm]] w λe w'=>e=.returned (Tz nm)/\Up w w':=by
 go_in;go_wp2;go_ret;exact⟨rfl,by go_grown⟩
theorem QH(b:Bk)(v:Value)(nm:BA)(lv:Value)(ls:List BA)(w:World)(h:Q6 w v b)(hok:J1 b)(hl:Ls w lv ls):
  Calls prog 258 #[v,Tz nm,lv] w λe w'=>e=.returned (Z7 (Cm b nm ls))/\Up w w':=by
 obtain⟨a1,c1,a2,c2,rfl,-,h2⟩:=h.parts;obtain⟨la,lc,rfl,b0,-⟩:=id hl;unfold maxLen at b0;have b4:b.bs.length<=5:=hok.2.1;have hC:CB (w.alloc (Kz [Vz a1 (b).tg.length c1,Vz a2 (b).bs.length c2] 26)) w.heap.size [Vz a1 b.tg.length c1,Vz a2 b.bs.length c2]:=F3 w _ _;have a8:=(A5 w.heap.size w).alloc (A4 _) (Kz [Vz a1 (b).tg.length c1,Vz a2 (b).bs.length c2] 26);go_in;go_upto_region 1 with fail;generalize w.alloc (Kz [Vz a1 (b).tg.length c1,Vz a2 (b).bs.length c2] 26)=W1 at *;have b1:=hC.2.2;have hk:=h.up a8;obtain⟨d0,d1⟩:=hC.c2';go_wp2_with fail;refine (Gb b _ nm _ hk hok).mono ?_;rintro e w2 ⟨rfl,a9⟩;have a0:=D5 a8 a9;clear d0 d1;cases hm:E3 (G7 b.bs) nm
 ·have HC:Hid (Z7 (Cm b nm ls)=.iface 104 (.agg #[Iz 3])):=by show _=_;rw[Kw hm];rfl
  generalize Ga (G7 b.bs) nm=q at *;go_wp2_with fail;go_ret;exact⟨Bn HC.out,a0⟩
 obtain⟨-,a7⟩:=Dx hm;rw[Un hok.2.2.2.1 hm];have HN:Hid (O5 b nm=(b.bs[L1 b nm]).nj):=Dj (A0 a7);have HT:Hid (pB (I4 ls (O5 b nm))=false->Z7 (Cm b nm ls)=.iface 104 (.agg #[Iz 2])):=λhp=>by rw[LV hm hp];rfl
 have HY:Hid (pB (I4 ls (O5 b nm))=true->Z7 (Cm b nm ls)=.nilIface):=λhp=>by rw[LW hm hp];rfl
 generalize L1 b nm=p at *;obtain⟨-,a6⟩:=h2.at;obtain⟨bb,o,rfl,hS,hb⟩:=a6 (by omega);obtain⟨a3,d3,a4,d4,c3,c4,c5,l3,l4,z0⟩:=((hS.at a7).up a0 hb).cells;obtain⟨e0,e1⟩:=(hC.up a9 b1).c2';rw[HN.out] at HT HY;have b2:=hl.up a0;generalize b.bs[p]=x0 at *;clear hm HN;go_wp2_with fail;refine (De ls x0.nj _ _ _ b2 l4).mono ?_;rintro e w3 ⟨rfl,b3⟩;have a5:=D5 a0 b3;clear c3 c4 c5 e0 e1;cases hp:pB (I4 ls x0.nj)
 ·have HC:Hid (Z7 (Cm b nm ls)=.iface 104 (.agg #[Iz 2])):=HT.out hp;go_wp2_with fail;go_ret;exact⟨Bn HC.out,a5⟩
 ·have HC:Hid (Z7 (Cm b nm ls)=.nilIface):=HY.out hp;go_wp2_with fail;go_ret;exact⟨Bn HC.out,a5⟩
theorem RD(n:Nat)(nm x:Value)(w:World):(Go.method (n+1) 180 (.agg #[nm,x]) "loop.example/maltrun/impl.who").run prog w=.ok (242,.agg #[nm]) w:=by kernel_rfl
theorem RE(n:Nat)(nm x:Value)(w:World):(Go.method (n+1) 228 (.agg #[nm,x]) "loop.example/maltrun/impl.who").run prog w=.ok (242,.agg #[nm]) w:=by kernel_rfl
theorem XJ(n:Nat)(nm x:Value)(w:World):(Go.method (n+1) 180 (.agg #[nm,x]) "loop.example/maltrun/impl.refusal").run prog w=.ok (243,.agg #[nm,x]) w:=by kernel_rfl
theorem XK(n:Nat)(nm x:Value)(w:World):(Go.method (n+1) 228 (.agg #[nm,x]) "loop.example/maltrun/impl.refusal").run prog w=.ok (257,.agg #[nm,x]) w:=by kernel_rfl
theorem Zb(v:Value)(w:World):(Instr.typeAssert (.iface 228 v) 224 180 true).run prog w=.ok (.tuple #[.agg #[Ez,Nz],.bool false]) w:=by kernel_rfl
theorem Zc(v:Value)(w:World):(Instr.typeAssert (.iface 228 v) 224 228 true).run prog w=.ok (.tuple #[v,.bool true]) w:=by kernel_rfl
theorem Zd(v:Value)(w:World):(Instr.typeAssert (.iface 180 v) 224 180 true).run prog w=.ok (.tuple #[v,.bool true]) w:=by kernel_rfl
theorem Zp(args:Array Value)(w:World):(callFunc 243 args).run prog w=.ok (.enter 243 args) w:=by kernel_rfl
theorem Zq(args:Array Value)(w:World):(callFunc 257 args).run prog w=.ok (.enter 257 args) w:=by kernel_rfl
theorem RF(h:Up W w0/\At w0 q 0 x0/\At w0 q 1 x1):Up W w0.drew/\w0.drew.cell? ⟨q,0,none⟩=some x0/\w0.drew.cell? ⟨q,1,none⟩=some x1:=⟨h.1.drew,h.2⟩
theorem Kx{w1:World}(hq:q<W.heap.size)(h:Up W w0/\At w0 q 0 x0/\At w0 q 1 x1)(hB:Up w0 w1):Up W w1/\At w1 q 0 x0/\At w1 q 1 x1:=by
 have lq:q<w0.heap.size:=A2 hq h.1.size;exact⟨D5 h.1 hB,(hB.cell (p:=⟨q,0,none⟩) lq).trans h.2.1,(hB.cell (p:=⟨q,1,none⟩) lq).trans h.2.2⟩
def S4(w:World)(base:Nat)(v:Value)(b:Bk):Prop:=∃a1 c1 a2 c2 ps,v=.agg #[.slice a1 b.tg.length c1,.slice a2 b.bs.length c2]/\Bq w base (.slice a2 b.bs.length c2) ps/\ps.map (·.1)=b.bs/\L7 w base none ((.slice a1 b.tg.length c1,b.tg)::N0 ps)
end Go.Proofs.YtmonodehegcfhaaGreatDoor
namespace Go.Proofs.YtmonodehegcfhaaGreatDoor
open Go.Proofs.Tryz
open Go.RowKit Go.Extern.Stop Go.Stop Go.Extern
variable{b:Bk}{p:Bv}{nm:BA}{c:Int}{ls:List BA}{xs:List Value}{base e g n q size vb:Nat}{P:Program}{v x0 x1:Value}{W w w0:World}
theorem Uo(t:Value)(w:World):Calls prog 70 #[.nilIface,t] w λe w'=>e=.returned (.bool false)/\w'=w:=by
 go_in;go_wp2;go_ret;exact⟨rfl,rfl⟩
theorem GA(t:Addr)(w:World):(ReflectliteValue.unpack (.iface 106 (.pointer (some t)))).run prog w=.ok (Value.agg #[(Value.pointer (some ⟨2,106,none⟩)),Pz w.heap.size 0,.int .u64 150]) (w.alloc (Kz [.pointer (some t)] 106)):=by kernel_rfl
theorem IM(a:Addr)(w:World):(ReflectliteValue.methodAny (ReflectliteValue.valueError "reflectlite.Value.Type" 0) (λt _ _ _=>ReflectliteType.toType t) #[(Value.agg #[(Value.pointer (some ⟨2,106,none⟩)),.pointer (some a),.int .u64 150])]).run prog w=.ok (Value.iface 210 (.agg #[(Value.pointer (some ⟨2,106,none⟩))])) w:=by kernel_rfl
theorem IP(h:Value)(w:World):(Go.method 169 210 (.agg #[h]) "Kind").run prog w=.ok (233,h) w:=by kernel_rfl
theorem IQ(h:Value)(w:World):(Go.method 169 210 (.agg #[h]) "Elem").run prog w=.ok (249,.agg #[h]) w:=by kernel_rfl
theorem IR(h:Value)(w:World):(Go.method 169 210 (.agg #[h]) "Implements").run prog w=.ok (250,.agg #[h]) w:=by kernel_rfl
theorem FD(h:Value)(w:World):(Go.method 169 210 (.agg #[h]) "AssignableTo").run prog w=.ok (247,.agg #[h]) w:=by kernel_rfl
theorem IU(w:World):((ReflectliteType.abiMethod λt=>(λa:Nat=>Value.int IntKind.u8 (a:Int)) <$> Rtype.kind t) #[(Value.pointer (some ⟨2,106,none⟩))]).run prog w=.ok (.int .u8 22) w:=by kernel_rfl
theorem IV(w:World):((ReflectliteType.abiMethod λt=>(λa:Nat=>Value.int IntKind.u8 (a:Int)) <$> Rtype.kind t) #[(Value.pointer (some ⟨2,104,none⟩))]).run prog w=.ok (.int .u8 25) w:=by kernel_rfl
theorem IW(w:World):(ReflectliteType.method ReflectliteType.elem #[.agg #[(Value.pointer (some ⟨2,106,none⟩))]]).run prog w=.ok (Value.iface 210 (.agg #[(Value.pointer (some ⟨2,104,none⟩))])) w:=by kernel_rfl
theorem IX(w:World):(ReflectliteType.relation "Implements" ReflectliteType.implements_ #[.agg #[(Value.pointer (some ⟨2,104,none⟩))],(Value.iface 210 (.agg #[(Value.pointer (some ⟨2,62,none⟩))]))]).run prog w=.ok (.bool true) w:=by kernel_rfl
theorem IY(v:Value)(w:World):(ReflectliteType.typeOf #[.iface 104 v]).run prog w=.ok (Value.iface 210 (.agg #[(Value.pointer (some ⟨2,104,none⟩))])) w:=by kernel_rfl
theorem Pk(v:Value)(w:World):(ReflectliteType.typeOf #[.iface 258 v]).run prog w=.ok (Value.iface 210 (.agg #[(Value.pointer (some ⟨2,258,none⟩))])) w:=by kernel_rfl
theorem FE(w:World):(ReflectliteType.relation "AssignableTo" ReflectliteType.assignableTo #[.agg #[(Value.pointer (some ⟨2,104,none⟩))],(Value.iface 210 (.agg #[(Value.pointer (some ⟨2,104,none⟩))]))]).run prog w=.ok (.bool true) w:=by kernel_rfl
theorem LX(w:World):(ReflectliteType.relation "AssignableTo" ReflectliteType.assignableTo #[.agg #[(Value.pointer (some ⟨2,258,none⟩))],(Value.iface 210 (.agg #[(Value.pointer (some ⟨2,104,none⟩))]))]).run prog w=.ok (.bool false) w:=by kernel_rfl
theorem GB(c:Int)(w:World):(ReflectliteValue.unpack (.iface 104 (.agg #[Iz c]))).run prog w=.ok (.agg #[(Value.pointer (some ⟨2,104,none⟩)),Pz w.heap.size 0,.int .u64 153]) (w.alloc (Kz [Iz c] 104)):=by kernel_rfl
theorem Uq(w:World):(Rtype.elem? 106).run prog w=.ok (some 104) w:=by kernel_rfl
theorem YB(p:Addr)(w:World):(ReflectliteValue.mk 104 p ReflectliteValue.flagAddr).run prog w=.ok (.agg #[(Value.pointer (some ⟨2,104,none⟩)),.pointer (some p),.int .u64 409]) w:=by kernel_rfl
theorem Nl(a:Addr)(w:World):(ReflectliteValue.parts (Value.agg #[(Value.pointer (some ⟨2,106,none⟩)),.pointer (some a),.int .u64 150])).run prog w=.ok (some (106,a,150)) w:=by kernel_rfl
theorem Ur(a:Addr)(w:World):(ReflectliteValue.parts (.agg #[(Value.pointer (some ⟨2,104,none⟩)),.pointer (some a),.int .u64 409])).run prog w=.ok (some (104,a,409)) w:=by kernel_rfl
theorem Us(a:Addr)(w:World):(ReflectliteValue.parts (.agg #[(Value.pointer (some ⟨2,104,none⟩)),.pointer (some a),.int .u64 153])).run prog w=.ok (some (104,a,153)) w:=by kernel_rfl
theorem Ut(w:World):(Rtype.directlyAssignable 104 104).run prog w=.ok true w:=by kernel_rfl
end Go.Proofs.YtmonodehegcfhaaGreatDoor
namespace Go.Proofs.YtmonodehegcfhaaGreatDoor
open Go.Proofs.Tryz
open Go.RowKit
variable{b:Bk}{p:Bv}{nm:BA}{c:Int}{ls:List BA}{xs:List Value}{base e g n q size vb:Nat}{P:Program}{v x0 x1:Value}{W w w0:World}
theorem GC(w:World)(dT sT ty elem:TypeId)(size b o dLen dCap:Nat)(a:Addr)(sLen sCap:Nat)(cs:List Value)
  (hu:P.underlying dT=some (.slice elem)) (hs:(P.info? elem).map (·.size)=some size) (hn:cs.length=Nat.min sLen dLen*size)
  (hsrc:∀j v,cs[j]?=some v->w.cell? (a.add j)=some v) (hc:∀j,j<cs.length->(w.cell? ⟨b,o+j,none⟩).isSome=true) (hf:∀j,j<cs.length->w.frozen? ⟨b,o+j,none⟩=false) (h1:∀v∈cs,v.oneCell'=true) :
  (Builtin.copy_ #[dT,sT] ty #[.slice (some ⟨b,o,none⟩) dLen dCap,.slice (some a) sLen sCap]).run P w=.ok (goInt (Nat.min sLen dLen)) (w.setCells b o cs):=by
 have hl:=run_loadCells_list (P:=P) w a cs hsrc;have a0:=run_storeCells_cells (P:=P) b o cs 0 w (by simpa using hc) (by simpa using hf) h1;cases hq:P.info? elem with
 | none=>simp[hq] at hs
 | some i =>
  have hi:i.size=size:=by simpa [hq] using hs
  simp[Builtin.copy_,run_underlying hu,Builtin.lenOf,Builtin.firstCells,sizeOf,typeInfo,hq,hi,← hn,hl,a0]
theorem Wr{m c:Nat}(h:w.ownsRow base e size (Sz g n c) n xs)(hn:n<=m)(hm:m<=c):∃ys,ys.length=(m-n)*size/\w.ownsRow base e size (Sz g m c) m (xs++ys):=by
 have hl:=h.1;rcases h.2 with⟨h0,_⟩|⟨g',cap,cur,h',h1,h2,h3,h4,h5,h6⟩
 ·simp at h0
 ·obtain⟨e1,-,rfl⟩:=Value.slice.inj h';obtain rfl:g=g':=by simpa using e1
  have a1:n*size<=m*size:=Nat.mul_le_mul_right _ hn;have a0:m*size<=c*size:=Nat.mul_le_mul_right _ hm;have a2:cur.toList.length=c*size:=by simpa using h5
  refine⟨(cur.toList.take (m*size)).drop (n*size),?_,?_,.inr ⟨g,c,cur,rfl,h1,h2,hm,h4,h5,?_⟩⟩
  ·rw[A9,B8,a2,Nat.min_eq_left a0,Nat.sub_mul]
  ·rw[B0,hl,A9,B8,a2,Nat.min_eq_left a0];omega
  ·rw[← h6];conv=>lhs;rw[← List.take_append_drop (n*size) (cur.toList.take (m*size))]
   rw[List.take_take,Nat.min_eq_left a1]
theorem Ej{base e size n c g:Nat}:∀(vs:List Value)(o:Nat)(w:World)(xs:List Value),w.ownsRow base e size (Sz g n c) n xs->o+vs.length<=xs.length->
  (w.setCells g o vs).ownsRow base e size (Sz g n c) n (xs.take o++vs++xs.drop (o+vs.length))/\w.grownBy (w.setCells g o vs) (some g)
 | [],o,w,xs,h,_=>by
  refine⟨?_,E2 _ _⟩;simpa [World.setCells] using h
 | v::r,o,w,xs,h,ho=>by
  obtain⟨s1,s2⟩:=B4 h o v;simp only[List.length_cons] at ho;obtain⟨t1,t2⟩:=Ej r (o+1) (w.setCell ⟨g,o,none⟩ v) (xs.set o v) s1 (by rw[List.length_set];omega);refine⟨?_,E0 s2 t2⟩
  have e:(xs.set o v).take (o+1)++r++(xs.set o v).drop (o+1+r.length)=xs.take o++(v::r)++xs.drop (o+(v::r).length):=by
   have a0:o<xs.length:=by omega
   rw[List.take_set,List.drop_set_of_lt (by omega),A8 a0,List.set_append_right _ _ (by rw[B8];omega),B8,Nat.min_eq_left (by omega),Nat.sub_self];simp[Nat.add_assoc,Nat.add_comm 1]
  rw[e] at t1;exact t1
end Go.Proofs.YtmonodehegcfhaaGreatDoor
namespace Go.Proofs.YtmonodehegcfhaaGreatDoor
open Go.Proofs.Tryz
open Go.RowKit Go.Shelf Go.Lib
variable{b:Bk}{p:Bv}{nm:BA}{c:Int}{ls:List BA}{xs:List Value}{base e g n q size vb:Nat}{P:Program}{v x0 x1:Value}{W w w0:World}
def CU(w:World)(vb:Nat)(p:Bv):Prop:=w.heap[vb]?=some (.cells #[.string p.1.nm,p.2.1,p.2.2] 115 (0,0))
theorem CU.cell(h:CU w vb p):∀(j:Nat)(u:Value),(O3 p)[j]?=some u->w.cell? ((⟨vb,0,none⟩:Addr).add j)=some u:=λj u hu=>by
 rw[Addr.add_mid,Nat.zero_add,cell_of_row w vb j _ 115 (0,0) h];match j,hu with
 | 0,hu=>simpa [O3] using hu
 | 1,hu=>simpa [O3] using hu
 | 2,hu=>simpa [O3] using hu
theorem CU.frozen(h:CU w vb p)(j:Nat):w.frozen? ⟨vb,j,none⟩=false:=by
 simp[World.frozen?,show w.heap[vb]?=_ from h]
theorem CU.shape(h:CU w vb p):w.shape? vb=some (115,3):=by
 simp[World.shape?,show w.heap[vb]?=_ from h]
theorem SD{c:Nat}(h:w.ownsRow base e size (Sz g n c) n xs):w.shape? g=some (e,c*size):=by
 rcases h.2 with⟨h0,_⟩|⟨g',cap,cur,h',h1,h2,h3,h4,h5,h6⟩
 ·simp at h0
 ·obtain⟨e1,-,rfl⟩:=Value.slice.inj h';obtain rfl:g=g':=by simpa using e1
  simp[World.shape?,h2,h5]
theorem Ws(w:World):(Go.sizeOf 115).run prog w=.ok 3 w:=by kernel_rfl
theorem SE(ps:List Bv)(p:Bv)(v:Value)(base vb:Nat)(w:World)(hn:ps.length<=100)(hrow:w.ownsRow base 115 3 v ps.length (E8 ps))(hB:CU w vb p)(hone:∀u∈O3 p,u.oneCell'=true)(hz:base<=w.heap.size):
  Calls prog 207 #[v,Iz ps.length,Sz vb 1 1] w
   λe w'=>∃u,e=.returned u/\w'.ownsRow base 115 3 u (ps.length+1) (E8 (ps++[p]))/\w.grownBy w' v.ownBlock/\P0 w v u:=by
 obtain⟨ii,hi,a3,a4,a5⟩:=info_parts Cs;obtain⟨v1,w1,hr,a0,a2,-⟩:=run_append_own (P:=prog) w base 24 24 115 ii _ 3 64 underlying24 hi a3 a4 a5 rfl (by decide) v ps.length (E8 ps) hrow ⟨vb,0,none⟩ 1 1 (O3 p) rfl hB.cell hone (by unfold maxLen;omega) (by omega) hz;have a7:P0 w v v1:=FY base 24 24 115 ii _ 3 64 underlying24 hi a3 a4 a5 v ps.length (E8 ps) hrow ⟨vb,0,none⟩ 1 1 (O3 p) rfl hB.cell hone (by omega) (by unfold maxLen;omega) (by omega) hr
 have a1:w1.ownsRow base 115 3 v1 (ps.length+1) (E8 (ps++[p])):=by
  rw[Dh];exact a0
 obtain⟨a,c,hv⟩:=I7 hrow;subst hv
 have hc:ps.length<=c/\c<=9223372036854775807:=by
  rcases hrow.2 with⟨h0,h1⟩|⟨g',cap,cur,h',h1,h2,h3,h4,h5,h6⟩
  ·obtain⟨-,-,rfl⟩:=Value.slice.inj h0;omega
  ·obtain⟨-,-,rfl⟩:=Value.slice.inj h';unfold maxLen at h4;omega
 obtain⟨a8,a9⟩:=hc;obtain⟨b1,d1,a6⟩:=I7 a0;subst a6;clear a0;go_in;go_wp2_with (at_builtin;refine Bc _ rfl _ _ _ _ rfl _ _ _ _ rfl rfl hr ?_)
 all_goals
  go_ret;exact⟨_,rfl,a1,by cases a<;>exact a2,by cases a<;>exact a7⟩
theorem Wt(ps:List Bv)(p:Bv)(k:Nat)(ys:List Value)(hk:k<ps.length)(hy:ys.length=3):
  let xs:=E8 ps++ys
  let xs2:=xs.take ((k+1)*3)++E8 (ps.drop k)++xs.drop ((k+1)*3+(E8 (ps.drop k)).length)
  xs2.take (k*3)++O3 p++xs2.drop (k*3+(O3 p).length)=E8 (ps.take k++p::ps.drop k):=by
 intro xs xs2;have h1:(E8 ps).length=ps.length*3:=R6 ps;have h2:(E8 (ps.drop k)).length=(ps.length-k)*3:=by rw[R6,A9]
 have a0:xs.length=(ps.length+1)*3:=by show (E8 ps++ys).length=_;rw[B0,h1,hy];omega
 have h3:xs.drop ((k+1)*3+(E8 (ps.drop k)).length)=[]:=List.drop_eq_nil_of_le (by rw[a0,h2];omega);have h4:xs2=xs.take ((k+1)*3)++E8 (ps.drop k):=by show _++_++_=_;rw[h3,List.append_nil]
 have h5:(xs.take ((k+1)*3)).length=(k+1)*3:=by rw[B8,a0];omega
 have h6:xs2.take (k*3)=E8 (ps.take k):=by
  rw[h4,List.take_append_of_le_length (by rw[h5];omega),List.take_take,Nat.min_eq_left (by omega)];show (E8 ps++ys).take (k*3)=_
  rw[List.take_append_of_le_length (by rw[h1];omega),St ps k (by omega)]
 have h7:xs2.drop (k*3+(O3 p).length)=E8 (ps.drop k):=by
  have hb:(O3 p).length=3:=rfl;rw[h4,hb,show k*3+3=(k+1)*3 by omega];exact List.drop_left' h5
 rw[h6,h7,Bt];simp[E8]
theorem QI(ps:List Bv)(p:Bv)(k g c base vb:Nat)(w:World)(hk:k<ps.length)(_:ps.length<=100)(hroom:ps.length+1<=c)(hrow:w.ownsRow base 115 3 (.slice (some ⟨g,0,none⟩) ps.length c) ps.length (E8 ps))(hone:∀u∈E8 ps,u.oneCell'=true)(hB:CU w vb p)(hop:∀u∈O3 p,u.oneCell'=true)(hne:vb≠g):
  (∀lb cb,(callFunc 213 #[.slice (some ⟨vb,0,none⟩) 1 1,.slice (some ⟨g,(k+1)*3,none⟩) lb cb]).run prog w=.ok (.value (.bool false)) w)/\
  ∃W w',(∀ty dc sc,(Builtin.copy_ #[24,24] ty #[.slice (some ⟨g,(k+1)*3,none⟩) (ps.length-k) dc,.slice (some ⟨g,k*3,none⟩) (ps.length+1-k) sc]).run prog w.drew=.ok (goInt ((ps.length-k:Nat):Int)) W)/\
   (∀ty dc,(Builtin.copy_ #[24,24] ty #[.slice (some ⟨g,k*3,none⟩) (ps.length+1-k) dc,.slice (some ⟨vb,0,none⟩) 1 1]).run prog W=.ok (goInt ((1:Nat):Int)) w')/\
   w'.ownsRow base 115 3 (.slice (some ⟨g,0,none⟩) (ps.length+1) c) (ps.length+1) (E8 (ps.take k++p::ps.drop k))/\w.grownBy W (some g)/\w.grownBy w' (some g)/\c<=9223372036854775807:=by
 have a4:(prog.info? 115).map (·.size)=some 3:=by kernel_rfl
 obtain⟨ys,a7,a1⟩:=Wr hrow (Nat.le_succ _) hroom;have a5:ys.length=3:=by rw[a7];omega
 have a0:w.drew.ownsRow base 115 3 (.slice (some ⟨g,0,none⟩) (ps.length+1) c) (ps.length+1) (E8 ps++ys):=a1;have a8:(E8 ps).length=ps.length*3:=R6 ps;have a3:(E8 (ps.drop k)).length=(ps.length-k)*3:=by rw[R6,A9]
 have a6:(E8 ps++ys).length=(ps.length+1)*3:=by rw[B0,a8,a5];omega
 obtain⟨t1,t2⟩:=Ej (E8 (ps.drop k)) ((k+1)*3) w.drew (E8 ps++ys) a0 (by rw[a6,a3];omega);have a2:((E8 ps++ys).take ((k+1)*3)++E8 (ps.drop k)++(E8 ps++ys).drop ((k+1)*3+(E8 (ps.drop k)).length)).length=(ps.length+1)*3:=t1.1;obtain⟨s1,s2⟩:=Ej (O3 p) (k*3) (w.drew.setCells g ((k+1)*3) (E8 (ps.drop k))) _ t1 (by rw[a2];show k*3+3<=_;omega);rw[Wt ps p k ys hk a5] at s1
 have a9:CU (w.drew.setCells g ((k+1)*3) (E8 (ps.drop k))) vb p:=by
  have:=t2.block vb (D3.1 (show w.heap[vb]?=_ from hB)).1 (by simpa using hne);unfold CU;rw[this];exact hB
 refine⟨λlb cb=>?_,_,_,λty dc sc=>?_,λty dc=>?_,s1,E0 (S8 (E2 w _)) t2,E0 (S8 (E2 w _)) (E0 t2 s2),?_⟩
 ·rw[run_callFunc_extern func213 (by kernel_rfl) (by kernel_rfl) (by kernel_rfl) (e:=Extern.SlicesOverlaps.overlaps #[24,24] #[4]) (by kernel_rfl),
   Lib.run_overlaps_apart w 24 4 115 underlying24 3 Ws ⟨vb,0,none⟩ ⟨g,(k+1)*3,none⟩ 1 1 lb cb hne _ _ _ _ hB.shape (SD hrow) (by omega) (hB.frozen 0) (hB.frozen 3)]
  rfl
 ·have h:=GC (P:=prog) w.drew 24 24 ty 115 3 g ((k+1)*3) (ps.length-k) dc ⟨g,k*3,none⟩ (ps.length+1-k) sc (E8 (ps.drop k)) underlying24 a4 (by rw[a3,show Nat.min (ps.length+1-k) (ps.length-k)=ps.length-k from Nat.min_eq_right (by omega)])
   (Cu hrow k (ps.drop k) (Kt ps k)) (λj hj=>?_) (λj hj=>a0.frozenAt _) (λu hu=>hone u (by
    rw[← List.take_append_drop k ps,Bt];exact List.mem_append_right _ hu))
  ·rw[h,show Nat.min (ps.length+1-k) (ps.length-k)=ps.length-k from Nat.min_eq_right (by omega)]
  ·rw[a0.cellAt _ (by rw[a3] at hj;omega),A0 (by rw[a6];rw[a3] at hj;omega)];rfl
 ·have h:=GC (P:=prog) (w.drew.setCells g ((k+1)*3) (E8 (ps.drop k))) 24 24 ty 115 3 g (k*3) (ps.length+1-k) dc ⟨vb,0,none⟩ 1 1 (O3 p) underlying24 a4 (by rw[show Nat.min 1 (ps.length+1-k)=1 from Nat.min_eq_left (by omega)];rfl)
   a9.cell (λj hj=>?_) (λj hj=>t1.frozenAt _) hop
  ·rw[h,show Nat.min 1 (ps.length+1-k)=1 from Nat.min_eq_left (by omega)]
  ·have b0:j<3:=hj;rw[t1.cellAt _ (by omega),A0 (by rw[a2];omega)];rfl
 ·have:=(BP hrow).2;unfold maxLen at this;omega
theorem QJ(ps:List Bv)(p:Bv)(k g c base vb:Nat)(w:World)(hk:k<ps.length)(hn:ps.length<=100)(hroom:ps.length+1<=c)(hrow:w.ownsRow base 115 3 (Sz g ps.length c) ps.length (E8 ps))(hone:∀u∈E8 ps,u.oneCell'=true)(hB:CU w vb p)(hop:∀u∈O3 p,u.oneCell'=true)(hne:vb≠g):
  Calls prog 207 #[(Sz g ps.length c),Iz k,Sz vb 1 1] w
   λe w'=>e=.returned (Sz g (ps.length+1) c)/\w'.ownsRow base 115 3 (Sz g (ps.length+1) c) (ps.length+1) (E8 (ps.take k++p::ps.drop k))/\w.grownBy w' (some g):=by
 obtain⟨a3,W,w4,a4,a5,a1,a2,a6,a8⟩:=QI ps p k g c base vb w hk hn hroom hrow hone hB hop hne;have a0:Below 0 w w.drew:=(A5 _ _).drew;have a7:Below 0 w W:=L5 (A5 0 w) (Nat.zero_le _) hrow a2 (Nat.zero_le _);have a9:¬((k:Int)=(ps.length:Int)):=by omega
 have b0:¬(c=k+1):=by omega
 have b1:¬(c=k):=by omega
 have b2:k<=ps.length:=by omega
 have b3:(k:Int)<=(ps.length:Int):=by omega
 have b4:¬((c:Int)<(ps.length:Int)+1):=by omega
 have b5:(ps.length:Int)+1<=(c:Int):=by omega
 have b6:IntKind.i64.wrap ((k:Int)+1)=(k:Int)+1:=by rw[IntKind.wrap_i64];omega
 have b7:0<=(k:Int)+1:=by omega
 have b8:(k:Int)+1<=(ps.length:Int)+1:=by omega
 have b9:(k:Int)<=(ps.length:Int)+1:=by omega
 have c0:((k:Int)+1).toNat=k+1:=by omega
 have c1:((ps.length:Int)+1).toNat=ps.length+1:=by omega
 clear hrow hone hB hop a2;go_in;go_wp2_with (simp only[a3])
 refine F5 99 (λw'=>Below 0 w w') (by kernel_rfl) ?_;refine D6 0 rfl a0 ?_;refine D6 1 rfl a0 ?_;refine D6 2 rfl a0 ?_;refine D6 3 rfl a0 ?_;refine D6 4 rfl a0 ?_;refine D6 5 rfl a0 ?_;refine D6 6 rfl a0 ?_;refine D6 7 rfl a0 ?_;refine E7 8 rfl (λK hK=>?_);refine step_copy_runI rfl _ _ 24 24 rfl (Vz (some ⟨g,(k+1)*3,none⟩) (ps.length-k) (c-(k+1))) (Sy g (k*3) (ps.length+1-k) (c-k)) (by simp[Act.eval,Act.put]) (by simp[Act.eval,Act.put]) (a4 _ _ _) ?_;refine E6 hK a7 ?_;clear hK K;refine F0 (by kernel_rfl) ?_ _;go_wp2_with (at_builtin;refine wpList_copy_runI _ rfl _ _ 24 24 rfl _ _ rfl rfl (a5 _ _) ?_)
 go_ret;exact⟨rfl,a1,a6⟩
theorem Uu(ps:List Bv)(p:Bv)(k:Nat)(Z:List Value)(hk:k<ps.length)(hz:Z.length=(ps.length+1-k)*3):
  let xs:=E8 (ps.take k)++Z
  let xs2:=xs.take (k*3)++O3 p++xs.drop (k*3+(O3 p).length)
  xs2.take ((k+1)*3)++E8 (ps.drop k)++xs2.drop ((k+1)*3+(E8 (ps.drop k)).length)=E8 (ps.take k++p::ps.drop k):=by
 intro xs xs2;have h1:(E8 (ps.take k)).length=k*3:=by rw[R6,B8];omega
 have h2:(E8 (ps.drop k)).length=(ps.length-k)*3:=by rw[R6,A9]
 have hb:(O3 p).length=3:=rfl;have h3:xs.take (k*3)=E8 (ps.take k):=List.take_left' h1;have a0:xs.length=(ps.length+1)*3:=by show (E8 (ps.take k)++Z).length=_;rw[B0,h1,hz];omega
 have h4:(E8 (ps.take k)++O3 p).length=(k+1)*3:=by rw[B0,h1,hb];omega
 have h5:xs2.take ((k+1)*3)=E8 (ps.take k)++O3 p:=by
  show (xs.take (k*3)++O3 p++_).take _=_
  rw[h3];exact List.take_left' h4
 have h6:xs2.drop ((k+1)*3+(E8 (ps.drop k)).length)=[]:=List.drop_eq_nil_of_le (by
  show (xs.take (k*3)++O3 p++xs.drop (k*3+(O3 p).length)).length<=_
  rw[B0,h3,h4,A9,a0,hb,h2];omega)
 rw[h5,h6,Bt];simp[E8]
theorem Pl(ps:List Bv)(p:Bv)(k g c base vb:Nat)(w:World)(hk:k<ps.length)(hn:ps.length<=100)(hroom:c<ps.length+1)(hrow:w.ownsRow base 115 3 (.slice (some ⟨g,0,none⟩) ps.length c) ps.length (E8 ps))(hone:∀u∈E8 ps,u.oneCell'=true)(hB:CU w vb p)(hop:∀u∈O3 p,u.oneCell'=true)(hz:base<=w.heap.size):
  ∃G W1 W2 w',(∀ty,(Builtin.append_ #[24,3] ty #[.slice (some ⟨g,0,none⟩) k c,.int .i64 ((ps.length:Int)+1-(k:Int))]).run prog w=.ok (.slice (some ⟨w.heap.size,0,none⟩) (ps.length+1) G) W1)/\
   (∀ty dc,(Builtin.copy_ #[24,24] ty #[.slice (some ⟨w.heap.size,k*3,none⟩) (ps.length+1-k) dc,.slice (some ⟨vb,0,none⟩) 1 1]).run prog W1=.ok (goInt ((1:Nat):Int)) W2)/\
   (∀ty dc sc,(Builtin.copy_ #[24,24] ty #[.slice (some ⟨w.heap.size,(k+1)*3,none⟩) (ps.length-k) dc,.slice (some ⟨g,k*3,none⟩) (ps.length-k) sc]).run prog W2.drew=.ok (goInt ((ps.length-k:Nat):Int)) w')/\
   w'.ownsRow base 115 3 (.slice (some ⟨w.heap.size,0,none⟩) (ps.length+1) G) (ps.length+1) (E8 (ps.take k++p::ps.drop k))/\Up w W2/\Up w w'/\ps.length+1<=G/\G<=9223372036854775807/\c=ps.length:=by
 obtain⟨ii,hi,b9,b0,b1⟩:=info_parts Cs;have b3:(prog.info? 115).map (·.size)=some 3:=by kernel_rfl
 obtain⟨c6,c7⟩:=BP hrow;obtain rfl:c=ps.length:=by omega
 have c8:=(hrow.lt g rfl).2;have a4:(E8 (ps.take k)).length=k*3:=by rw[R6,B8];omega
 have a5:(E8 (ps.drop k)).length=(ps.length-k)*3:=by rw[R6,A9]
 have a7:(Builtin.firstCells ii.size k (.slice (some ⟨g,0,none⟩) k ps.length)).run prog w.drew=.ok (E8 (ps.take k)).toArray w.drew:=by
  rw[b0]
  exact run_firstCells_some w.drew 3 k ⟨g,0,none⟩ k ps.length (E8 (ps.take k)) a4 (by
   have h:=Cu hrow 0 (ps.take k) (MC ps k);intro j v hj;have h2:=h j v hj;simpa using h2)
 have b4:=grownCap_ge w (ps.length+1) ps.length 115;have b5:=grownCap_le_maxLen w (ps.length+1) ps.length 115 (by unfold maxLen;omega);have c0:(ps.length:Int)+1-(k:Int)=((ps.length+1-k:Nat):Int):=by omega
 have a1:k+(ps.length+1-k)=ps.length+1:=by omega
 obtain⟨z,b2⟩:∃z:Value,z=.agg #[.string ⟨#[]⟩,.slice none 0 0,.slice none 0 0]:=⟨_,rfl⟩;have b6:z.cells.size=3:=by rw[b2];rfl
 have c1:∀ty,(Builtin.append_ #[24,3] ty #[.slice (some ⟨g,0,none⟩) k ps.length,.int .i64 ((ps.length:Int)+1-(k:Int))]).run prog w =
   .ok (.slice (some ⟨w.heap.size,0,none⟩) (ps.length+1) (grownCap w (ps.length+1) ps.length 115)) (w.drew.alloc (.cells ((E8 (ps.take k)).toArray++Builtin.zeroCells z.cells (ps.length+1-k)++Builtin.zeroCells z.cells (grownCap w (ps.length+1) ps.length 115-(ps.length+1))) 115)):=λty=>by
  have h:=Lib.run_append_grow_zeros (P:=prog) w 24 3 ty 115 ii z .i64 .i64 underlying24 underlying3 hi (by rw[b2];exact b9) (some ⟨g,0,none⟩) k ps.length (E8 (ps.take k)) a7 (ps.length+1-k) (by omega) (by rw[b0];omega) (by omega) (by omega) (by rw[b1];omega) (by rw[b1,a1];exact growslice_fits (by omega) (by omega));rw[a1] at h;rw[c0];exact h
 generalize grownCap w (ps.length+1) ps.length 115=G at *;obtain⟨Z,hZ⟩:∃Z,Z=(Builtin.zeroCells z.cells (ps.length+1-k)).toList:=⟨_,rfl⟩;have a8:Z.length=(ps.length+1-k)*3:=by rw[hZ,Array.length_toList,size_zeroCells,b6]
 have a0:(w.drew.alloc (.cells ((E8 (ps.take k)).toArray++Builtin.zeroCells z.cells (ps.length+1-k)++Builtin.zeroCells z.cells (G-(ps.length+1))) 115)).ownsRow w.heap.size 115 3 (.slice (some ⟨w.heap.size,0,none⟩) (ps.length+1) G) (ps.length+1) (E8 (ps.take k)++Z):=by
  refine⟨by rw[B0,a4,a8];omega,.inr ⟨_,_,_,rfl,A4 _,heap_alloc_new _ _,b4,b5,?_,?_⟩⟩
  ·rw[Array.size_append,Array.size_append,size_zeroCells,size_zeroCells,b6];simp only[List.size_toArray,a4];omega
  ·rw[Array.toList_append,Array.toList_append,List.toList_toArray,← hZ];exact List.take_left' (by rw[B0,a4,a8];omega)
 have b7:Up w (w.drew.alloc (.cells ((E8 (ps.take k)).toArray++Builtin.zeroCells z.cells (ps.length+1-k)++Builtin.zeroCells z.cells (G-(ps.length+1))) 115)):=(A5 _ _).drew.alloc (by simp) _;generalize w.drew.alloc (.cells ((E8 (ps.take k)).toArray++Builtin.zeroCells z.cells (ps.length+1-k)++Builtin.zeroCells z.cells (G-(ps.length+1))) 115)=W1 at *;have c2:vb<w.heap.size:=(D3.1 (show w.heap[vb]?=_ from hB)).1;have c3:CU W1 vb p:=by unfold CU;rw[b7.block vb c2];exact hB
 have b8:(E8 (ps.take k)++Z).length=(ps.length+1)*3:=a0.1;have c4:(O3 p).length=3:=rfl;obtain⟨t1,t2⟩:=Ej (O3 p) (k*3) W1 (E8 (ps.take k)++Z) a0 (by rw[b8,c4];omega);have a2:=t1.1;have a6:(W1.setCells w.heap.size (k*3) (O3 p)).drew.ownsRow w.heap.size 115 3 (.slice (some ⟨w.heap.size,0,none⟩) (ps.length+1) G) (ps.length+1) _:=t1;obtain⟨s1,s2⟩:=Ej (E8 (ps.drop k)) ((k+1)*3) (W1.setCells w.heap.size (k*3) (O3 p)).drew _ a6 (by rw[a2,a5];omega);rw[Uu ps p k Z hk a8] at s1;have a9:Up w (W1.setCells w.heap.size (k*3) (O3 p)):=M1 b7 a0 t2 (A4 _);have c5:=M1 (W:=(W1.setCells w.heap.size (k*3) (O3 p)).drew) a9.drew a6 s2 (A4 _);have a3:(W1.setCells w.heap.size (k*3) (O3 p)).drew.ownsRow base 115 3 (.slice (some ⟨g,0,none⟩) ps.length ps.length) ps.length (E8 ps):=E4 hrow a9.drew;refine⟨G,W1,_,_,c1,λty dc=>?_,λty dc sc=>?_,I8 s1 hz,a9,c5,b4,by unfold maxLen at b5;omega,rfl⟩
 ·have h:=GC (P:=prog) W1 24 24 ty 115 3 w.heap.size (k*3) (ps.length+1-k) dc ⟨vb,0,none⟩ 1 1 (O3 p) underlying24 b3 (by rw[show Nat.min 1 (ps.length+1-k)=1 from Nat.min_eq_left (by omega)];rfl)
   c3.cell (λj hj=>?_) (λj hj=>a0.frozenAt _) hop
  ·rw[h,show Nat.min 1 (ps.length+1-k)=1 from Nat.min_eq_left (by omega)]
  ·have c9:j<3:=hj;rw[a0.cellAt _ (by omega),A0 (by rw[b8];omega)];rfl
 ·have h:=GC (P:=prog) (W1.setCells w.heap.size (k*3) (O3 p)).drew 24 24 ty 115 3 w.heap.size ((k+1)*3) (ps.length-k) dc ⟨g,k*3,none⟩ (ps.length-k) sc (E8 (ps.drop k)) underlying24 b3 (by rw[a5,show Nat.min (ps.length-k) (ps.length-k)=ps.length-k from Nat.min_self _])
   (Cu a3 k (ps.drop k) (Kt ps k)) (λj hj=>?_) (λj hj=>a6.frozenAt _) (λu hu=>hone u (by
    rw[← List.take_append_drop k ps,Bt];exact List.mem_append_right _ hu))
  ·rw[h,show Nat.min (ps.length-k) (ps.length-k)=ps.length-k from Nat.min_self _]
  ·rw[a6.cellAt _ (by rw[a5] at hj;omega),A0 (by rw[a2];rw[a5] at hj;omega)];rfl
theorem QK(ps:List Bv)(p:Bv)(k g c base vb:Nat)(w:World)(hk:k<ps.length)(hn:ps.length<=100)(hroom:c<ps.length+1)(hrow:w.ownsRow base 115 3 (Sz g ps.length c) ps.length (E8 ps))(hone:∀u∈E8 ps,u.oneCell'=true)(hB:CU w vb p)(hop:∀u∈O3 p,u.oneCell'=true)(hz:base<=w.heap.size):
  Calls prog 207 #[(Sz g ps.length c),Iz k,Sz vb 1 1] w
   λe w'=>∃u,e=.returned u/\w'.ownsRow base 115 3 u (ps.length+1) (E8 (ps.take k++p::ps.drop k))/\Up w w'/\∀g',u.ownBlock=some g'->w.heap.size<=g':=by
 obtain⟨G,W1,W2,w4,a3,a4,a5,a1,a6,a2,a7,a8,rfl⟩:=Pl ps p k g c base vb w hk hn hroom hrow hone hB hop hz;have a0:Up w W2.drew:=a6.drew;have a9:¬((k:Int)=(ps.length:Int)):=by omega
 have b0:¬(G=k+1):=by omega
 have b1:¬(G=k):=by omega
 have b2:¬(ps.length=k):=by omega
 have b3:k<=ps.length:=by omega
 have b4:(k:Int)<=(ps.length:Int):=by omega
 have b5:(ps.length:Int)<(ps.length:Int)+1:=by omega
 have b6:IntKind.i64.wrap ((k:Int)+1)=(k:Int)+1:=by rw[IntKind.wrap_i64];omega
 have b7:0<=(k:Int)+1:=by omega
 have b8:(k:Int)+1<=(ps.length:Int)+1:=by omega
 have b9:(k:Int)<=(ps.length:Int)+1:=by omega
 have c0:((k:Int)+1).toNat=k+1:=by omega
 have c1:((ps.length+1:Nat):Int)=(ps.length:Int)+1:=by omega
 clear hrow hone hB hop hroom;go_in
 go_wp2_with (first
  | (at_builtin;refine Bc _ rfl _ _ _ _ rfl _ _ _ _ rfl rfl (a3 _) ?_)
  | (at_builtin;refine wpList_copy_runI _ rfl _ _ 24 24 rfl _ _ rfl rfl (a4 _ _) ?_))
 refine F5 99 (λw'=>Up w w') (by kernel_rfl) ?_;refine D6 0 rfl a0 ?_;refine D6 1 rfl a0 ?_;refine D6 2 rfl a0 ?_;refine D6 3 rfl a0 ?_;refine D6 4 rfl a0 ?_;refine D6 5 rfl a0 ?_;refine D6 6 rfl a0 ?_;refine D6 7 rfl a0 ?_;refine E7 8 rfl (λK hK=>?_);refine step_copy_runI rfl _ _ 24 24 rfl (Vz (some ⟨w.heap.size,(k+1)*3,none⟩) (ps.length-k) (G-(k+1))) (Sy g (k*3) (ps.length-k) (ps.length-k)) (by simp[Act.eval,Act.put]) (by simp[Act.eval,Act.put]) (a5 _ _ _) ?_;refine E6 hK a2 ?_;clear hK K;refine F0 (by kernel_rfl) ?_ _;go_wp2_with fail;go_ret;exact⟨_,rfl,a1,a2,λg' hg'=>by simp[Value.ownBlock] at hg';omega⟩
end Go.Proofs.YtmonodehegcfhaaGreatDoor
