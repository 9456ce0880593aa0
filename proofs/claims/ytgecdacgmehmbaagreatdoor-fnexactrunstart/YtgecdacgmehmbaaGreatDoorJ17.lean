/- The program's chapter 13: who asks; whether a list is of what they need. -/
import Derived.Test.YtgecdacgmehmbaaGreatDoorJ14
import Derived.Test.YtgecdacgmehmbaaGreatDoorJ2
import Derived.Test.YtgecdacgmehmbaaGreatDoorEa2
set_option maxRecDepth 20000
set_option maxHeartbeats 4000000
namespace Go.Proofs.YtgecdacgmehmbaaGreatDoor
open Go.RowKit
theorem Ak2 {b:Bk} {nm:ByteArray} (ha:Asc (nms b.bs)) (hm:memS (nms b.bs) nm=true):lowN (nms b.bs) nm=plN b nm:=by
 obtain⟨hi,hlt⟩:=AaK hm;obtain⟨k,hk,hkl,hkn⟩:=AhX (l:=nms b.bs) (s:=nm) (by omega);obtain rfl:plN b nm=k:=by omega
 refine AeA (Nat.le_of_lt hkl) (λj x hj hx=>?_) (λj x hj hx=>?_)
 ·exact R9 ha (plN b nm-j-1) j x nm hx (by rw[show j+1+(plN b nm-j-1)=plN b nm by omega,A0 hkl,hkn])
 ·by_cases e:j=plN b nm
  ·subst e
   rw[A0 hkl,hkn] at hx;obtain rfl:=A5 hx;exact O5 _
  ·have h1:=R9 ha (j-plN b nm-1) (plN b nm) nm x (by rw[A0 hkl,hkn]) (by rw[show plN b nm+1+(j-plN b nm-1)=j by omega];exact hx)
   cases hq:ltS x nm
   ·rfl
   ·have:=Aaz h1 hq
    rw[O5] at this;cases this
def refV (c:Int):Value:=if c=0 then .nilIface else .iface 130 (.agg #[.int .i64 c])
theorem Afc:refV 0=.nilIface:=rfl
theorem AcE {c:Int} (h:c≠0):refV c=.iface 130 (.agg #[.int .i64 c]):=by simp[refV,h]
noncomputable def ofC (b:Bk) (nm:ByteArray) (ls:List ByteArray):Int:=if memS (nms b.bs) nm=false then 3 else if pB (PartOk ls (needsAt b nm))=false then 2 else 0
theorem AcV {b:Bk} {nm:ByteArray} {ls:List ByteArray} (hm:memS (nms b.bs) nm=false):ofC b nm ls=3:=by simp[ofC,hm]
theorem Aeg {b:Bk} {nm:ByteArray} {ls:List ByteArray} (hm:memS (nms b.bs) nm=true) (hp:pB (PartOk ls (needsAt b nm))=false):ofC b nm ls=2:=by simp[ofC,hm,hp]
theorem Aeh {b:Bk} {nm:ByteArray} {ls:List ByteArray} (hm:memS (nms b.bs) nm=true) (hp:pB (PartOk ls (needsAt b nm))=true):ofC b nm ls=0:=by simp[ofC,hm,hp]
theorem O0 {v:Value} {c:Int} (h:refV c=v):Ending.returned v=.returned (refV c):=by rw[h]
theorem Abj (nm:ByteArray) (w:World):Calls Tryz.prog 250 #[.agg #[.string nm]] w λe w'=>e=.returned (.string nm)/\Below w.heap.size w w':=by
 go_enter Tryz.func250,Tryz.ntmps250
 go_wp2
 go_ret
 exact⟨rfl,by go_grown⟩
theorem Ahu (b:Bk) (v:Value) (nm:ByteArray) (lv:Value) (ls:List ByteArray) (w:World) (h:BkV w v b) (hok:BookOk b) (hl:Ls w lv ls) :
  Calls Tryz.prog 265 #[v,.string nm,lv] w λe w'=>e=.returned (refV (ofC b nm ls))/\Below w.heap.size w w':=by
 obtain⟨a1,c1,a2,c2,rfl,-,h2⟩:=h.parts;obtain⟨la,lc,rfl,hln,-⟩:=id hl;unfold maxLen at hln;have hn5:b.bs.length<=5:=hok.2.1;have hC:CB (w.alloc (.cells #[.slice a1 (b).things.length c1,.slice a2 (b).bs.length c2] 37)) w.heap.size [.slice a1 b.things.length c1,.slice a2 b.bs.length c2]:=E8 w _ _;have hB0:=(A4 w.heap.size w).alloc (A3 _) (.cells #[.slice a1 (b).things.length c1,.slice a2 (b).bs.length c2] 37);go_enter Tryz.func265,Tryz.ntmps265
 go_upto_region 1 with fail
 generalize w.alloc (.cells #[.slice a1 (b).things.length c1,.slice a2 (b).bs.length c2] 37)=W1 at *;have hlt:=hC.2.2;have hk:=h.up hB0;obtain⟨d0,d1⟩:=hC.c2';go_wp2_with fail
 refine (AaN b _ nm _ hk hok).mono ?_;rintro e w2 ⟨rfl,hB2⟩;have hB02:=D5 hB0 hB2;clear d0 d1;cases hm:memS (nms b.bs) nm
 ·have HC:Hid (refV (ofC b nm ls)=.iface 130 (.agg #[.int .i64 3])):=by show _=_;rw[AcV hm];rfl
  generalize lowN (nms b.bs) nm=q at *;go_wp2_with fail
  go_ret
  exact⟨O0 HC.out,hB02⟩
 obtain⟨-,hpl⟩:=AaK hm;rw[Ak2 hok.2.2.2.1 hm];have HN:Hid (needsAt b nm=(b.bs[plN b nm]).needs):=Z7 (A0 hpl);have HT:Hid (pB (PartOk ls (needsAt b nm))=false->refV (ofC b nm ls)=.iface 130 (.agg #[.int .i64 2])):=λhp=>by rw[Aeg hm hp];rfl
 have HY:Hid (pB (PartOk ls (needsAt b nm))=true->refV (ofC b nm ls)=.nilIface):=λhp=>by rw[Aeh hm hp];rfl
 generalize plN b nm=p at *;obtain⟨-,hpos⟩:=h2.at;obtain⟨bb,o,rfl,hS,hb⟩:=hpos (by omega);obtain⟨a3,d3,a4,d4,c3,c4,c5,l3,l4,z0⟩:=((hS.at hpl).up hB02 hb).cells;obtain⟨e0,e1⟩:=(hC.up hB2 hlt).c2';rw[HN.out] at HT HY;have hl2:=hl.up hB02;generalize b.bs[p]=x0 at *;clear hm HN;go_wp2_with fail
 refine (U8 ls x0.needs _ _ _ hl2 l4).mono ?_;rintro e w3 ⟨rfl,hB3⟩;have hB03:=D5 hB02 hB3;clear c3 c4 c5 e0 e1;cases hp:pB (PartOk ls x0.needs)
 ·have HC:Hid (refV (ofC b nm ls)=.iface 130 (.agg #[.int .i64 2])):=HT.out hp
  go_wp2_with fail
  go_ret
  exact⟨O0 HC.out,hB03⟩
 ·have HC:Hid (refV (ofC b nm ls)=.nilIface):=HY.out hp
  go_wp2_with fail
  go_ret
  exact⟨O0 HC.out,hB03⟩
theorem Ain (n:Nat) (nm x:Value) (w:World):(Go.method (n+1) 173 (.agg #[nm,x]) "loop.example/maltrun/impl.who").run Tryz.prog w=.ok (250,.agg #[nm]) w:=by kernel_rfl
theorem Aio (n:Nat) (nm x:Value) (w:World):(Go.method (n+1) 222 (.agg #[nm,x]) "loop.example/maltrun/impl.who").run Tryz.prog w=.ok (250,.agg #[nm]) w:=by kernel_rfl
theorem AmU (n:Nat) (nm x:Value) (w:World):(Go.method (n+1) 173 (.agg #[nm,x]) "loop.example/maltrun/impl.refusal").run Tryz.prog w=.ok (251,.agg #[nm,x]) w:=by kernel_rfl
theorem AmV (n:Nat) (nm x:Value) (w:World):(Go.method (n+1) 222 (.agg #[nm,x]) "loop.example/maltrun/impl.refusal").run Tryz.prog w=.ok (264,.agg #[nm,x]) w:=by kernel_rfl
theorem ta_AE (v:Value) (w:World):(Instr.typeAssert (.iface 222 v) 208 173 true).run Tryz.prog w=.ok (.tuple #[.agg #[.string ⟨#[]⟩,.slice none 0 0],.bool false]) w:=by kernel_rfl
theorem ta_AA (v:Value) (w:World):(Instr.typeAssert (.iface 222 v) 208 222 true).run Tryz.prog w=.ok (.tuple #[v,.bool true]) w:=by kernel_rfl
theorem ta_EE (v:Value) (w:World):(Instr.typeAssert (.iface 173 v) 208 173 true).run Tryz.prog w=.ok (.tuple #[v,.bool true]) w:=by kernel_rfl
theorem ru_E (args:Array Value) (w:World):(callFunc 251 args).run Tryz.prog w=.ok (.enter 251 args) w:=by kernel_rfl
theorem ru_A (args:Array Value) (w:World):(callFunc 264 args).run Tryz.prog w=.ok (.enter 264 args) w:=by kernel_rfl
theorem Aip {W w0:World} {q:Nat} {x0 x1:Value} (h:Below W.heap.size W w0/\w0.cell? ⟨q,0,none⟩=some x0/\w0.cell? ⟨q,1,none⟩=some x1):Below W.heap.size W w0.drew/\w0.drew.cell? ⟨q,0,none⟩=some x0/\w0.drew.cell? ⟨q,1,none⟩=some x1:=⟨h.1.drew,h.2⟩
theorem AcW {W w0 w1:World} {q:Nat} {x0 x1:Value} (hq:q<W.heap.size) (h:Below W.heap.size W w0/\w0.cell? ⟨q,0,none⟩=some x0/\w0.cell? ⟨q,1,none⟩=some x1) (hB:Below w0.heap.size w0 w1):Below W.heap.size W w1/\w1.cell? ⟨q,0,none⟩=some x0/\w1.cell? ⟨q,1,none⟩=some x1:=by
 have lq:q<w0.heap.size:=A1 hq h.1.size;exact⟨D5 h.1 hB,(hB.cell (p:=⟨q,0,none⟩) lq).trans h.2.1,(hB.cell (p:=⟨q,1,none⟩) lq).trans h.2.2⟩
def BkF (w:World) (base:Nat) (v:Value) (b:Bk):Prop:=∃a1 c1 a2 c2 ps,v=.agg #[.slice a1 b.things.length c1,.slice a2 b.bs.length c2]/\BsW w base (.slice a2 b.bs.length c2) ps/\ps.map (·.1)=b.bs/\Fam w base none ((.slice a1 b.things.length c1,b.things)::famB ps)
theorem BkF.up {w w':World} {base:Nat} {v:Value} {b:Bk} (h:BkF w base v b) (hb:Below w.heap.size w w'):BkF w' base v b:=by
 obtain⟨a1,c1,a2,c2,ps,e,h1,h2,h3⟩:=h;exact⟨a1,c1,a2,c2,ps,e,h1.up hb,h2,h3.up hb⟩
theorem BkF.low {w:World} {base base':Nat} {v:Value} {b:Bk} (h:BkF w base v b) (hb:base'<=base):BkF w base' v b:=by
 obtain⟨a1,c1,a2,c2,ps,e,h1,h2,h3⟩:=h;exact⟨a1,c1,a2,c2,ps,e,h1.low hb,h2,h3.low hb⟩
theorem BkF.set {w:World} {base r j:Nat} {v u:Value} {b:Bk} (h:BkF w base v b) (hr:r<base):BkF (w.setCell ⟨r,j,none⟩ u) base v b:=by
 obtain⟨a1,c1,a2,c2,ps,e,h1,h2,h3⟩:=h;exact⟨a1,c1,a2,c2,ps,e,h1.set hr,h2,h3.setLow hr j u⟩
theorem BkF.shape {w:World} {base:Nat} {v:Value} {b:Bk} (h:BkF w base v b):∃a1 c1 a2 c2,v=.agg #[.slice a1 b.things.length c1,.slice a2 b.bs.length c2]:=by
 obtain⟨a1,c1,a2,c2,ps,e,-⟩:=h;exact⟨a1,c1,a2,c2,e⟩
theorem Agw (w:World) (base:Nat):BkF w base (.agg #[.slice none 0 0,.slice none 0 0]) nobody:=by
 refine⟨none,0,none,0,[],rfl,⟨B7 _ _ _ _,λp hp=>by simp at hp⟩,rfl,?_⟩;exact (Ae5 w base none).mk1 (B7 _ _ _ _)
def errV (nm:ByteArray) (c:Int):Value:=if c=0 then .nilIface else .iface 236 (.agg #[.string nm,.iface 130 (.agg #[.int .i64 c])])
theorem Ak3 (nm:ByteArray):errV nm 0=.nilIface:=rfl
theorem Ak4 {nm:ByteArray} {c:Int} (h:c≠0):errV nm c=.iface 236 (.agg #[.string nm,.iface 130 (.agg #[.int .i64 c])]):=by simp[errV,h]
theorem AeB {u v:Value} {nm:ByteArray} {c:Int} (h:errV nm c=v):Ending.returned (.tuple #[u,v])=.returned (.tuple #[u,errV nm c]):=by rw[h]
noncomputable def askedC (b:Bk) (cR:Int):Int:=if bookB b=false then 1 else cR
noncomputable def askedB (b:Bk) (cR:Int) (bN:Bk):Bk:=if bookB b=false then nobody else if cR=0 then bN else b
theorem Aiq (b:Bk) (v:Value) (nm:ByteArray) (D:TypeId) (av:Value) (rF:FuncId) (cR:Int) (bN:Bk) (w:World) (h:BkV w v b)
  (hwho:∀n w,(Go.method (n+1) D av "loop.example/maltrun/impl.who").run Tryz.prog w=.ok (250,.agg #[.string nm]) w)
  (href:∀n w,(Go.method (n+1) D av "loop.example/maltrun/impl.refusal").run Tryz.prog w=.ok (rF,av) w)
  (hrun:∀(args:Array Value) (w:World),(callFunc rF args).run Tryz.prog w=.ok (.enter rF args) w)
  (Href:BookOk b->∀W,Below w.heap.size w W->Calls Tryz.prog rF #[av,v] W λe w'=>e=.returned (refV cR)/\Below W.heap.size W w')
  (Hdone:BookOk b->cR=0->∀W,Below w.heap.size w W->Calls Tryz.prog 172 #[v,.iface D av] W λe w'=>(∃u,e=.returned u/\BkF w' W.heap.size u bN)/\Below W.heap.size W w') :
  Calls Tryz.prog 149 #[v,.iface D av] w λe w'=>(∃u,e=.returned (.tuple #[u,errV nm (askedC b cR)])/\BkF w' w.heap.size u (askedB b cR bN))/\Below w.heap.size w w':=by
 obtain⟨a1,c1,a2,c2,rfl,-,-⟩:=h.parts;have HR:Hid (BookOk b->∀W,Below w.heap.size w W->Calls Tryz.prog rF #[av,.agg #[.slice a1 b.things.length c1,.slice a2 b.bs.length c2]] W λe w'=>e=.returned (refV cR)/\Below W.heap.size W w'):=Href;have HD:Hid (BookOk b->cR=0->∀W,Below w.heap.size w W->Calls Tryz.prog 172 #[.agg #[.slice a1 b.things.length c1,.slice a2 b.bs.length c2],.iface D av] W λe w'=>(∃u,e=.returned u/\BkF w' W.heap.size u bN)/\Below W.heap.size W w'):=Hdone;clear Href Hdone;obtain⟨W1,hW1,kA,kR,hB1,hs1⟩:=L8 w [.slice a1 (b).things.length c1,.slice a2 (b).bs.length c2] 37 [.slice none 0 0,.slice none 0 0] 37;go_enter Tryz.func149,Tryz.ntmps149
 go_upto_region 1 with fail
 try rw[hW1]
 clear hW1;have hk:=h.up hB1;clear h;obtain⟨e0,e1⟩:=kA.c2';go_wp2_with fail
 refine (AbY b _ _ hk).mono ?_;rintro e w2 ⟨rfl,hb2⟩;have hz2:=hb2.size;have kA2:=kA.up hb2 (by omega);have kR2:=kR.up hb2 (by omega);have hk2:=hk.up hb2;have hB2:=D5 hB1 hb2;clear e0 e1 kA kR hk hB1 hb2;cases hok:bookB b
 ·have HC:Hid (errV nm (askedC b cR)=.iface 236 (.agg #[.string nm,.iface 130 (.agg #[.int .i64 1])])/\askedB b cR bN=nobody):=⟨by simp[askedC,hok,errV],by simp[askedB,hok]⟩
  go_wp2_with fail
  refine (Abj nm _).mono ?_;rintro e w3 ⟨rfl,hb3⟩;have kR3:=kR2.up hb3 (by omega);have hB3:=D5 hB2 hb3;obtain⟨⟨y0,y1⟩,q0,q1⟩:=kR3.c2;go_wp2_with fail
  refine J1 Tryz.results149 Tryz.underlying37 rfl I9 kR3 rfl rfl ?_;exact⟨⟨_,AeB HC.out.1,by rw[HC.out.2];exact Agw _ _⟩,G3 hB3 (Nat.le_succ _) _ _⟩
 have hbk:=O4 hok;obtain⟨s1,s2,s3⟩:=M1 hbk;obtain⟨e0,e1⟩:=kA2.c2';go_wp2_with fail
 refine (HR.out hbk _ hB2).mono ?_;rintro e w3 ⟨rfl,hb3⟩;have hz3:=hb3.size;have kA3:=kA2.up hb3 (by omega);have kR3:=kR2.up hb3 (by omega);have hk3:=hk2.up hb3;have hB3:=D5 hB2 hb3;clear e0 e1 kA2 kR2 hk2 hB2 hb3 HR;obtain⟨e0,e1⟩:=kA3.c2';by_cases hc:cR=0
 ·subst hc
  have HC:Hid (errV nm (askedC b 0)=.nilIface/\askedB b 0 bN=bN):=⟨by simp[askedC,hok,errV],by simp[askedB,hok]⟩;have HD0:=HD.out hbk rfl _ hB3;clear HD;rw[Afc];go_wp2_with fail
  refine HD0.mono ?_;rintro e w4 ⟨⟨u,rfl,hu⟩,hb4⟩;have kR4:=kR3.up hb4 (by omega);have hB4:=D5 hB3 hb4;obtain⟨i1,j1,i2,j2,rfl⟩:=hu.shape;clear e0 e1;obtain⟨⟨y0,y1⟩,q0,q1⟩:=kR4.c2;go_wp2_with fail
  refine J1 Tryz.results149 Tryz.underlying37 rfl I9 kR4 rfl rfl ?_;exact⟨⟨_,AeB HC.out.1,by rw[HC.out.2];exact ((hu.set (by omega)).set (by omega)).low (by omega)⟩,G3 hB4 (Nat.le_succ _) _ _⟩
 ·have HC:Hid (errV nm (askedC b cR)=.iface 236 (.agg #[.string nm,.iface 130 (.agg #[.int .i64 cR])])/\askedB b cR bN=b):=⟨by simp[askedC,hok,errV,hc],by simp[askedB,hok,hc]⟩
  rw[AcE hc];go_wp2_with fail
  refine (Aa1 b _ _ hk3 (by omega) (by omega) (λy hy=>by have:=s3 y hy;omega)).mono ?_;rintro e w4 ⟨hcp,hb4⟩;have hz4:=hb4.size;have kR4:=kR3.up hb4 (by omega);have hB4:=D5 hB3 hb4;clear e0 e1;obtain⟨i1,j1,i2,j2,ps,rfl,p1,p2,p3⟩:=hcp;have hu:BkF w4 w3.heap.size (.agg #[.slice i1 b.things.length j1,.slice i2 b.bs.length j2]) b:=⟨i1,j1,i2,j2,ps,rfl,p1,p2,p3⟩;clear p1 p2 p3;go_wp2_with fail
  refine (Abj nm _).mono ?_;rintro e w5 ⟨rfl,hb5⟩;have kR5:=kR4.up hb5 (by omega);have hB5:=D5 hB4 hb5;have hu5:=hu.up hb5;obtain⟨⟨y0,y1⟩,q0,q1⟩:=kR5.c2;go_wp2_with fail
  refine J1 Tryz.results149 Tryz.underlying37 rfl I9 kR5 rfl rfl ?_;exact⟨⟨_,AeB HC.out.1,by rw[HC.out.2];exact ((hu5.set (by omega)).set (by omega)).low (by omega)⟩,G3 hB5 (Nat.le_succ _) _ _⟩
end Go.Proofs.YtgecdacgmehmbaaGreatDoor
