/- The errors package: As over what a call of chapter 23 is refused with. -/
import Derived.Test.YtebfdccbmmpceaaGreatDoorJ8
import Derived.Test.YtebfdccbmmpceaaGreatDoorJ19
import Derived.Test.YtebfdccbmmpceaaGreatDoorJ30
import Derived.Test.YtebfdccbmmpceaaGreatDoorJ35
import Derived.Test.YtebfdccbmmpceaaGreatDoorJ36
import Derived.Test.YtebfdccbmmpceaaGreatDoorJ37
import Derived.Test.YtebfdccbmmpceaaGreatDoorJ32
import Derived.Test.YtebfdccbmmpceaaGreatDoorJ26
set_option maxRecDepth 20000
set_option maxHeartbeats 4000000
namespace Go.Proofs.YtebfdccbmmpceaaGreatDoor
open Go.RowKit Go.Extern.Stop Go.Stop Go.Extern
theorem AfA (v:Value) (w:World):(ReflectliteType.typeOf #[.iface 141 v]).run Tryz.prog w=.ok (Value.iface 185 (.agg #[(Value.pointer (some ⟨2,141,none⟩))])) w:=by kernel_rfl
theorem AdD (w:World):(ReflectliteType.relation "AssignableTo" ReflectliteType.assignableTo #[.agg #[(Value.pointer (some ⟨2,141,none⟩))],(Value.iface 185 (.agg #[(Value.pointer (some ⟨2,98,none⟩))]))]).run Tryz.prog w=.ok (.bool false) w:=by kernel_rfl
theorem Anp (v:Value) (xT:TypeId) (w:World):(Instr.typeAssert (.iface 141 v) xT 190 true).run Tryz.prog w=.ok (.tuple #[.nilIface,.bool false]) w:=run_typeAssert_lacksB Tryz.underlying190 (by kernel_rfl) (by kernel_rfl) v xT w
theorem Aot (v:Value) (xT:TypeId) (w:World):(Instr.typeAssert (.iface 141 v) xT 193 true).run Tryz.prog w=.ok (.tuple #[.iface 141 v,.bool true]) w:=run_typeAssert_hasB Tryz.underlying193 (by kernel_rfl) v xT w
theorem Anq (a b:Value) (w:World):(Go.method 193 141 (.agg #[a,b]) "Unwrap").run Tryz.prog w=.ok (253,.agg #[a,b]) w:=by kernel_rfl
theorem Ain (a b:Value) (w:World):Calls Tryz.prog 253 #[.agg #[a,b]] w λe w'=>e=.returned b/\Below w.heap.size w w':=by
 go_enter Tryz.func253,Tryz.ntmps253
 go_wp2_with fail
 go_ret
 exact⟨rfl,(A4 _ _).alloc (A3 _) _⟩
theorem as_inR (who:ByteArray) (c:Int) (tb vb:Nat) (old tgt:Value) (w:World) (hv:w.cell? ⟨vb,0,none⟩=some (.pointer (some ⟨tb,0,none⟩))) (ht0:w.cell? ⟨tb,0,none⟩=some old) (hf0:w.frozen? ⟨tb,0,none⟩=false) :
  Calls Tryz.prog 102 #[.iface 141 (.agg #[.string who,.iface 98 (.agg #[.int .i64 c])]),tgt,(Value.agg #[(Value.pointer (some ⟨2,100,none⟩)),.pointer (some ⟨vb,0,none⟩),.int .u64 150]),(Value.iface 185 (.agg #[(Value.pointer (some ⟨2,98,none⟩))]))] w
   λe w'=>e=.returned (.bool true)/\∃W,Below w.heap.size w W/\w'=W.setCell ⟨tb,0,none⟩ (.int .i64 c):=by
 have x1:=@run_callFunc_extern Tryz.prog 99 _ (λargs=>ReflectliteValue.unpack (args.getD 0 (.tuple #[]))) Tryz.func99 (by kernel_rfl) (by kernel_rfl) (by kernel_rfl) (by kernel_rfl);have x2:=@run_callFunc_extern Tryz.prog 100 _ (ReflectliteValue.methodAny (ReflectliteValue.valueError "reflectlite.Value.Type" 0) (λt _ _ _=>ReflectliteType.toType t)) Tryz.func100 (by kernel_rfl) (by kernel_rfl) (by kernel_rfl) (by kernel_rfl);have x3:=@run_callFunc_extern Tryz.prog 101 _ (ReflectliteValue.method (ReflectliteValue.valueError "reflectlite.Value.IsNil" 0) ReflectliteValue.isNil) Tryz.func101 (by kernel_rfl) (by kernel_rfl) (by kernel_rfl) (by kernel_rfl);have x4:=@run_callFunc_extern Tryz.prog 248 _ (ReflectliteType.abiMethod λt=>do pure (.int .u8 (← Rtype.kind t))) Tryz.func248 (by kernel_rfl) (by kernel_rfl) (by kernel_rfl) (by kernel_rfl);have x5:=@run_callFunc_extern Tryz.prog 261 _ (ReflectliteType.method ReflectliteType.elem) Tryz.func261 (by kernel_rfl) (by kernel_rfl) (by kernel_rfl) (by kernel_rfl);have x6:=@run_callFunc_extern Tryz.prog 262 _ (ReflectliteType.relation "Implements" ReflectliteType.implements_) Tryz.func262 (by kernel_rfl) (by kernel_rfl) (by kernel_rfl) (by kernel_rfl);have x7:=@run_callFunc_extern Tryz.prog 137 _ ReflectliteType.typeOf Tryz.func137 (by kernel_rfl) (by kernel_rfl) (by kernel_rfl) (by kernel_rfl);have x8:=@run_callFunc_extern Tryz.prog 259 _ (ReflectliteType.relation "AssignableTo" ReflectliteType.assignableTo) Tryz.func259 (by kernel_rfl) (by kernel_rfl) (by kernel_rfl) (by kernel_rfl);have x9:=@run_callFunc_extern Tryz.prog 138 _ (ReflectliteValue.method (ReflectliteValue.valueError "reflectlite.Value.Elem" 0) ReflectliteValue.elem) Tryz.func138 (by kernel_rfl) (by kernel_rfl) (by kernel_rfl) (by kernel_rfl);have x10:=@run_callFunc_extern Tryz.prog 139 _ ReflectliteValue.set Tryz.func139 (by kernel_rfl) (by kernel_rfl) (by kernel_rfl) (by kernel_rfl);have y1:=Ab1;have y2:=Acm;have y3:=Acn;have y4:=Aco;have y5:=Acp;have y6:=AaL;have y7:=Acq;have y8:=Acr;have y9:=Acs;have y10:=Acu;have y11:=Acv;have y12:=AfA;have y13:=AaM;have y14:=AdD;have y15:=Ab2;have y16:=Anp;have y17:=Aot;have y18:=Anq;have htl:tb<w.heap.size:=World.block_lt_of_cell? w ⟨tb,0,none⟩ ht0;have hvl:vb<w.heap.size:=World.block_lt_of_cell? w ⟨vb,0,none⟩ hv;obtain⟨W1,hW1,kB,hb1,hs1⟩:=K9 w [(Value.pointer (some ⟨2,100,none⟩)),.pointer (some ⟨vb,0,none⟩),.int .u64 150] 145;go_enter Tryz.func102,Tryz.ntmps102
 go_wp2_with fail
 try rw[hW1]
 clear hW1 hs1;refine wp_loop_rounds 2 ?_;rw[rounds_succ];go_wp2_with fail
 refine (Ain _ _ _).mono ?_;rintro e W2 ⟨rfl,hb2⟩;have kB2:=kB.up hb2 kB.2.2;have hB2:=D6 hb1 hb2;have hv2:=(hB2.cell (p:=⟨vb,0,none⟩) hvl).trans hv;have ht2:=(hB2.cell (p:=⟨tb,0,none⟩) htl).trans ht0;have hf2:=(hB2.frozen (p:=⟨tb,0,none⟩) htl).trans hf0;obtain⟨⟨j0,j1,j2⟩,-⟩:=kB2.c3;have el:=Agu ⟨vb,0,none⟩ ⟨tb,0,none⟩ W2 hv2;obtain⟨W3,hW3,kR,hb3,hs3⟩:=K9 W2 [.int .i64 c] 98;have hz2:=hB2.size;have st:=AkG tb 0 W2.heap.size 0 c old W3 (kR.1 0 _ rfl) ((hb3.cell (p:=⟨tb,0,none⟩) (by show tb<_;omega)).trans ht2) ((hb3.frozen (p:=⟨tb,0,none⟩) (by show tb<_;omega)).trans hf2);have hB3:=D6 hB2 hb3;clear hv2 ht2 hf2 hb3 hs3 kR;go_wp2_with fail
 rw[rounds_succ];go_wp2_with fail
 go_ret
 exact⟨rfl,W3,hB3,rfl⟩
theorem Aio (who:ByteArray) (c:Int) (tb:Nat) (old:Value) (w:World) (hg:w.cell? ⟨0,0,none⟩=some (Value.iface 185 (.agg #[(Value.pointer (some ⟨2,94,none⟩))]))) (ht0:w.cell? ⟨tb,0,none⟩=some old) (hf0:w.frozen? ⟨tb,0,none⟩=false) :
  Calls Tryz.prog 53 #[.iface 141 (.agg #[.string who,.iface 98 (.agg #[.int .i64 c])]),.iface 100 (.pointer (some ⟨tb,0,none⟩))] w
   λe w'=>e=.returned (.bool true)/\∃W,Below w.heap.size w W/\w'=W.setCell ⟨tb,0,none⟩ (.int .i64 c):=by
 have x1:=@run_callFunc_extern Tryz.prog 99 _ (λargs=>ReflectliteValue.unpack (args.getD 0 (.tuple #[]))) Tryz.func99 (by kernel_rfl) (by kernel_rfl) (by kernel_rfl) (by kernel_rfl);have x2:=@run_callFunc_extern Tryz.prog 100 _ (ReflectliteValue.methodAny (ReflectliteValue.valueError "reflectlite.Value.Type" 0) (λt _ _ _=>ReflectliteType.toType t)) Tryz.func100 (by kernel_rfl) (by kernel_rfl) (by kernel_rfl) (by kernel_rfl);have x3:=@run_callFunc_extern Tryz.prog 101 _ (ReflectliteValue.method (ReflectliteValue.valueError "reflectlite.Value.IsNil" 0) ReflectliteValue.isNil) Tryz.func101 (by kernel_rfl) (by kernel_rfl) (by kernel_rfl) (by kernel_rfl);have x4:=@run_callFunc_extern Tryz.prog 248 _ (ReflectliteType.abiMethod λt=>do pure (.int .u8 (← Rtype.kind t))) Tryz.func248 (by kernel_rfl) (by kernel_rfl) (by kernel_rfl) (by kernel_rfl);have x5:=@run_callFunc_extern Tryz.prog 261 _ (ReflectliteType.method ReflectliteType.elem) Tryz.func261 (by kernel_rfl) (by kernel_rfl) (by kernel_rfl) (by kernel_rfl);have x6:=@run_callFunc_extern Tryz.prog 262 _ (ReflectliteType.relation "Implements" ReflectliteType.implements_) Tryz.func262 (by kernel_rfl) (by kernel_rfl) (by kernel_rfl) (by kernel_rfl);have x7:=@run_callFunc_extern Tryz.prog 137 _ ReflectliteType.typeOf Tryz.func137 (by kernel_rfl) (by kernel_rfl) (by kernel_rfl) (by kernel_rfl);have x8:=@run_callFunc_extern Tryz.prog 259 _ (ReflectliteType.relation "AssignableTo" ReflectliteType.assignableTo) Tryz.func259 (by kernel_rfl) (by kernel_rfl) (by kernel_rfl) (by kernel_rfl);have x9:=@run_callFunc_extern Tryz.prog 138 _ (ReflectliteValue.method (ReflectliteValue.valueError "reflectlite.Value.Elem" 0) ReflectliteValue.elem) Tryz.func138 (by kernel_rfl) (by kernel_rfl) (by kernel_rfl) (by kernel_rfl);have x10:=@run_callFunc_extern Tryz.prog 139 _ ReflectliteValue.set Tryz.func139 (by kernel_rfl) (by kernel_rfl) (by kernel_rfl) (by kernel_rfl);have y1:=Ab1;have y2:=Acm;have y3:=Acn;have y4:=Aco;have y5:=Acp;have y6:=AaL;have y7:=Acq;have y8:=Acr;have y9:=Acs;have y10:=Acu;have y11:=Acv;have y12:=AfA;have y13:=AaM;have y14:=AdD;have y15:=Ab2;have hlt:0<w.heap.size:=World.block_lt_of_cell? w ⟨0,0,none⟩ hg;have htl:tb<w.heap.size:=World.block_lt_of_cell? w ⟨tb,0,none⟩ ht0;obtain⟨W2,hW2,kV,kB,hb2,hs2⟩:=L1 w [.pointer (some ⟨tb,0,none⟩)] 100 [(Value.pointer (some ⟨2,100,none⟩)),.pointer (some ⟨w.heap.size,0,none⟩),.int .u64 150] 145;have kv:=kV.1 0 _ rfl;have n8:=Agt ⟨w.heap.size,0,none⟩ ⟨tb,0,none⟩ W2 kv;have hg2:=(hb2.cell (p:=⟨0,0,none⟩) hlt).trans hg;have ht2:=(hb2.cell (p:=⟨tb,0,none⟩) htl).trans ht0;have hf2:=(hb2.frozen (p:=⟨tb,0,none⟩) htl).trans hf0;obtain⟨⟨j0,j1,j2⟩,-⟩:=kB.c3;go_enter Tryz.func53,Tryz.ntmps53
 go_wp2_with fail
 refine (as_inR who c tb w.heap.size old _ W2 kv ht2 hf2).mono ?_;rintro e w' ⟨rfl,W3,hb3,rfl⟩;have hB3:=D6 hb2 hb3;go_wp2_with fail
 go_ret
 exact⟨rfl,W3,hB3,rfl⟩
end Go.Proofs.YtebfdccbmmpceaaGreatDoor
namespace Go.Proofs.YtebfdccbmmpceaaGreatDoor
open Go.Maps
theorem Anr {ps:List Ph} (hok:recB ps=true) {k:Nat} (hk:k<ps.length) {nm:ByteArray} (ha:atI ps nm=(k:Int)) :
  (∀x∈keys (ofL ps[k]),x∈keys (slE ps nm))/\(∀x∈keys (slE ps (ps[k]).t),x∈keys (slE ps nm))/\∀x∈keys (slE ps (ps[k]).e),x∈keys (slE ps nm):=by
 have e:slE ps nm=bothL (bothL (ofL ps[k]) (slE ps (ps[k]).t)) (slE ps (ps[k]).e):=Ag0 hok _ _ _ nm hk ha;refine⟨λx hx=>?_,λx hx=>?_,λx hx=>?_⟩
 ·rw[e];exact ((O7 _ _).1 x).2 (.inl (((O7 _ _).1 x).2 (.inl hx)))
 ·rw[e];exact ((O7 _ _).1 x).2 (.inl (((O7 _ _).1 x).2 (.inr hx)))
 ·rw[e];exact ((O7 _ _).1 x).2 (.inr hx)
theorem Ans {ps:List Ph} (hok:recB ps=true) {k:Nat} (hk:k<ps.length) {nm:ByteArray} (he:((ps[k]).nm.toList==nm.toList)=true):atI ps nm=(k:Int):=by
 obtain rfl:=M6 (beq_iff_eq.1 he);have hs:=((AcW ps).1 hok).2.2 k ps[k] hk (by simp[hk]);simp only[stepS,Bool.and_eq_true,beq_iff_eq] at hs;exact hs.1.1.2
theorem Aou (p:Ph):p.a.toList∈keys (ofL p):=by
 unfold ofL;split
 ·exact ((AdU _ _).1 _).2 (.inl (by simp[keys]))
 ·simp[keys]
end Go.Proofs.YtebfdccbmmpceaaGreatDoor
namespace Go.Proofs.YtebfdccbmmpceaaGreatDoor
open Go.RowKit
def HPX (w:World) (base:Nat) (h:House) (tv bv xv dv:Value):Prop:=HP w base h tv bv xv dv∨(h=noHouse/\tv=.slice none 0 0/\bv=.slice none 0 0/\xv=.slice none 0 0/\dv=.slice none 0 0)
def TickP (h:House) (cd:Int) (h':House):Prop :=
 (¬HouseOk h/\cd=1/\h'=noHouse)∨(HouseOk h/\h.now=100000/\cd=7/\h'=h)∨
 (HouseOk h/\¬h.now=100000/\cd=0/\h'=asksH (goTo {h with now:=h.now+1} h.bs.length) (goTo {h with now:=h.now+1} h.bs.length).bs.length)
theorem Ahs {h h1 h2:House} {c1 c2:Int} (H1:TickIs h c1 h1) (H2:TickP h c2 h2):c1=c2/\h1=h2:=by
 rcases H1 with⟨n1,rfl,rfl⟩|⟨k1,m1,rfl,rfl⟩|⟨k1,m1,rfl,H⟩
 ·rcases H2 with⟨-,rfl,rfl⟩|⟨k2,-⟩|⟨k2,-⟩
  ·exact⟨rfl,rfl⟩
  ·exact absurd k2 n1
  ·exact absurd k2 n1
 ·have ht:=k1.1.2.1
  rcases H2 with⟨n2,-⟩|⟨-,-,rfl,rfl⟩|⟨-,m2,-⟩
  ·exact absurd k1 n2
  ·exact⟨rfl,rfl⟩
  ·omega
 ·have ht:=k1.1.2.1
  rcases H2 with⟨n2,-⟩|⟨-,m2,-⟩|⟨-,-,rfl,rfl⟩
  ·exact absurd k1 n2
  ·omega
  ·refine⟨rfl,?_⟩
   have hs:∀x∈h.bs,x.si<(phOf x.ps x.ad).wi:=λx hx=>by
    obtain⟨i,hi⟩:=C6.1 hx;exact (k1.batch hi).2.2.2.2.2.2
   rw[H.is,AlM hs]
def runE (call:ByteArray) (c:Int):Value:=if c=0 then .nilIface else .iface 141 (.agg #[.string call,.iface 98 (.agg #[.int .i64 c])])
theorem Aht (h:House) (y base:Nat) (w:World) (H:PH w base y h) (hn1:h.now=100000) :
  Calls Tryz.prog 22 #[.pointer (some ⟨y,0,none⟩)] w λe w'=>e=.returned (.iface 98 (.agg #[.int .i64 7]))/\Below w.heap.size w w':=by
 obtain⟨tv,bv,xv,dv,kA,-⟩:=H;obtain⟨e0,-,-,-,-,-⟩:=(D9 kA).c6;rw[hn1] at e0;clear kA hn1;go_enter_defers Tryz.func22,Tryz.ntmps22
 go_wp2_with fail
 exact⟨_,results_tmp rfl _ _ _,rfl,A4 _ _⟩
theorem rb_pos {x:Rb} (h:RbOk x):0<x.ps.length/\0<x.sl.length:=by
 have h1:=((J8 x.ps).1 h.2.1).1;refine⟨by omega,?_⟩;have hn:slNames x.sl=slE x.ps (fstN x.ps):=h.2.2.1.names;have ha:=Ans h.2.1 (k:=0) (by omega) (nm:=fstN x.ps) (by rw[Adb (by omega)];simp);have hm:=(Anr h.2.1 (by omega) ha).1 _ (Aou _);have hl:(slNames x.sl).length=x.sl.length:=by simp[slNames]
 rw[hn] at hl;rcases C4 x.sl.length with e|e
 ·rw[e] at hl
  rw[C5.1 hl] at hm;simp[keys] at hm
 ·exact e
theorem Aip (h:House) (tv bv xv dv:Value) (call:ByteArray) (w:World) (hE:Ends w) (hT:ErrT w) (H:HV w h tv bv xv dv) :
  Calls Tryz.prog 52 #[.agg #[.int .i64 h.now,.int .i64 h.last,tv,bv,xv,dv],.string call,.func (.func 22) #[] #[]] w λe w'=>(∃h' tu bu xu du cd,e=.returned (.tuple #[.agg #[.int .i64 h'.now,.int .i64 h'.last,tu,bu,xu,du],runE call cd])/\TickP h cd h'/\HPX w' w.heap.size h' tu bu xu du)/\Below w.heap.size w w':=by
 obtain⟨a1,c1,a2,c2,a3,c3,a4,c4,rfl,rfl,rfl,rfl⟩:=H.shapes;obtain⟨W1,hW1,kA,kR,hB1,hs1⟩:=L1 w [.int .i64 h.now,.int .i64 h.last,.slice a1 h.sh.things.length c1,.slice a2 h.sh.bs.length c2,.slice a3 h.bs.length c3,.slice a4 h.ds.length c4] 37 [.int .i64 0,.int .i64 0,.slice none 0 0,.slice none 0 0,.slice none 0 0,.slice none 0 0] 37;have H1:=H.up hB1;have hE1:=hE.up hB1;have hT1:=hT.up hB1;clear H hE hT;go_enter Tryz.func52,Tryz.ntmps52
 go_upto_region 1 with fail
 try rw[hW1]
 clear hW1;obtain⟨e0,e1,e2,e3,e4,e5⟩:=kA.c6;have hcall:=Ahi h _ _ _ _ W1 hE1 H1;by_cases hk:HouseOk h
 case neg =>
  rw[F3 hk] at hcall;have HI:Hid (TickP h 1 noHouse):=.inl ⟨hk,rfl,rfl⟩;clear hk;go_upto_region 2 with (go_at_call 97;refine hcall.mono ?_;rintro e w2 ⟨rfl,hb2⟩)
  have kR2:=kR.up hb2 kR.2.2;obtain⟨y0,y1,y2,y3,y4,y5⟩:=kR2.c6;obtain⟨f0,f1,f2,f3,f4,f5⟩:=kR2.f6;have hB2:=D6 hB1 hb2;clear hcall hb2;go_wp2_with fail
  refine R8 Tryz.results52 Tryz.underlying37 rfl J7 kR2 rfl rfl ?_;exact⟨⟨noHouse,_,_,_,_,1,rfl,HI.out,.inr ⟨rfl,rfl,rfl,rfl,rfl⟩⟩,L0 hB2 (by omega) _ _ _ _ _ _⟩
 case pos =>
  rw[I7 hk] at hcall;obtain⟨hty,hb5,hd20⟩:=hk.tiny
  have hbk:∀x∈h.bs,RbOk x:=λx hx=>by
   obtain⟨i,hi⟩:=C6.1 hx;exact hk.batch hi
  have htm:=hk.1;have HK:Hid (HouseOk h):=hk;have Hbk:Hid (∀x∈h.bs,RbOk x):=hbk;have Hpos:Hid (∀x∈h.bs,0<x.ps.length/\0<x.sl.length):=λx hx=>rb_pos (hbk x hx);obtain⟨t0,t1,-,-⟩:=htm;have s1:=hty.1;have s2:=hty.2.1;have Hs3:Hid (∀y∈h.sh.bs,y.has.length<=100/\y.needs.length<=100):=λy hy=>by have:=hty.2.2 y hy;omega
  clear hk hbk hty
  go_upto_region 4 with (first
   | (go_at_call 97;refine hcall.mono ?_;rintro e w2 ⟨rfl,hb2⟩;have hz2:=hb2.size;have kA2:=kA.up hb2 kA.2.2;clear e0 e1 e2 e3 e4 e5;obtain⟨e0,e1,e2,e3,e4,e5⟩:=kA2.c6)
   | (go_at_call 98;refine (Al6 h _ _ _ _ w2 (H1.up hb2) (by omega) (by omega) Hs3.out (by omega) (by omega) Hpos.out).mono ?_;rintro e w3 ⟨⟨tu,bu,xu,du,rfl,HC⟩,hb3⟩;obtain⟨i1,j1,i2,j2,i3,j3,i4,j4,rfl,rfl,rfl,rfl⟩:=HC.v.shapes))
  obtain⟨W4,hW4,H4,hb4⟩:∃W4,w3.alloc (.cells #[.int .i64 h.now,.int .i64 h.last,.slice i1 h.sh.things.length j1,.slice i2 h.sh.bs.length j2,.slice i3 h.bs.length j3,.slice i4 h.ds.length j4] 37)=W4/\PH W4 w2.heap.size w3.heap.size h/\Below w3.heap.size w3 W4:=by
   have hb:Below w3.heap.size w3 (w3.alloc (.cells #[.int .i64 h.now,.int .i64 h.last,.slice i1 h.sh.things.length j1,.slice i2 h.sh.bs.length j2,.slice i3 h.bs.length j3,.slice i4 h.ds.length j4] 37)):=(A4 _ _).alloc (A3 _) _;exact⟨_,rfl,⟨_,_,_,_,B9 w3 _ 1 hb3.size (by unfold maxLen;omega) rfl,HC.up hb⟩,hb⟩
  try rw[hW4]
  have hB24:=D6 hb3 hb4;have kR2:=kR.up hb2 kR.2.2;have hRz:w.heap.size+1<w2.heap.size:=kR2.2.2;have hBw2:=D6 hB1 hb2;have hE2:=hE1.up hb2;have hT2:=hT1.up hb2;clear hW4 HC hcall H1 kA kR hB1 e0 e1 e2 e3 e4 e5 kA2 hb3 hb4 hb2 hE1 hT1;generalize w3.heap.size=y at *;by_cases hnow:h.now=100000
  ·have HI:Hid (TickP h 7 h):=.inr (.inl ⟨HK.out,hnow,rfl,rfl⟩)
   have hc:=Aht h y _ W4 H4 hnow;clear hnow;obtain⟨tv,bv,xv,dv,kY,HH⟩:=H4;obtain⟨k1,l1,k2,l2,k3,l3,k4,l4,rfl,rfl,rfl,rfl⟩:=HH.v.shapes;go_wp2_with (go_at_call 22;refine hc.mono ?_;rintro e w5 ⟨rfl,hb5'⟩;have kY5:=E1 kY hb5';have hB5:=D6 hB24 hb5';have kR5:=kR2.up hB5 hRz;obtain⟨e0,e1,e2,e3,e4,e5⟩:=(D9 kY5).c6;obtain⟨y0,y1,y2,y3,y4,y5⟩:=kR5.c6;obtain⟨f0,f1,f2,f3,f4,f5⟩:=kR5.f6)
   refine R8 Tryz.results52 Tryz.underlying37 rfl J7 kR5 rfl rfl ?_;have hg9:=J2 w5 (w.heap.size+1) (.int .i64 h.now) (.int .i64 h.last) (.slice k1 h.sh.things.length l1) (.slice k2 h.sh.bs.length l2) (.slice k3 h.bs.length l3) (.slice k4 h.ds.length l4);exact⟨⟨h,_,_,_,_,7,rfl,HI.out,.inl (((HH.up hb5').gr hg9 hRz).low (by omega))⟩,L0 (D6 hBw2 hB5) (by omega) _ _ _ _ _ _⟩
  ·have hc:=Ail h y w2 W4 hB24 hE2 hT2 H4 Hbk.out (by omega) hd20 t0 hnow t1
   have ho:TickP h 0 (asksH (goTo {h with now:=h.now+1} h.bs.length) (goTo {h with now:=h.now+1} h.bs.length).bs.length):=.inr (.inr ⟨HK.out,hnow,rfl,rfl⟩);generalize asksH (goTo {h with now:=h.now+1} h.bs.length) (goTo {h with now:=h.now+1} h.bs.length).bs.length=hN at hc ho;have HI:Hid (TickP h 0 hN):=ho;clear hnow ho H4;go_wp2_with (go_at_call 22;refine hc.mono ?_;rintro e w5 ⟨rfl,⟨tv,bv,xv,dv,kY5,HH⟩,hB5⟩;obtain⟨k1,l1,k2,l2,k3,l3,k4,l4,rfl,rfl,rfl,rfl⟩:=HH.v.shapes;have kR5:=kR2.up hB5 hRz;obtain⟨e0,e1,e2,e3,e4,e5⟩:=(D9 kY5).c6;obtain⟨y0,y1,y2,y3,y4,y5⟩:=kR5.c6;obtain⟨f0,f1,f2,f3,f4,f5⟩:=kR5.f6)
   refine R8 Tryz.results52 Tryz.underlying37 rfl J7 kR5 rfl rfl ?_;have hg9:=J2 w5 (w.heap.size+1) (.int .i64 hN.now) (.int .i64 hN.last) (.slice k1 hN.sh.things.length l1) (.slice k2 hN.sh.bs.length l2) (.slice k3 hN.bs.length l3) (.slice k4 hN.ds.length l4);exact⟨⟨hN,_,_,_,_,0,rfl,HI.out,.inl ((HH.gr hg9 hRz).low (by omega))⟩,L0 (D6 hBw2 hB5) (by omega) _ _ _ _ _ _⟩
theorem HPX.up {w w':World} {base:Nat} {h:House} {tv bv xv dv:Value} (H:HPX w base h tv bv xv dv) (hb:Below w.heap.size w w'):HPX w' base h tv bv xv dv:=H.imp (λx=>x.up hb) id
theorem HPX.gr {w w':World} {base r:Nat} {h:House} {tv bv xv dv:Value} (H:HPX w base h tv bv xv dv) (hg:w.grownBy w' (some r)) (hr:r<base):HPX w' base h tv bv xv dv:=H.imp (λx=>x.gr hg hr) id
theorem HPX.low {w:World} {base base':Nat} {h:House} {tv bv xv dv:Value} (H:HPX w base h tv bv xv dv) (hb:base'<=base):HPX w base' h tv bv xv dv:=H.imp (λx=>x.low hb) id
theorem HPX.v {w:World} {base:Nat} {h:House} {tv bv xv dv:Value} (H:HPX w base h tv bv xv dv):HV w h tv bv xv dv:=by
 rcases H with H|⟨rfl,rfl,rfl,rfl,rfl⟩
 ·exact H.v
 ·exact AiV w
theorem Aff (h:House) (tv bv xv dv:Value) (call:ByteArray) (w:World) (hE:Ends w) (hT:ErrT w) (H:HV w h tv bv xv dv) :
  Calls Tryz.prog 21 #[.agg #[.int .i64 h.now,.int .i64 h.last,tv,bv,xv,dv],.string call,.func (.func 22) #[] #[]] w λe w'=>(∃h' tu bu xu du cd,e=.returned (.tuple #[.agg #[.int .i64 h'.now,.int .i64 h'.last,tu,bu,xu,du],.int .i64 cd])/\TickP h cd h'/\HPX w' w.heap.size h' tu bu xu du)/\Below w.heap.size w w':=by
 obtain⟨a1,c1,a2,c2,a3,c3,a4,c4,rfl,rfl,rfl,rfl⟩:=H.shapes;obtain⟨W1,hW1,kA,kR,hB1,hs1⟩:=L1 w [.int .i64 h.now,.int .i64 h.last,.slice a1 h.sh.things.length c1,.slice a2 h.sh.bs.length c2,.slice a3 h.bs.length c3,.slice a4 h.ds.length c4] 37 [.int .i64 0,.int .i64 0,.slice none 0 0,.slice none 0 0,.slice none 0 0,.slice none 0 0] 37;have hc:=Aip h _ _ _ _ call W1 (hE.up hB1) (hT.up hB1) (H.up hB1);have HT:Hid (ErrT W1):=hT.up hB1;clear H hE hT;go_enter Tryz.func21,Tryz.ntmps21
 go_upto_region 1 with fail
 try rw[hW1]
 clear hW1;obtain⟨e0,e1,e2,e3,e4,e5⟩:=kA.c6;go_upto_region 3 with (go_at_call 52;refine hc.mono ?_;rintro e w2 ⟨⟨hN,tu,bu,xu,du,cd,rfl,hP,HX⟩,hb2⟩;obtain⟨k1,l1,k2,l2,k3,l3,k4,l4,rfl,rfl,rfl,rfl⟩:=HX.v.shapes)
 obtain⟨W4,hW4,kX,kT,hb4,hs4⟩:=L1 w2 [.int .i64 hN.now,.int .i64 hN.last,.slice k1 hN.sh.things.length l1,.slice k2 hN.sh.bs.length l2,.slice k3 hN.bs.length l3,.slice k4 hN.ds.length l4] 37 [.int .i64 0] 98;try rw[hW4]
 have hz2:=hb2.size;have kR4:=(kR.up hb2 kR.2.2).up hb4 (by omega);have hB14:=D6 hb2 hb4;have hB4:=D6 hB1 hB14;have HX4:=HX.up hb4;have HP':Hid (TickP h cd hN):=hP;have HE:Hid (ErrT W4):=HT.out.up hB14;clear hW4 e0 e1 e2 e3 e4 e5 kA kR hB1 hc hP hb2 hB14 HT;have hRz:w.heap.size+1<W1.heap.size:=by omega
 by_cases h0:cd=0
 ·subst h0
  rw[show runE call 0=.nilIface from rfl];obtain⟨x0,x1,x2,x3,x4,x5⟩:=kX.c6;obtain⟨y0,y1,y2,y3,y4,y5⟩:=kR4.c6;obtain⟨f0,f1,f2,f3,f4,f5⟩:=kR4.f6;go_wp2_with (go_at_call 53;refine (AkB _ _).mono ?_;rintro e w5 ⟨rfl,hw5⟩;obtain rfl:=hw5.symm;clear hw5)
  refine R8 Tryz.results21 Tryz.underlying37 rfl J7 kR4 rfl rfl ?_;have hg9:=J2 W4 (w.heap.size+1) (.int .i64 hN.now) (.int .i64 hN.last) (.slice k1 hN.sh.things.length l1) (.slice k2 hN.sh.bs.length l2) (.slice k3 hN.bs.length l3) (.slice k4 hN.ds.length l4);exact⟨⟨hN,_,_,_,_,0,rfl,HP'.out,(HX4.gr hg9 hRz).low (by omega)⟩,L0 hB4 (by omega) _ _ _ _ _ _⟩
 ·rw[show runE call cd=.iface 141 (.agg #[.string call,.iface 98 (.agg #[.int .i64 cd])]) by simp[runE,h0]]
  have t0:W4.cell? ⟨w2.heap.size+1,0,none⟩=some (.int .i64 0):=kT.1 0 _ rfl;have t1:W4.frozen? ⟨w2.heap.size+1,0,none⟩=false:=(kT.2.1 0 (by simp)).2;have hc:=Aio call cd (w2.heap.size+1) _ W4 HE.out t0 t1;clear h0;go_upto_region 4 with (go_at_call 53;refine hc.mono ?_;rintro e w5 ⟨rfl,W5,hb5,rfl⟩)
  have kX5:=(kX.up hb5 (by omega)).other (q:=w2.heap.size+1) (j:=0) (u:=.int .i64 cd) (by omega);have kR5:=(kR4.up hb5 (by omega)).other (q:=w2.heap.size+1) (j:=0) (u:=.int .i64 cd) (by omega);have kT5:=(kT.up hb5 (by omega)).set (j:=0) (u:=.int .i64 cd) (by simp);have HX6:=HX.up ((D6 hb4 hb5).setCell (p:=⟨w2.heap.size+1,0,none⟩) (by show _<=w2.heap.size+1;omega) (.int .i64 cd));have hB5:Below w.heap.size w (W5.setCell ⟨w2.heap.size+1,0,none⟩ (.int .i64 cd)):=(D6 hB4 hb5).setCell (p:=⟨w2.heap.size+1,0,none⟩) (by show _<=w2.heap.size+1;omega) _;clear kX kR4 kT hB4 HX4 HX t0 t1 HE hb4 hb5 hc;generalize W5.setCell ⟨w2.heap.size+1,0,none⟩ (.int .i64 cd)=W6 at *;have hX1:W1.heap.size<=w2.heap.size:=hz2;generalize w2.heap.size=X at *;obtain⟨x0,x1,x2,x3,x4,x5⟩:=kX5.c6;have hS1:World.cell? W6.drew ⟨X,0,none⟩=some (.int .i64 hN.now)/\World.cell? W6.drew ⟨X,1,none⟩=some (.int .i64 hN.last)/\World.cell? W6.drew ⟨X,2,none⟩=some (.slice k1 hN.sh.things.length l1)/\World.cell? W6.drew ⟨X,3,none⟩=some (.slice k2 hN.sh.bs.length l2)/\World.cell? W6.drew ⟨X,4,none⟩=some (.slice k3 hN.bs.length l3)/\World.cell? W6.drew ⟨X,5,none⟩=some (.slice k4 hN.ds.length l4)/\World.cell? W6.drew ⟨X+1,0,none⟩=some (.int .i64 cd):=⟨x0,x1,x2,x3,x4,x5,kT5.1 0 _ rfl⟩;have kR6:=kR5.up (A4 _ _).drew kR5.2.2;have kX6:=kX5.up (A4 _ _).drew kX5.2.2;have kT6:=kT5.up (A4 _ _).drew kT5.2.2;have HX7:=HX6.up (A4 _ _).drew;have hB6:=hB5.drew;clear x0 x1 x2 x3 x4 x5 kR5 kX5 kT5 HX6 hB5;refine F5 99 (λw'=>World.cell? w' ⟨X,0,none⟩=some (.int .i64 hN.now)/\World.cell? w' ⟨X,1,none⟩=some (.int .i64 hN.last)/\World.cell? w' ⟨X,2,none⟩=some (.slice k1 hN.sh.things.length l1)/\World.cell? w' ⟨X,3,none⟩=some (.slice k2 hN.sh.bs.length l2)/\World.cell? w' ⟨X,4,none⟩=some (.slice k3 hN.bs.length l3)/\World.cell? w' ⟨X,5,none⟩=some (.slice k4 hN.ds.length l4)/\World.cell? w' ⟨X+1,0,none⟩=some (.int .i64 cd)) (by kernel_rfl) ?_;generalize W6.drew=Y at hS1 kR6 kX6 kT6 HX7 hB6 ⊢
  refine tkx 0 rfl hS1 ?_;refine tkx 1 rfl hS1 ?_;refine tkx 2 rfl hS1 ?_;have hg9:=J2 Y (w.heap.size+1) (.int .i64 hN.now) (.int .i64 hN.last) (.slice k1 hN.sh.things.length l1) (.slice k2 hN.sh.bs.length l2) (.slice k3 hN.bs.length l3) (.slice k4 hN.ds.length l4);have kX9:=kX6.kept hg9 (by simp;omega);have kT9:=kT6.kept hg9 (by simp;omega);have hS9:=(⟨kX9.c6.1,kX9.c6.2.1,kX9.c6.2.2.1,kX9.c6.2.2.2.1,kX9.c6.2.2.2.2.1,kX9.c6.2.2.2.2.2,kT9.1 0 _ rfl⟩:_/\_/\_/\_/\_/\_/\_);obtain⟨y0,y1,y2,y3,y4,y5⟩:=kR6.c6;obtain⟨f0,f1,f2,f3,f4,f5⟩:=kR6.f6;refine D8 (i:=3) (by kernel_rfl) rfl (λK hK=>?_);go_simp
  refine hK.out _ _ (λ_=>hS9) ?_;clear hK K;refine D8 (i:=4) (by kernel_rfl) rfl (λK hK=>?_);go_simp
  refine hK.out _ _ (λ_=>hS9) ?_;clear hK K;refine F0 (by kernel_rfl) ?_ _;go_wp2_with fail
  refine R8 Tryz.results21 Tryz.underlying37 rfl J7 kR6 rfl rfl ?_;exact⟨⟨hN,_,_,_,_,cd,rfl,HP'.out,(HX7.gr hg9 hRz).low (by omega)⟩,L0 hB6 (by omega) _ _ _ _ _ _⟩
theorem AfB (h:House) (tv bv xv dv:Value) (w:World) (hE:Ends w) (hT:ErrT w) (H:HV w h tv bv xv dv) :
  Calls Tryz.prog 7 #[.agg #[.int .i64 h.now,.int .i64 h.last,tv,bv,xv,dv]] w λe w'=>(∃h' tu bu xu du cd,e=.returned (.tuple #[.agg #[.int .i64 h'.now,.int .i64 h'.last,tu,bu,xu,du],.int .i64 cd])/\TickP h cd h'/\HPX w' w.heap.size h' tu bu xu du)/\Below w.heap.size w w':=by
 obtain⟨a1,c1,a2,c2,a3,c3,a4,c4,rfl,rfl,rfl,rfl⟩:=H.shapes;obtain⟨W1,hW1,kA,kR,hB1,hs1⟩:=L1 w [.int .i64 h.now,.int .i64 h.last,.slice a1 h.sh.things.length c1,.slice a2 h.sh.bs.length c2,.slice a3 h.bs.length c3,.slice a4 h.ds.length c4] 37 [.int .i64 0,.int .i64 0,.slice none 0 0,.slice none 0 0,.slice none 0 0,.slice none 0 0] 37;have hc:=Aff h _ _ _ _ ⟨#[116,105,99,107]⟩ W1 (hE.up hB1) (hT.up hB1) (H.up hB1);clear H hE hT;go_enter Tryz.func7,Tryz.ntmps7
 go_upto_region 1 with fail
 try rw[hW1]
 clear hW1;obtain⟨e0,e1,e2,e3,e4,e5⟩:=kA.c6;go_wp2_with (go_at_call 21;refine hc.mono ?_;rintro e w2 ⟨⟨hN,tu,bu,xu,du,cd,rfl,hP,HX⟩,hb2⟩;obtain⟨k1,l1,k2,l2,k3,l3,k4,l4,rfl,rfl,rfl,rfl⟩:=HX.v.shapes;have kR2:=kR.up hb2 kR.2.2;obtain⟨y0,y1,y2,y3,y4,y5⟩:=kR2.c6;obtain⟨f0,f1,f2,f3,f4,f5⟩:=kR2.f6)
 refine R8 Tryz.results7 Tryz.underlying37 rfl J7 kR2 rfl rfl ?_;have hg9:=J2 w2 (w.heap.size+1) (.int .i64 hN.now) (.int .i64 hN.last) (.slice k1 hN.sh.things.length l1) (.slice k2 hN.sh.bs.length l2) (.slice k3 hN.bs.length l3) (.slice k4 hN.ds.length l4);exact⟨⟨hN,_,_,_,_,cd,rfl,hP,(HX.gr hg9 (by omega)).low (by omega)⟩,L0 (D6 hB1 hb2) (by omega) _ _ _ _ _ _⟩
theorem P8 {α:Type} {f:α->List Value} {s:Nat} (hf:∀a,(f a).length=s) {w:World} {base e g n cap k j:Nat} {l:List α} {a a':α} {u:Value} (h:w.ownsRow base e s (.slice (some ⟨g,0,none⟩) n cap) n (rowsF f (l.set k a))) (hk:k<l.length) (hj:j<s) (hu:f a'=(f a).set j u) :
  (w.setCell ⟨g,k*s+j,none⟩ u).ownsRow base e s (.slice (some ⟨g,0,none⟩) n cap) n (rowsF f (l.set k a'))/\w.grownBy (w.setCell ⟨g,k*s+j,none⟩ u) (some g):=by
 have h0:=B3 h (k*s+j) u;have e0:=R5 hf (l.set k a) k a a' j u (D0 hk) hj hu;rw[List.set_set] at e0;refine⟨?_,E0 (rb:=g) (E4 _ _) _⟩;rw[← e0];exact h0.1
theorem S6 {α:Type} {f:α->List Value} {s:Nat} (hf:∀a,(f a).length=s) {w:World} {base e g n cap k:Nat} {l:List α} {a:α} (h:w.ownsRow base e s (.slice (some ⟨g,0,none⟩) n cap) n (rowsF f (l.set k a))) (hk:k<l.length):w.rangeAt g (k*s) (f a):=G8 hf h (D0 hk)
def mkSl (m:Int):Sl:=⟨mkB m,mkB (m+1)⟩
def MarkedS (l:List Sl) (m:Int) (k:Nat):Prop:=∀i:Nat,i<k->l[i]?=some (mkSl (m+2*i))
theorem MarkedS.set {l:List Sl} {m:Int} {k:Nat} (h:MarkedS l m k) (hk:k<l.length):MarkedS (l.set k (mkSl (m+2*k))) m (k+1):=λi hi=>by
 rw[List.getElem?_set];by_cases e:k=i
 ·subst e;rw[if_pos rfl,if_pos hk]
 ·rw[if_neg e];exact h i (by omega)
theorem Aki (l:List Sl) (base:Nat) (u:Value) (m:Int) (w:World) (h:w.ownsRow base 169 2 u l.length (rowsF Sl.cells l)) (hn:l.length<=1000) (hm:1<=m) (hm9:m<=1000000) :
  Calls Tryz.prog 67 #[u,.int .i64 m] w λe w'=>e=.returned (.int .i64 (m+2*l.length))/\(∃ys,ys.length=l.length/\MarkedS ys m l.length/\w'.ownsRow base 169 2 u ys.length (rowsF Sl.cells ys))/\w.grownBy w' u.ownBlock:=by
 by_cases h0:l=[]
 ·subst h0
  obtain⟨a1,c1,rfl⟩:=F2 h;simp only[List.length_nil];have HO:Hid (w.ownsRow base 169 2 (.slice a1 0 c1) 0 []):=h;clear h;go_enter Tryz.func67,Tryz.ntmps67
  go_wp2
  go_rounds 1
  go_ret
  exact⟨by simp,⟨[],rfl,λi hi=>by omega,HO.out⟩,E4 _ _⟩
 have hpos:0<l.length:=by
  rcases C4 l.length with h1|h1
  ·exact absurd (C5.1 h1) h0
  ·exact h1
 obtain⟨g,cap,rfl⟩:=F4 h hpos;go_enter Tryz.func67,Tryz.ntmps67
 go_wp2
 go_loopw [1,5] (λkk i w'=>∃(k:Nat) (ys:List Sl),k<=l.length/\i=.int .i64 k/\kk=.int .i64 (m+2*k)/\ys.length=l.length/\MarkedS ys m k/\w'.ownsRow base 169 2 (.slice (some ⟨g,0,none⟩) l.length cap) l.length (rowsF Sl.cells ys)/\w.grownBy w' (some g)) (λ_ i _=>l.length-(intOf i).toNat)
 case atStart=>exact⟨0,l,by omega,rfl,by simp,rfl,λi hi=>by omega,h,E4 _ _⟩
 case round =>
  obtain⟨k,ys,hk,rfl,rfl,hyl,hM,hown,hG⟩:=hrel;by_cases hp:k<l.length
  ·have hky:k<ys.length:=by omega
   obtain⟨a,ha⟩:∃a,ys.set k a=ys:=⟨ys[k],List.set_getElem_self hky⟩;have HM:Hid (MarkedS (ys.set k (mkSl (m+2*k))) m (k+1)):=hM.set hky;have Hyl:Hid (ys.length=l.length):=hyl;rw[← ha] at hown;clear hM hyl ha;go_wp2_with fail
   refine (F7 (m+2*k) wr (by omega)).mono ?_;rintro e w1 ⟨rfl,hB1⟩;have hG1:=E3 hG (L3 (r:=some g) hB1);have hown1:=E1 hown hB1;have c0:=S6 M9 hown1 hky 0 _ rfl;have f0:=hown1.frozenAt (k*2);obtain⟨r1,r2⟩:=P8 M9 (a':=⟨mkB (m+2*k),a.t⟩) hown1 hky (j:=0) (by omega) rfl;have hG2:=E3 hG1 r2;rw[Nat.add_zero] at c0 r1 hG2;clear hown hown1 hG hG1 r2 hB1;go_wp2_with fail
   refine (F7 (m+2*k+1) _ (by omega)).mono ?_;rintro e w2 ⟨rfl,hB2⟩;have hG3:=E3 hG2 (L3 (r:=some g) hB2);have hown2:=E1 r1 hB2;have c1:=S6 M9 hown2 hky 1 _ rfl;have f1:=hown2.frozenAt (k*2+1);obtain⟨r3,r4⟩:=P8 M9 (a':=mkSl (m+2*k)) hown2 hky (j:=1) (by omega) rfl;have hG4:=E3 hG3 r4;have HR:Hid ((w2.setCell ⟨g,k*2+1,none⟩ (.string (mkB (m+2*k+1)))).ownsRow base 169 2 (.slice (some ⟨g,0,none⟩) l.length cap) l.length (rowsF Sl.cells (ys.set k (mkSl (m+2*k))))):=r3;clear c0 f0 r1 hG2 hG3 hown2 r3 r4 hB2;go_wp2_with fail
   go_roundw
   case rel=>exact⟨k+1,_,by omega,by go_num,by go_num,by rw[List.length_set];exact Hyl.out,HM.out,HR.out,hG4⟩
   case measure=>simp[intOf];omega
  ·obtain rfl:k=l.length:=by omega
   go_wp2_with fail
   go_ret
   exact⟨rfl,⟨ys,hyl,hM,by rw[hyl];exact hown⟩,hG⟩
theorem Akj (l:List Sl) (base:Nat) (u:Value) (m:Int) (w:World) (h:w.ownsRow base 169 2 u l.length (rowsF Sl.cells l)) (hM:MarkedS l m l.length) (hn:l.length<=1000) (hm:1<=m) (hm9:m<=1000000) :
  Calls Tryz.prog 71 #[u,.int .i64 m] w λe w'=>e=.returned (.int .i64 (m+2*l.length))/\Below w.heap.size w w':=by
 by_cases h0:l=[]
 ·subst h0
  obtain⟨a1,c1,rfl⟩:=F2 h;simp only[List.length_nil];clear h hM;go_enter Tryz.func71,Tryz.ntmps71
  go_wp2
  go_rounds 1
  go_ret
  exact⟨by simp,A4 _ _⟩
 have hpos:0<l.length:=by
  rcases C4 l.length with h1|h1
  ·exact absurd (C5.1 h1) h0
  ·exact h1
 obtain⟨g,cap,rfl⟩:=F4 h hpos;have hgl:=(h.lt g rfl).2;have HC:Hid (∀(k j:Nat) (v:Value),k<l.length->(mkSl (m+2*k)).cells[j]?=some v->∀W,Below w.heap.size w W->World.cell? W ⟨g,k*2+j,none⟩=some v):=λk j v hk hv W hW=>(hW.cell (p:=⟨g,k*2+j,none⟩) hgl).trans (G8 M9 h (hM k hk) j v hv);clear hM h0 h;go_enter Tryz.func71,Tryz.ntmps71
 go_wp2
 go_loopw [1,5] (λkk i w'=>∃k:Nat,k<=l.length/\i=.int .i64 k/\kk=.int .i64 (m+2*k)/\Below w.heap.size w w') (λ_ i _=>l.length-(intOf i).toNat)
 case atStart=>exact⟨0,by omega,rfl,by simp,A4 _ _⟩
 case round =>
  obtain⟨k,hk,rfl,rfl,hB⟩:=hrel;by_cases hp:k<l.length
  ·have hS:Below w.heap.size w wr/\World.cell? wr ⟨g,k*2,none⟩=some (.string (mkB (m+2*k))):=⟨hB,HC.out k 0 _ hp rfl wr hB⟩
   clear hB;go_wp2_with fail;go_region_held (λw'=>Below w.heap.size w w'/\World.cell? w' ⟨g,k*2,none⟩=some (.string (mkB (m+2*k)))) (first|exact⟨hS.1.drew,hS.2⟩|exact Aab hgl (by assumption) (by assumption)) (first|(go_at_call 65;refine (F7 (m+2*k) _ (by omega)).mono ?_;rintro e w1 ⟨rfl,hB1⟩))
   rename_i hH1;have hB3:=hH1.1;clear hH1 hS;have hS:Below w.heap.size w w1/\World.cell? w1 ⟨g,k*2+1,none⟩=some (.string (mkB (m+2*k+1))):=⟨hB3,HC.out k 1 _ hp rfl w1 hB3⟩;clear hB3;go_wp2_with fail;go_region_held (λw'=>Below w.heap.size w w'/\World.cell? w' ⟨g,k*2+1,none⟩=some (.string (mkB (m+2*k+1)))) (first|exact⟨hS.1.drew,hS.2⟩|exact Aab hgl (by assumption) (by assumption)) (first|(go_at_call 65;refine (F7 (m+2*k+1) _ (by omega)).mono ?_;rintro e w1 ⟨rfl,hB1⟩))
   rename_i hH2;have hB4:=hH2.1;clear hH2 hS;go_wp2_with fail
   go_roundw
   case rel=>exact⟨k+1,by omega,by go_num,by go_num,hB4⟩
   case measure=>simp[intOf];omega
  ·obtain rfl:k=l.length:=by omega
   go_wp2_with fail
   go_ret
   exact⟨rfl,hB⟩
def mkPh (m:Int):Ph:=⟨mkB m,m+1,mkB (m+2),mkB (m+3),m+4,m+5,mkB (m+6),mkB (m+7)⟩
def MarkedP (l:List Ph) (m:Int) (k:Nat):Prop:=∀i:Nat,i<k->l[i]?=some (mkPh (m+8*i))
theorem MarkedP.set {l:List Ph} {m:Int} {k:Nat} (h:MarkedP l m k) (hk:k<l.length):MarkedP (l.set k (mkPh (m+8*k))) m (k+1):=λi hi=>by
 rw[List.getElem?_set];by_cases e:k=i
 ·subst e;rw[if_pos rfl,if_pos hk]
 ·rw[if_neg e];exact h i (by omega)
theorem Akk (l:List Ph) (base:Nat) (u:Value) (m:Int) (w:World) (h:w.ownsRow base 84 8 u l.length (rowsF Ph.cells l)) (hn:l.length<=1000) (hm:1<=m) (hm9:m<=1000000) :
  Calls Tryz.prog 66 #[u,.int .i64 m] w λe w'=>e=.returned (.int .i64 (m+8*l.length))/\(∃ys,ys.length=l.length/\MarkedP ys m l.length/\w'.ownsRow base 84 8 u ys.length (rowsF Ph.cells ys))/\w.grownBy w' u.ownBlock:=by
 by_cases h0:l=[]
 ·subst h0
  obtain⟨a1,c1,rfl⟩:=F2 h;simp only[List.length_nil];have HO:Hid (w.ownsRow base 84 8 (.slice a1 0 c1) 0 []):=h;clear h;go_enter Tryz.func66,Tryz.ntmps66
  go_wp2
  go_rounds 1
  go_ret
  exact⟨by simp,⟨[],rfl,λi hi=>by omega,HO.out⟩,E4 _ _⟩
 have hpos:0<l.length:=by
  rcases C4 l.length with h1|h1
  ·exact absurd (C5.1 h1) h0
  ·exact h1
 obtain⟨g,cap,rfl⟩:=F4 h hpos;go_enter Tryz.func66,Tryz.ntmps66
 go_wp2
 go_loopw [1,5] (λkk i w'=>∃(k:Nat) (ys:List Ph),k<=l.length/\i=.int .i64 k/\kk=.int .i64 (m+8*k)/\ys.length=l.length/\MarkedP ys m k/\w'.ownsRow base 84 8 (.slice (some ⟨g,0,none⟩) l.length cap) l.length (rowsF Ph.cells ys)/\w.grownBy w' (some g)) (λ_ i _=>l.length-(intOf i).toNat)
 case atStart=>exact⟨0,l,by omega,rfl,by simp,rfl,λi hi=>by omega,h,E4 _ _⟩
 case round =>
  obtain⟨k,ys,hk,rfl,rfl,hyl,hM,hown,hG⟩:=hrel;by_cases hp:k<l.length
  ·have hky:k<ys.length:=by omega
   obtain⟨a,ha⟩:∃a,ys.set k a=ys:=⟨ys[k],List.set_getElem_self hky⟩;have HM:Hid (MarkedP (ys.set k (mkPh (m+8*k))) m (k+1)):=hM.set hky;have Hyl:Hid (ys.length=l.length):=hyl;rw[← ha] at hown
   have HX:Hid (∀x:Int,x=m+8*k->mkPh (m+8*k)=⟨mkB x,x+1,mkB (x+1+1),mkB (x+1+1+1),x+1+1+1+1,x+1+1+1+1+1,mkB (x+1+1+1+1+1+1),mkB (x+1+1+1+1+1+1+1)⟩):=λx hx=>by
    subst hx;unfold mkPh;congr 1<;>(first|rfl|(congr 1;omega)|omega)
   clear hM hyl ha h;have R0:=hown;have G0:=hG;clear hown hG;go_wp2_with fail
   refine (F7 (m+8*k) _ (by omega)).mono ?_;rintro e w1 ⟨rfl,hB1⟩;have U1:=E1 R0 hB1;have V1:=E3 G0 (L3 (r:=some g) hB1);clear R0 G0 hB1;have c0:=S6 G9 U1 hky 0 _ rfl;have f0:=U1.frozenAt (k*8+0);have c1:=S6 G9 U1 hky 1 _ rfl;have f1:=U1.frozenAt (k*8+1);have T0:=P8 G9 (a':=⟨mkB (m+8*k),a.k,a.a,a.b,a.n,a.wi,a.t,a.e⟩) U1 hky (j:=0) (by omega) rfl;have P0:=T0.1;have Q0:=E3 V1 T0.2;have T1:=P8 G9 (a':=⟨mkB (m+8*k),m+8*k+1,a.a,a.b,a.n,a.wi,a.t,a.e⟩) P0 hky (j:=1) (by omega) rfl;have P1:=T1.1;have Q1:=E3 Q0 T1.2;rw[Nat.add_zero] at c0 f0;simp only[Nat.add_zero] at P1 Q1;clear T0 T1 P0 Q0 U1 V1;go_wp2_with fail
   refine (F7 (m+8*k+1+1) _ (by omega)).mono ?_;rintro e w2 ⟨rfl,hB2⟩;clear c0 f0 c1 f1;have U2:=E1 P1 hB2;have V2:=E3 Q1 (L3 (r:=some g) hB2);clear P1 Q1 hB2;have c2:=S6 G9 U2 hky 2 _ rfl;have f2:=U2.frozenAt (k*8+2);have T2:=P8 G9 (a':=⟨mkB (m+8*k),m+8*k+1,mkB (m+8*k+1+1),a.b,a.n,a.wi,a.t,a.e⟩) U2 hky (j:=2) (by omega) rfl;have P2:=T2.1;have Q2:=E3 V2 T2.2;clear T2 U2 V2;go_wp2_with fail
   refine (F7 (m+8*k+1+1+1) _ (by omega)).mono ?_;rintro e w3 ⟨rfl,hB3⟩;clear c2 f2;have U3:=E1 P2 hB3;have V3:=E3 Q2 (L3 (r:=some g) hB3);clear P2 Q2 hB3;have c3:=S6 G9 U3 hky 3 _ rfl;have f3:=U3.frozenAt (k*8+3);have c4:=S6 G9 U3 hky 4 _ rfl;have f4:=U3.frozenAt (k*8+4);have c5:=S6 G9 U3 hky 5 _ rfl;have f5:=U3.frozenAt (k*8+5);have T3:=P8 G9 (a':=⟨mkB (m+8*k),m+8*k+1,mkB (m+8*k+1+1),mkB (m+8*k+1+1+1),a.n,a.wi,a.t,a.e⟩) U3 hky (j:=3) (by omega) rfl;have P3:=T3.1;have Q3:=E3 V3 T3.2;have T4:=P8 G9 (a':=⟨mkB (m+8*k),m+8*k+1,mkB (m+8*k+1+1),mkB (m+8*k+1+1+1),m+8*k+1+1+1+1,a.wi,a.t,a.e⟩) P3 hky (j:=4) (by omega) rfl;have P4:=T4.1;have Q4:=E3 Q3 T4.2;have T5:=P8 G9 (a':=⟨mkB (m+8*k),m+8*k+1,mkB (m+8*k+1+1),mkB (m+8*k+1+1+1),m+8*k+1+1+1+1,m+8*k+1+1+1+1+1,a.t,a.e⟩) P4 hky (j:=5) (by omega) rfl;have P5:=T5.1;have Q5:=E3 Q4 T5.2;clear T3 T4 T5 P3 P4 Q3 Q4 U3 V3;go_wp2_with fail
   refine (F7 (m+8*k+1+1+1+1+1+1) _ (by omega)).mono ?_;rintro e w4 ⟨rfl,hB4⟩;clear c3 f3 c4 f4 c5 f5;have U4:=E1 P5 hB4;have V4:=E3 Q5 (L3 (r:=some g) hB4);clear P5 Q5 hB4;have c6:=S6 G9 U4 hky 6 _ rfl;have f6:=U4.frozenAt (k*8+6);have T6:=P8 G9 (a':=⟨mkB (m+8*k),m+8*k+1,mkB (m+8*k+1+1),mkB (m+8*k+1+1+1),m+8*k+1+1+1+1,m+8*k+1+1+1+1+1,mkB (m+8*k+1+1+1+1+1+1),a.e⟩) U4 hky (j:=6) (by omega) rfl;have P6:=T6.1;have Q6:=E3 V4 T6.2;clear T6 U4 V4;go_wp2_with fail
   refine (F7 (m+8*k+1+1+1+1+1+1+1) _ (by omega)).mono ?_;rintro e w5 ⟨rfl,hB5⟩;clear c6 f6;have U5:=E1 P6 hB5;have V5:=E3 Q6 (L3 (r:=some g) hB5);clear P6 Q6 hB5;have c7:=S6 G9 U5 hky 7 _ rfl;have f7:=U5.frozenAt (k*8+7);have T7:=P8 G9 (a':=⟨mkB (m+8*k),m+8*k+1,mkB (m+8*k+1+1),mkB (m+8*k+1+1+1),m+8*k+1+1+1+1,m+8*k+1+1+1+1+1,mkB (m+8*k+1+1+1+1+1+1),mkB (m+8*k+1+1+1+1+1+1+1)⟩) U5 hky (j:=7) (by omega) rfl;have P7:=T7.1;have Q7:=E3 V5 T7.2;clear T7 U5 V5
   have HR:Hid ((w5.setCell ⟨g,k*8+7,none⟩ (.string (mkB (m+8*k+1+1+1+1+1+1+1)))).ownsRow base 84 8 (.slice (some ⟨g,0,none⟩) l.length cap) l.length (rowsF Ph.cells (ys.set k (mkPh (m+8*k))))):=by
    show _
    rw[HX.out _ rfl];exact P7
   clear P7;go_wp2_with fail
   go_roundw
   case rel=>exact⟨k+1,_,by omega,by go_num,by go_num,by rw[List.length_set];exact Hyl.out,HM.out,HR.out,Q7⟩
   case measure=>simp[intOf];omega
  ·obtain rfl:k=l.length:=by omega
   go_wp2_with fail
   go_ret
   exact⟨rfl,⟨ys,hyl,hM,by rw[hyl];exact hown⟩,hG⟩
theorem Akl (l:List Ph) (base:Nat) (u:Value) (m:Int) (w:World) (h:w.ownsRow base 84 8 u l.length (rowsF Ph.cells l)) (hM:MarkedP l m l.length) (hn:l.length<=1000) (hm:1<=m) (hm9:m<=1000000) :
  Calls Tryz.prog 70 #[u,.int .i64 m] w λe w'=>e=.returned (.int .i64 (m+8*l.length))/\Below w.heap.size w w':=by
 by_cases h0:l=[]
 ·subst h0
  obtain⟨a1,c1,rfl⟩:=F2 h;simp only[List.length_nil];clear h hM;go_enter Tryz.func70,Tryz.ntmps70
  go_wp2
  go_rounds 1
  go_ret
  exact⟨by simp,A4 _ _⟩
 have hpos:0<l.length:=by
  rcases C4 l.length with h1|h1
  ·exact absurd (C5.1 h1) h0
  ·exact h1
 obtain⟨g,cap,rfl⟩:=F4 h hpos;have hgl:=(h.lt g rfl).2;have HC:Hid (∀(k j:Nat) (v:Value),k<l.length->(mkPh (m+8*k)).cells[j]?=some v->∀W,Below w.heap.size w W->World.cell? W ⟨g,k*8+j,none⟩=some v):=λk j v hk hv W hW=>(hW.cell (p:=⟨g,k*8+j,none⟩) hgl).trans (G8 G9 h (hM k hk) j v hv);clear hM h0 h;go_enter Tryz.func70,Tryz.ntmps70
 go_wp2
 go_loopw [1,5] (λkk i w'=>∃(k:Nat) (y:Int),k<=l.length/\i=.int .i64 k/\kk=.int .i64 y/\y=m+8*k/\Below w.heap.size w w') (λ_ i _=>l.length-(intOf i).toNat)
 case atStart=>exact⟨0,m,by omega,rfl,rfl,by simp,A4 _ _⟩
 case round =>
  obtain⟨k,y,hk,rfl,rfl,hy,hB⟩:=hrel;by_cases hp:k<l.length
  ·have hy9:y<=1010000:=by omega
   have hy1:1<=y:=by omega
   have HD:Hid (∀(j:Nat) (v:Value),(mkPh y).cells[j]?=some v->∀W,Below w.heap.size w W->World.cell? W ⟨g,k*8+j,none⟩=some v):=λj v hv=>HC.out k j v hp (by rw[← hy];exact hv);have Hy:Hid (y=m+8*k):=hy;have q1:y+1+1=y+2:=by omega
   have q2:y+2+1=y+3:=by omega
   have q3:y+3+1=y+4:=by omega
   have q4:y+4+1=y+5:=by omega
   have q5:y+5+1=y+6:=by omega
   have q6:y+6+1=y+7:=by omega
   have q7:y+7+1=y+8:=by omega
   have hS:Below w.heap.size w wr/\World.cell? wr ⟨g,k*8,none⟩=some (.string (mkB y)):=⟨hB,HD.out 0 _ rfl wr hB⟩;clear hB hy;go_wp2_with fail;go_region_held (λw'=>Below w.heap.size w w'/\World.cell? w' ⟨g,k*8,none⟩=some (.string (mkB (y)))) (first|exact⟨hS.1.drew,hS.2⟩|exact Aab hgl (by assumption) (by assumption)) (first|(go_at_call 65;refine (F7 (y) _ (by omega)).mono ?_;rintro e w1 ⟨rfl,hB1⟩))
   rename_i hH1;have hB:=hH1.1;clear hH1 hS;have d1:World.cell? w1 ⟨g,k*8+1,none⟩=some (.int .i64 (y+1)):=HD.out 1 _ rfl w1 hB;have hS:Below w.heap.size w w1/\World.cell? w1 ⟨g,k*8+2,none⟩=some (.string (mkB (y+2))):=⟨hB,HD.out 2 _ rfl w1 hB⟩;clear hB;obtain⟨w0,rfl⟩:∃w0,w0=w1:=⟨_,rfl⟩;go_wp2_with fail;go_region_held (λw'=>Below w.heap.size w w'/\World.cell? w' ⟨g,k*8+2,none⟩=some (.string (mkB (y+2)))) (first|exact⟨hS.1.drew,hS.2⟩|exact Aab hgl (by assumption) (by assumption)) (first|(go_at_call 65;refine (F7 (y+2) _ (by omega)).mono ?_;rintro e w1 ⟨rfl,hB1⟩))
   rename_i hH1;have hB:=hH1.1;clear hH1 hS d1;have hS:Below w.heap.size w w1/\World.cell? w1 ⟨g,k*8+3,none⟩=some (.string (mkB (y+3))):=⟨hB,HD.out 3 _ rfl w1 hB⟩;clear hB;obtain⟨w0,rfl⟩:∃w0,w0=w1:=⟨_,rfl⟩;go_wp2_with fail;go_region_held (λw'=>Below w.heap.size w w'/\World.cell? w' ⟨g,k*8+3,none⟩=some (.string (mkB (y+3)))) (first|exact⟨hS.1.drew,hS.2⟩|exact Aab hgl (by assumption) (by assumption)) (first|(go_at_call 65;refine (F7 (y+3) _ (by omega)).mono ?_;rintro e w1 ⟨rfl,hB1⟩))
   rename_i hH1;have hB:=hH1.1;clear hH1 hS;have d4:World.cell? w1 ⟨g,k*8+4,none⟩=some (.int .i64 (y+4)):=HD.out 4 _ rfl w1 hB;have d5:World.cell? w1 ⟨g,k*8+5,none⟩=some (.int .i64 (y+5)):=HD.out 5 _ rfl w1 hB;have hS:Below w.heap.size w w1/\World.cell? w1 ⟨g,k*8+6,none⟩=some (.string (mkB (y+6))):=⟨hB,HD.out 6 _ rfl w1 hB⟩;clear hB;obtain⟨w0,rfl⟩:∃w0,w0=w1:=⟨_,rfl⟩;go_wp2_with fail;go_region_held (λw'=>Below w.heap.size w w'/\World.cell? w' ⟨g,k*8+6,none⟩=some (.string (mkB (y+6)))) (first|exact⟨hS.1.drew,hS.2⟩|exact Aab hgl (by assumption) (by assumption)) (first|(go_at_call 65;refine (F7 (y+6) _ (by omega)).mono ?_;rintro e w1 ⟨rfl,hB1⟩))
   rename_i hH1;have hB:=hH1.1;clear hH1 hS d4 d5;have hS:Below w.heap.size w w1/\World.cell? w1 ⟨g,k*8+7,none⟩=some (.string (mkB (y+7))):=⟨hB,HD.out 7 _ rfl w1 hB⟩;clear hB;obtain⟨w0,rfl⟩:∃w0,w0=w1:=⟨_,rfl⟩;go_wp2_with fail;go_region_held (λw'=>Below w.heap.size w w'/\World.cell? w' ⟨g,k*8+7,none⟩=some (.string (mkB (y+7)))) (first|exact⟨hS.1.drew,hS.2⟩|exact Aab hgl (by assumption) (by assumption)) (first|(go_at_call 65;refine (F7 (y+7) _ (by omega)).mono ?_;rintro e w1 ⟨rfl,hB1⟩))
   rename_i hH1;have hB:=hH1.1;clear hH1 hS;go_wp2_with fail
   go_roundw
   case rel=>exact⟨k+1,_,by omega,by go_num,rfl,by rw[Hy.out];omega,hB⟩
   case measure=>simp[intOf];omega
  ·obtain rfl:k=l.length:=by omega
   subst hy;go_wp2_with fail
   go_ret
   exact⟨rfl,hB⟩
end Go.Proofs.YtebfdccbmmpceaaGreatDoor
