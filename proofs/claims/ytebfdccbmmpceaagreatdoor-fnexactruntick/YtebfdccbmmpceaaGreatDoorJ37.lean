/- The specification's l23On (chapter 23): a batch goes on to an end. -/
import Derived.Test.YtebfdccbmmpceaaGreatDoorJ36
import Derived.Test.YtebfdccbmmpceaaGreatDoorJ19
import Derived.Test.YtebfdccbmmpceaaGreatDoorJ27
import Derived.Test.YtebfdccbmmpceaaGreatDoorJ28
import Derived.Deep.Cut
import Derived.Test.YtebfdccbmmpceaaGreatDoorJ29
set_option maxRecDepth 20000
set_option maxHeartbeats 8000000
namespace Go.Proofs.YtebfdccbmmpceaaGreatDoor
open Go.RowKit
structure EV (w:World) (base:Nat) (dvb:Option Nat) (X:World) (cs:List Value) (bk:Value) (B':Bk) (ps:List Rv) (xv:Value) (rs:List Rv) (du:Value) (es:List Done):Prop where
 A:X.ownsRow w.heap.size 37 6 (.slice (some ⟨w.heap.size,0,none⟩) 1 1) 1 cs
 R:X.ownsRow w.heap.size 37 6 (.slice (some ⟨w.heap.size+1,0,none⟩) 1 1) 1 [.int .i64 0,.int .i64 0,.slice none 0 0,.slice none 0 0,.slice none 0 0,.slice none 0 0]
 K:BkW X base bk B'
 P:∀p∈ps,RcW X base p
 M:X.ownsRow base 52 6 xv rs.length (rowsF rowR rs)
 D:DnsW X base du es
 G:w.grownBy X dvb
theorem EV.up {w:World} {base:Nat} {dvb:Option Nat} {X X':World} {cs:List Value} {bk:Value} {B':Bk} {ps:List Rv} {xv:Value} {rs:List Rv} {du:Value} {es:List Done} (H:EV w base dvb X cs bk B' ps xv rs du es) (hb:Below X.heap.size X X'):EV w base dvb X' cs bk B' ps xv rs du es :=
 ⟨E1 H.A hb,E1 H.R hb,H.K.up hb,λp hp=>(H.P p hp).up hb,E1 H.M hb,H.D.up hb,⟨hb.os.trans H.G.os,hb.tape.trans H.G.tape,hb.output.trans H.G.output,B1 H.G.size hb.size,λi hi hne=>(hb.block i (A1 hi H.G.size)).trans (H.G.block i hi hne)⟩⟩
theorem EV.put {w:World} {base:Nat} {dvb:Option Nat} {X:World} {cs:List Value} {bk:Value} {B':Bk} {ps:List Rv} {xv:Value} {rs:List Rv} {du:Value} {es:List Done} (H:EV w base dvb X cs bk B' ps xv rs du es) (j:Nat) (u:Value):EV w base dvb (X.setCell ⟨w.heap.size,j,none⟩ u) (cs.set j u) bk B' ps xv rs du es:=by
 obtain⟨h1,hg⟩:=J6 (j:=j) H.A u;exact⟨h1,E2 H.R hg (by simp[Value.ownBlock]),H.K.step H.A (by decide) (by decide) hg,λp hp=>(H.P p hp).step H.A (by decide) (by decide) hg,E2 H.M hg (E5 H.M H.A (by decide)),H.D.step H.A (by decide) hg,S8 H.G (A3 _) _⟩
theorem EV.book {w:World} {base:Nat} {dvb:Option Nat} {X:World} {cs:List Value} {bk bk2:Value} {B' B2:Bk} {ps:List Rv} {xv:Value} {rs:List Rv} {du:Value} {es:List Done} (H:EV w base dvb X cs bk B' ps xv rs du es) (hk:BkW X base bk2 B2):EV w base dvb X cs bk2 B2 ps xv rs du es:={H with K:=hk}
theorem EV.rows {w:World} {base:Nat} {dvb:Option Nat} {X:World} {cs:List Value} {bk:Value} {B':Bk} {ps:List Rv} {xv x2:Value} {rs r2:List Rv} {du:Value} {es:List Done} (H:EV w base dvb X cs bk B' ps xv rs du es) (hm:X.ownsRow base 52 6 x2 r2.length (rowsF rowR r2)):EV w base dvb X cs bk B' ps x2 r2 du es:={H with M:=hm}
theorem EV.dn {w:World} {base:Nat} {dvb:Option Nat} {X X':World} {cs:List Value} {bk:Value} {B':Bk} {ps:List Rv} {xv:Value} {rs:List Rv} {du u2:Value} {es e2:List Done} (H:EV w base dvb X cs bk B' ps xv rs du es) (hd:DnsW X' base u2 e2) (hg:X.grownBy X' du.ownBlock) (hw:du.ownBlock=dvb):EV w base dvb X' cs bk B' ps xv rs u2 e2:=by
 obtain⟨g,cap,pre,rfl,h1,-⟩:=id H.D;have hg':X.grownBy X' (Value.slice (some ⟨g,0,none⟩) (pre.length+es.length) (pre.length+cap)).ownBlock:=hg;refine⟨E2 H.A hg' (E5 H.A h1 (by decide)),E2 H.R hg' (E5 H.R h1 (by decide)),H.K.step h1 (by decide) (by decide) hg',λp hp=>(H.P p hp).step h1 (by decide) (by decide) hg',E2 H.M hg' (E5 H.M h1 (by decide)),hd,?_⟩;subst hw;exact E3 H.G hg
theorem EV.cut {w:World} {base:Nat} {dvb:Option Nat} {X:World} {cs:List Value} {bk:Value} {B':Bk} {ps:List Rv} {xv:Value} {rs:List Rv} {du u2:Value} {es e2:List Done} (H:EV w base dvb X cs bk B' ps xv rs du es) (hd:DnsW X base u2 e2):EV w base dvb X cs bk B' ps xv rs u2 e2:={H with D:=hd}
theorem EV.hw {w:World} {base:Nat} {dvb:Option Nat} {X:World} {cs:List Value} {tu bu:Value} {B':Bk} {ps:List Rv} {xv:Value} {rs:List Rv} {du:Value} {es:List Done} (H:EV w base dvb X cs (.agg #[tu,bu]) B' ps xv rs du es) (hz:Szb B') (hs:∀p∈rs,p∈ps) (h:House) (h1:h.sh=B') (h2:h.bs=rs.map (·.1)) (h3:h.ds=es):HW X base h tu bu xv du :=
 ⟨by rw[h1];exact H.K,by rw[h1];exact hz,⟨rs,⟨H.M,λp hp=>H.P p (hs p hp)⟩,h2.symm⟩,by rw[h3];exact H.D⟩
theorem Ahj {w:World} {base g n cap:Nat} {ps:List Rv} (h:w.ownsRow base 52 6 (.slice (some ⟨g,0,none⟩) n cap) n (rowsF rowR ps)) (k:Nat) (qs:List Rv) (hq:∀i p,qs[i]?=some p->ps[k+i]?=some p):∀(j:Nat) (u:Value),(rowsF rowR qs)[j]?=some u->w.cell? ((⟨g,k*6,none⟩:Addr).add j)=some u :=
 O8 (by decide) G6 λi p hp=>by
  have:=G8 G6 h (hq i p hp);rw[Nat.add_mul] at this;exact this
theorem Ang (ps:List Rv) (k:Nat):∀(i:Nat) (q:Rv),(ps.take k)[i]?=some q->ps[0+i]?=some q:=λi q hq=>by
 rw[List.getElem?_take] at hq;split at hq
 ·rw[Nat.zero_add];exact hq
 ·cases hq
theorem Anh (ps:List Rv) (k:Nat):∀(i:Nat) (q:Rv),(ps.drop k)[i]?=some q->ps[k+i]?=some q:=λi q hq=>by rwa [List.getElem?_drop] at hq
theorem Af8 {w:World} {base:Nat} {ps qs:List Rv} (h:∀p∈ps,RcW w base p) (hq:∀p∈qs,p∈ps):∀u∈rowsF rowR qs,u.oneCell'=true:=AaD qs λp hp=>Ac6 (h p (hq p hp))
theorem EV.L {w:World} {base b2:Nat} {dvb:Option Nat} {X:World} {cs c2:List Value} {bk v:Value} {B':Bk} {ps:List Rv} {xv:Value} {rs:List Rv} {du:Value} {es:List Done} (H:EV w base dvb X cs bk B' ps xv rs du es) (hl:X.ownsRow b2 52 6 v 1 c2) (j:Nat) (u:Value):(X.setCell ⟨w.heap.size,j,none⟩ u).ownsRow b2 52 6 v 1 c2 :=
 E2 hl (J6 H.A u).2 (E5 hl H.A (by decide))
theorem AlU (h:House) (tv bv xv dv:Value) (base k:Nat) (x:Rb) (nm:ByteArray) (w:World) (H:HW w base h tv bv xv dv) (hbase:base<=w.heap.size) (hT:Tiny h.sh) (hk:h.bs[k]?=some x) (hend:endN nm≠0) (hnb:h.bs.length<=1048576) (hnd:h.ds.length<=1048576) :
  Calls Tryz.prog 47 #[.agg #[.int .i64 h.now,.int .i64 h.last,tv,bv,xv,dv],.int .i64 k,.string nm] w λe w'=>(∃tu bu xu du,e=.returned (.agg #[.int .i64 h.now,.int .i64 h.last,tu,bu,xu,du])/\Tiny (onH h k nm).sh/\HW w' base (onH h k nm) tu bu xu du/\Where w xv xu/\Where w dv du)/\w.grownBy w' dv.ownBlock:=by
 have HON:Hid (onH h k nm={h with sh:=leaveB h.sh x.nm,bs:=h.bs.take k++h.bs.drop (k+1),ds:=cut20 (h.ds++[⟨x.nm,endN nm,h.now⟩])}):=by show _=_;simp[onH,hk,hend]
 have Hsz:Hid (Szb h.sh):=H.z;have Hdk:Hid (Szb (leaveB h.sh x.nm)/\Tiny (leaveB h.sh x.nm)):=AmR H.z hT;obtain⟨a1,c1,a2,c2,a3,c3,a4,c4,rfl,rfl,rfl,rfl⟩:=H.v.shapes;obtain⟨ps,hW,hm⟩:=H.x;have hpl:ps.length=h.bs.length:=by have:=congrArg List.length hm;rwa [B4] at this
 have hkl:k<h.bs.length:=(A2.1 hk).1;obtain⟨g,cap,eg⟩:=F4 hW.1 (by omega);simp only[Value.slice.injEq] at eg;obtain⟨rfl,-,rfl⟩:=eg
 obtain⟨gd,od,ed⟩:∃gd od,a4=some ⟨gd,od,none⟩:=by
  obtain⟨gd,cap,pre,e,-⟩:=H.d;simp only[Value.slice.injEq] at e;exact⟨gd,_,e.1⟩
 subst ed;obtain⟨⟨y,ru,su⟩,hpk⟩:∃p,ps[k]?=some p:=⟨ps[k]'(by omega),A0 _⟩
 obtain rfl:x=y:=by
  have e:=hk;rw[← hm,B0,hpk] at e;simpa using e.symm
 have hrc:=hW.2 _ (A6 hpk);have hnr:NN ru:=hrc.nr;have hns:NN su:=hrc.ns;obtain⟨g3,n3,m3,rfl⟩:=hnr;obtain⟨g4,n4,m4,rfl⟩:=hns;have Hm:Hid (ps.map (·.1)=h.bs):=hm;have Hzn:Hid (x.nm.size<=maxLen):=hrc.zn;have Hpl:Hid (ps.length=h.bs.length):=hpl;obtain⟨W1,hW1,kA,kR,hB1⟩:∃W1,(w.alloc (.cells #[.int .i64 h.now,.int .i64 h.last,.slice a1 h.sh.things.length c1,.slice a2 h.sh.bs.length c2,.slice (some ⟨g,0,none⟩) h.bs.length c3,.slice (some ⟨gd,od,none⟩) h.ds.length c4] 37)).alloc (.cells #[.int .i64 0,.int .i64 0,.slice none 0 0,.slice none 0 0,.slice none 0 0,.slice none 0 0] 37)=W1/\W1.ownsRow w.heap.size 37 6 (.slice (some ⟨w.heap.size,0,none⟩) 1 1) 1 [.int .i64 h.now,.int .i64 h.last,.slice a1 h.sh.things.length c1,.slice a2 h.sh.bs.length c2,.slice (some ⟨g,0,none⟩) h.bs.length c3,.slice (some ⟨gd,od,none⟩) h.ds.length c4]/\W1.ownsRow w.heap.size 37 6 (.slice (some ⟨w.heap.size+1,0,none⟩) 1 1) 1 [.int .i64 0,.int .i64 0,.slice none 0 0,.slice none 0 0,.slice none 0 0,.slice none 0 0]/\Below w.heap.size w W1:=⟨_,rfl,Abp w [.int .i64 h.now,.int .i64 h.last,.slice a1 h.sh.things.length c1,.slice a2 h.sh.bs.length c2,.slice (some ⟨g,0,none⟩) h.bs.length c3,.slice (some ⟨gd,od,none⟩) h.ds.length c4] [.int .i64 0,.int .i64 0,.slice none 0 0,.slice none 0 0,.slice none 0 0,.slice none 0 0] rfl rfl⟩
 have hE1:EV w base (Value.slice (some ⟨gd,od,none⟩) h.ds.length c4).ownBlock W1 [.int .i64 h.now,.int .i64 h.last,.slice a1 h.sh.things.length c1,.slice a2 h.sh.bs.length c2,.slice (some ⟨g,0,none⟩) h.bs.length c3,.slice (some ⟨gd,od,none⟩) h.ds.length c4] (.agg #[.slice a1 h.sh.things.length c1,.slice a2 h.sh.bs.length c2]) h.sh ps (.slice (some ⟨g,0,none⟩) h.bs.length c3) ps (.slice (some ⟨gd,od,none⟩) h.ds.length c4) h.ds :=
  ⟨kA,kR,H.k.up hB1,λp hp=>(hW.2 p hp).up hB1,E1 hW.1 hB1,H.d.up hB1,⟨hB1.os,hB1.tape,hB1.output,hB1.size,λi hi _=>hB1.block i hi⟩⟩
 go_enter Tryz.func47,Tryz.ntmps47
 go_upto_region 1 with fail
 try rw[hW1]
 clear hW1;have hrow1:W1.ownsRow base 52 6 (.slice (some ⟨g,0,none⟩) h.bs.length c3) h.bs.length (rowsF rowR ps):=by have:=hE1.M;rw[hpl] at this;exact this
 have hcl:=G8 G6 hrow1 hpk;have q0:World.cell? W1 ⟨g,k*6,none⟩=some (.string x.nm):=hcl 0 _ rfl;have q1:World.cell? W1 ⟨g,k*6+1,none⟩=some (.slice (some ⟨g3,0,none⟩) n3 m3):=hcl 1 _ rfl;have q2:World.cell? W1 ⟨g,k*6+2,none⟩=some (.slice (some ⟨g4,0,none⟩) n4 m4):=hcl 2 _ rfl;have q3:World.cell? W1 ⟨g,k*6+3,none⟩=some (.string x.ad):=hcl 3 _ rfl;have q4:World.cell? W1 ⟨g,k*6+4,none⟩=some (.int .i64 x.si):=hcl 4 _ rfl;have q5:World.cell? W1 ⟨g,k*6+5,none⟩=some (.int .i64 x.st):=hcl 5 _ rfl;have e4:=(D9 kA).c6.2.2.2.2.1;clear hcl hk hm hpk hpl hrow1 H hW hrc;go_upto_region 2 with fail
 obtain⟨W2,hW2,kL,hB2⟩:∃W2,W1.alloc (.cells #[.string x.nm,.slice (some ⟨g3,0,none⟩) n3 m3,.slice (some ⟨g4,0,none⟩) n4 m4,.string x.ad,.int .i64 x.si,.int .i64 x.st] 52)=W2/\W2.ownsRow W1.heap.size 52 6 (.slice (some ⟨W1.heap.size,0,none⟩) 1 1) 1 [.string x.nm,.slice (some ⟨g3,0,none⟩) n3 m3,.slice (some ⟨g4,0,none⟩) n4 m4,.string x.ad,.int .i64 x.si,.int .i64 x.st]/\Below W1.heap.size W1 W2:=⟨_,rfl,B9 W1 _ 1 (A3 _) (by unfold maxLen;omega) rfl,(A4 _ _).alloc (A3 _) _⟩;try rw[hW2]
 clear hW2 q0 q1 q2 q3 q4 q5 e4 kA kR;have hE2:=hE1.up hB2;clear hE1 hB2 hB1;obtain⟨l0,-⟩:=(D9 kL).c6;obtain⟨-,-,e2,e3,-⟩:=(D9 hE2.A).c6;have hbk2:BkV W2 (.agg #[.slice a1 h.sh.things.length c1,.slice a2 h.sh.bs.length c2]) h.sh:=hE2.K.bk Hsz.out;have hz2:base<=W2.heap.size:=B1 hbase hE2.G.size;go_upto_region 10 with ((go_at_call 90;refine (K8 nm _).mono ?_;rintro e w' ⟨rfl,hw⟩;obtain rfl:=hw.symm;clear hw))
 go_upto_region 11 with (go_at_call 93;refine (AfR h.sh _ x.nm _ hbk2).mono ?_;rintro e w3 ⟨⟨v8,rfl,hk8⟩,hb3⟩;obtain⟨t1,d1,t2,d2,qs8,rfl,-⟩:=hk8.parts)
 generalize leaveB h.sh x.nm=B' at *;obtain⟨W4,hW4,kY,hB4⟩:∃W4,w3.alloc (.cells #[.slice t1 B'.things.length d1,.slice t2 B'.bs.length d2] 33)=W4/\CB W4 w3.heap.size [.slice t1 B'.things.length d1,.slice t2 B'.bs.length d2]/\Below w3.heap.size w3 W4:=⟨_,rfl,E7 w3 _ _,(A4 _ _).alloc (A3 _) _⟩;try rw[hW4]
 clear hW4 l0 e2 e3 hbk2;have hE4:=((hE2.up hb3).up hB4).book ((hk8.up hB4).low hz2);have kL4:=E1 (E1 kL hb3) hB4;clear hE2 kL hk8 hb3 hB4;obtain⟨v0,v1⟩:=kY.c2';obtain⟨e0,e1,e2,e3,e4,e5⟩:=(D9 hE4.A).c6;obtain⟨f0,f1,f2,f3,f4,f5⟩:=(D9 hE4.A).f6;obtain⟨W5,hW5,hE5,kL5⟩:∃W5,(W4.setCell ⟨w.heap.size,2,none⟩ (.slice t1 B'.things.length d1)).setCell ⟨w.heap.size,3,none⟩ (.slice t2 B'.bs.length d2)=W5/\EV w base (Value.slice (some ⟨gd,od,none⟩) h.ds.length c4).ownBlock W5 [.int .i64 h.now,.int .i64 h.last,.slice t1 B'.things.length d1,.slice t2 B'.bs.length d2,.slice (some ⟨g,0,none⟩) h.bs.length c3,.slice (some ⟨gd,od,none⟩) h.ds.length c4] (.agg #[.slice t1 B'.things.length d1,.slice t2 B'.bs.length d2]) B' ps (.slice (some ⟨g,0,none⟩) h.bs.length c3) ps (.slice (some ⟨gd,od,none⟩) h.ds.length c4) h.ds/\W5.ownsRow W1.heap.size 52 6 (.slice (some ⟨W1.heap.size,0,none⟩) 1 1) 1 [.string x.nm,.slice (some ⟨g3,0,none⟩) n3 m3,.slice (some ⟨g4,0,none⟩) n4 m4,.string x.ad,.int .i64 x.si,.int .i64 x.st]:=⟨_,rfl,(hE4.put 2 _).put 3 _,(hE4.put 2 _).L (hE4.L kL4 2 _) 3 _⟩;go_upto_region 12 with fail
 try rw[hW5]
 clear hW5 v0 v1 e0 e1 e2 e3 e4 e5 f0 f1 f2 f3 f4 f5 hE4 kL4 kY;have hrow5:W5.ownsRow base 52 6 (.slice (some ⟨g,0,none⟩) h.bs.length c3) h.bs.length (rowsF rowR ps):=by have:=hE5.M;rw[Hpl.out] at this;exact this
 obtain⟨hc4,hc9⟩:=Y7 hrow5;unfold maxLen at hc9;have hgl:=hrow5.lt g rfl;have hpc:k<=c3:=by omega
 have hp1:k+1<=h.bs.length:=hkl;have hw1:IntKind.i64.wrap ((k:Int)+1)=(k:Int)+1:=by rw[IntKind.wrap_i64];omega
 have hw2:(k:Int)+1<=(h.bs.length:Int):=by omega
 have hw3:0<=(k:Int)+1:=by omega
 have hw4:¬(h.bs.length:Int)<(k:Int)+1:=by omega
 obtain⟨o2,ho2,hq2⟩:∃o2:Nat,(if c3=k+1 then some (⟨g,0,none⟩:Addr) else some ⟨g,(k+1)*6,none⟩)=some ⟨g,o2,none⟩/\(h.bs.length-(k+1)≠0->o2=(k+1)*6):=by
  by_cases h7:c3=k+1
  ·exact⟨0,by rw[if_pos h7],λh=>by omega⟩
  ·exact⟨(k+1)*6,by rw[if_neg h7],λ_=>rfl⟩
 obtain⟨irb,hirb,r0,r1,r2⟩:=info_parts Ad0;have hE6:=hE5.up (A4 _ _).drew;have kL6:W5.drew.ownsRow W1.heap.size 52 6 (.slice (some ⟨W1.heap.size,0,none⟩) 1 1) 1 [.string x.nm,.slice (some ⟨g3,0,none⟩) n3 m3,.slice (some ⟨g4,0,none⟩) n4 m4,.string x.ad,.int .i64 x.si,.int .i64 x.st]:=Aar kL5;have hrow6:W5.drew.ownsRow base 52 6 (.slice (some ⟨g,0,none⟩) h.bs.length c3) h.bs.length (rowsF rowR ps):=Aar hrow5;refine F5 13 (λw'=>World.cell? w' ⟨w.heap.size,4,none⟩=some (.slice (some ⟨g,0,none⟩) h.bs.length c3)) (by kernel_rfl) ?_;generalize W5.drew=X0 at hE6 kL6 hrow6 ⊢
 clear hE5 kL5 hrow5 hgl;have hS1:World.cell? X0 ⟨w.heap.size,4,none⟩=some (.slice (some ⟨g,0,none⟩) h.bs.length c3):=(D9 hE6.A).c6.2.2.2.2.1;refine tkx 1 rfl hS1 ?_;refine tkx 2 rfl hS1 ?_;refine tkx 3 rfl hS1 ?_;refine tkx 4 rfl hS1 ?_;refine tkx 6 rfl hS1 ?_;refine tkx 7 rfl hS1 ?_;refine tkx 8 rfl hS1 ?_;refine tkx 9 rfl hS1 ?_;refine tkx 10 rfl hS1 ?_;have ho1:(X0.alloc (.cells #[] 52)).ownsRow X0.heap.size 52 6 (.slice (some ⟨X0.heap.size,0,none⟩) 0 0) 0 []:=Ac7 X0 _ _;have hb1:Below X0.heap.size X0 (X0.alloc (.cells #[] 52)):=(A4 _ _).alloc (A3 _) _;have hbx:∀X',Below X0.heap.size X0 X'->World.cell? X' ⟨w.heap.size,4,none⟩=some (.slice (some ⟨g,0,none⟩) h.bs.length c3):=λX' hb=>(hb.cell (p:=⟨w.heap.size,4,none⟩) (hE6.A.lt _ rfl).2).trans hS1;have Hbx:Hid (∀X',Below X0.heap.size X0 X'->World.cell? X' ⟨w.heap.size,4,none⟩=some (.slice (some ⟨g,0,none⟩) h.bs.length c3)):=hbx;clear hbx;have hr1:=E1 hrow6 hb1;have hsrc1:=Ahj hr1 0 (ps.take k) (Ang ps k);rw[Nat.zero_mul] at hsrc1;have hone1:=Af8 hE6.P (qs:=ps.take k) (λq hq=>List.mem_of_mem_take hq);have hone2:=Af8 hE6.P (qs:=ps.drop (k+1)) (λq hq=>List.mem_of_mem_drop hq);have hpl:=Hpl.out;have hlen1:(rowsF rowR (ps.take k)).length=k*6:=by rw[G5 G6,B7];omega
 have hlen2:(rowsF rowR (ps.drop (k+1))).length=(h.bs.length-(k+1))*6:=by rw[G5 G6,A8,hpl]
 clear hpl;refine D8 (i:=0) (by kernel_rfl) rfl (λK hK=>?_);go_simp
 refine hK.out _ _ (λ_=>(Hbx.out _ hb1)) ?_;clear hK K;clear hS1;generalize X0.alloc (.cells #[] 52)=X1 at ho1 hb1 hr1 hsrc1 ⊢
 refine D8 (i:=5) (by kernel_rfl) rfl (λK hK=>?_);refine J5 rfl _ _ 34 rfl X0.heap.size 52 irb _ 6 96 Tryz.underlying34 hirb r0 r1 r2 rfl (by decide) _ 0 [] rfl ho1 (some ⟨g,0,none⟩) k c3 (rowsF rowR (ps.take k)) rfl hlen1 (λ_=>⟨_,rfl,hsrc1⟩) hone1 (by unfold maxLen;omega) (by omega) hb1.size ?_;intro v1 X2 hown2 hgr2 hnn2;have hb2:Below X0.heap.size X0 X2:=F1 hb1 hb1.size ho1 hgr2 (A3 _);have hr2:=E1 hrow6 hb2
 have hsrc2:0<h.bs.length-(k+1)->∃d:Addr,(some ⟨g,o2,none⟩:Option Addr)=some d/\∀(j:Nat) (u:Value),(rowsF rowR (ps.drop (k+1)))[j]?=some u->X2.cell? (d.add j)=some u:=λhp=>by
  refine⟨_,rfl,λj u hu=>?_⟩;rw[hq2 (by omega)];exact Ahj hr2 (k+1) (ps.drop (k+1)) (Anh ps (k+1)) j u hu
 have hn2:=hnn2 ⟨_,_,_,rfl⟩;clear hsrc1 hgr2 hr1 hr2 ho1 hb1 hnn2;refine hK.out _ _ (λ_=>(Hbx.out _ hb2)) ?_;clear hK K;refine D8 (i:=11) (by kernel_rfl) rfl (λK hK=>?_);refine J5 rfl _ _ 34 rfl X0.heap.size 52 irb _ 6 96 Tryz.underlying34 hirb r0 r1 r2 rfl (by decide) v1 _ _ rfl hown2 (some ⟨g,o2,none⟩) (h.bs.length-(k+1)) _ (rowsF rowR (ps.drop (k+1))) rfl hlen2 hsrc2 hone2 (by unfold maxLen;omega) (by omega) hb2.size ?_;intro v2 X3 hown3 hgr3 hnn3;have hb3:Below X0.heap.size X0 X3:=F1 hb2 hb2.size hown2 hgr3 (A3 _);obtain⟨g7,n7,c7,rfl⟩:=hnn3 hn2;have hz0:base<=X0.heap.size:=B1 hbase hE6.G.size;have HWx:Hid (Where w (.slice (some ⟨g,0,none⟩) h.bs.length c3) (.slice (some ⟨g7,0,none⟩) n7 c7)):=λq hq=>.inr (B1 hE6.G.size (hown3.lt q hq).1)
 have hM:X3.ownsRow base 52 6 (.slice (some ⟨g7,0,none⟩) n7 c7) (ps.take k++ps.drop (k+1)).length (rowsF rowR (ps.take k++ps.drop (k+1))):=by
  have e1:(ps.take k++ps.drop (k+1)).length=0+k+(h.bs.length-(k+1)):=by rw[A9,B7,A8,Hpl.out];omega
  rw[e1,K6];exact G4 hown3 hz0
 have hE9:=(hE6.up hb3).rows hM;have kL9:=E1 kL6 hb3;clear hgr3 hown2 hown3 hM hE6 kL6 hrow6 hnn3 hn2 hsrc2;obtain⟨e0,e1,e2,e3,e4,e5⟩:=(D9 hE9.A).c6;obtain⟨f0,f1,f2,f3,f4,f5⟩:=(D9 hE9.A).f6;refine hK.out _ _ (λ_=>(Hbx.out _ hb3)) ?_;clear hK K;refine tkx 12 rfl (Hbx.out _ hb3) ?_;refine D8 (i:=13) (by kernel_rfl) rfl (λK hK=>?_);go_simp
 refine hK.out _ _ (λh=>absurd rfl h) ?_;clear hK K;refine F0 (by kernel_rfl) ?_ _;clear e0 e1 e2 e3 e4 e5 f0 f1 f2 f3 f4 f5 Hbx hb2 hb3 hone1 hone2 hlen1 hlen2;obtain⟨W7,hW7,hE7,kL7⟩:∃W7,X3.setCell ⟨w.heap.size,4,none⟩ (.slice (some ⟨g7,0,none⟩) n7 c7)=W7/\EV w base (Value.slice (some ⟨gd,od,none⟩) h.ds.length c4).ownBlock W7 [.int .i64 h.now,.int .i64 h.last,.slice t1 B'.things.length d1,.slice t2 B'.bs.length d2,.slice (some ⟨g7,0,none⟩) n7 c7,.slice (some ⟨gd,od,none⟩) h.ds.length c4] (.agg #[.slice t1 B'.things.length d1,.slice t2 B'.bs.length d2]) B' ps (.slice (some ⟨g7,0,none⟩) n7 c7) (ps.take k++ps.drop (k+1)) (.slice (some ⟨gd,od,none⟩) h.ds.length c4) h.ds/\W7.ownsRow W1.heap.size 52 6 (.slice (some ⟨W1.heap.size,0,none⟩) 1 1) 1 [.string x.nm,.slice (some ⟨g3,0,none⟩) n3 m3,.slice (some ⟨g4,0,none⟩) n4 m4,.string x.ad,.int .i64 x.si,.int .i64 x.st]:=⟨_,rfl,hE9.put 4 _,hE9.L kL9 4 _⟩;try rw[hW7]
 clear hW7 hE9 kL9;go_upto_region 13 with fail
 obtain⟨idn,hidn,n0,n1,n2⟩:=info_parts AbS;obtain⟨l0,-⟩:=(D9 kL7).c6;obtain⟨e0,-,-,-,-,e5⟩:=(D9 hE7.A).c6;have hA7:w.heap.size<W7.heap.size:=(hE7.A.lt _ rfl).2;have hL7:W1.heap.size<W7.heap.size:=(kL7.lt _ rfl).2;obtain⟨W8,hW8,hb8,hnw8⟩:∃W8,W7.alloc (.cells #[.string x.nm,.int .i64 (endN nm),.int .i64 h.now] 90)=W8/\Below W7.heap.size W7 W8/\∀(j:Nat) (u:Value),(Done.cells ⟨x.nm,endN nm,h.now⟩)[j]?=some u->W8.cell? ((⟨W7.heap.size,0,none⟩:Addr).add j)=some u:=⟨_,rfl,(A4 _ _).alloc (A3 _) _,λj u hj=>Aja _ _ _ _ _ hj⟩;have hE8:=hE7.up hb8;obtain⟨u9,W9,hr9,hd9,hg9,hw9⟩:=AlT (P:=Tryz.prog) W8 base 35 35 idn _ Tryz.underlying35 hidn n0 n1 n2 rfl _ h.ds ⟨x.nm,endN nm,h.now⟩ hE8.D ⟨W7.heap.size,0,none⟩ 1 hnw8 hnd Hzn.out (B1 hbase hE8.G.size);have hE9:=hE8.dn hd9 hg9 rfl
 have HWd:Hid (Where w (.slice (some ⟨gd,od,none⟩) h.ds.length c4) u9):=λq hq=>by
  rcases hw9 q hq with h1|h1
  ·exact .inl h1
  ·exact .inr (B1 hE8.G.size h1)
 obtain⟨g9,o9,c9,rfl⟩:∃g9 o9 c9,u9=.slice (some ⟨g9,o9,none⟩) (h.ds.length+1) c9:=by
  obtain⟨g9,c9,pre,e,-⟩:=hd9;exact⟨g9,_,c9,by simpa using e⟩
 clear hd9 hg9 hw9 hE7 hnw8;go_upto_region 14 with (at_builtin;(try rw[hW8]);refine Adq _ rfl _ _ 35 rfl _ _ rfl rfl (.slice (some ⟨g9,o9,none⟩) (h.ds.length+1) c9) W9 hr9 ?_;obtain⟨e0,e1,e2,e3,e4,e5⟩:=(D9 hE9.A).c6;obtain⟨f0,f1,f2,f3,f4,f5⟩:=(D9 hE9.A).f6)
 obtain⟨WA,hWA,hEA⟩:∃WA,W9.setCell ⟨w.heap.size,5,none⟩ (.slice (some ⟨g9,o9,none⟩) (h.ds.length+1) c9)=WA/\EV w base (Value.slice (some ⟨gd,od,none⟩) h.ds.length c4).ownBlock WA [.int .i64 h.now,.int .i64 h.last,.slice t1 B'.things.length d1,.slice t2 B'.bs.length d2,.slice (some ⟨g7,0,none⟩) n7 c7,.slice (some ⟨g9,o9,none⟩) (h.ds.length+1) c9] (.agg #[.slice t1 B'.things.length d1,.slice t2 B'.bs.length d2]) B' ps (.slice (some ⟨g7,0,none⟩) n7 c7) (ps.take k++ps.drop (k+1)) (.slice (some ⟨g9,o9,none⟩) (h.ds.length+1) c9) (h.ds++[⟨x.nm,endN nm,h.now⟩]):=⟨_,rfl,hE9.put 5 _⟩;try rw[hWA]
 clear hWA hE9 hE8 hr9 hW8;have Hbs:Hid (h.bs.take k++h.bs.drop (k+1)=(ps.take k++ps.drop (k+1)).map (·.1)):=by show _=_;rw[← Hm.out,List.map_append,List.map_take,List.map_drop]
 have hsub:∀p∈ps.take k++ps.drop (k+1),p∈ps:=λp hp=>by
  rcases D1.1 hp with h1|h1
  ·exact List.mem_of_mem_take h1
  ·exact List.mem_of_mem_drop h1
 have Hsub:Hid (∀p∈ps.take k++ps.drop (k+1),p∈ps):=hsub;clear hsub kL7;obtain⟨e0,e1,e2,e3,e4,e5⟩:=(D9 hEA.A).c6;obtain⟨f0,f1,f2,f3,f4,f5⟩:=(D9 hEA.A).f6;have hll:(h.ds++[(⟨x.nm,endN nm,h.now⟩:Done)]).length=h.ds.length+1:=by simp
 by_cases hc:20<h.ds.length+1
 ·obtain⟨d0,dr,hdr⟩:∃d0 dr,h.ds++[(⟨x.nm,endN nm,h.now⟩:Done)]=d0::dr:=by
   cases hh:h.ds++[(⟨x.nm,endN nm,h.now⟩:Done)] with
   | nil=>simp at hh
   | cons a b=>exact⟨a,b,rfl⟩
  have HC:Hid (cut20 (h.ds++[⟨x.nm,endN nm,h.now⟩])=dr):=by show _=_;rw[cut20,if_pos (by rw[hll];exact hc),hdr];rfl
  have hD:=hEA.D;rw[hdr] at hD;obtain⟨hDt,-,hcap⟩:=hD.tail;have hc1:¬c9=1:=by omega
  have hc2:1<=c9:=by omega
  rw[Nat.add_sub_cancel] at hDt;have HWd2:Hid (Where w (.slice (some ⟨gd,od,none⟩) h.ds.length c4) (.slice (some ⟨g9,o9+3,none⟩) h.ds.length (c9-1))):=λq hq=>HWd.out q hq;clear hll hD hdr;go_upto_region 16 with fail
  have hEB:=(hEA.cut hDt).put 5 (.slice (some ⟨g9,o9+3,none⟩) h.ds.length (c9-1));clear e0 e1 e2 e3 e4 e5 f0 f1 f2 f3 f4 f5 hEA hDt;generalize WA.setCell ⟨w.heap.size,5,none⟩ (.slice (some ⟨g9,o9+3,none⟩) h.ds.length (c9-1))=WB at *;obtain⟨e0,e1,e2,e3,e4,e5⟩:=(D9 hEB.A).c6;obtain⟨y0,y1,y2,y3,y4,y5⟩:=(D9 hEB.R).c6;obtain⟨z0,z1,z2,z3,z4,z5⟩:=(D9 hEB.R).f6;go_wp2_with fail
  refine R4 Tryz.results47 Tryz.underlying37 rfl J7 (D9 hEB.R) rfl ?_;have hgR:=J2 WB (w.heap.size+1) (.int .i64 h.now) (.int .i64 h.last) (.slice t1 B'.things.length d1) (.slice t2 B'.bs.length d2) (.slice (some ⟨g7,0,none⟩) n7 c7) (.slice (some ⟨g9,o9+3,none⟩) h.ds.length (c9-1));refine⟨⟨_,_,_,_,rfl,by rw[HON.out];exact Hdk.out.2,(hEB.hw Hdk.out.1 Hsub.out (onH h k nm) (by rw[HON.out]) (by rw[HON.out];exact Hbs.out) (by rw[HON.out];exact HC.out)).box hEB.R hgR,HWx.out,HWd2.out⟩,?_⟩;have hG:=hEB.G;exact⟨hgR.os.trans hG.os,hgR.tape.trans hG.tape,hgR.output.trans hG.output,B1 hG.size hgR.size,λi hi hne=>(hgR.block i (A1 hi hG.size) (by simp;omega)).trans (hG.block i hi hne)⟩
 ·have HC:Hid (cut20 (h.ds++[⟨x.nm,endN nm,h.now⟩])=h.ds++[⟨x.nm,endN nm,h.now⟩]):=by show _=_;rw[cut20,if_neg (by rw[hll];exact hc)]
  obtain⟨y0,y1,y2,y3,y4,y5⟩:=(D9 hEA.R).c6;obtain⟨z0,z1,z2,z3,z4,z5⟩:=(D9 hEA.R).f6;clear hll;go_wp2_with fail
  refine R4 Tryz.results47 Tryz.underlying37 rfl J7 (D9 hEA.R) rfl ?_;have hgR:=J2 WA (w.heap.size+1) (.int .i64 h.now) (.int .i64 h.last) (.slice t1 B'.things.length d1) (.slice t2 B'.bs.length d2) (.slice (some ⟨g7,0,none⟩) n7 c7) (.slice (some ⟨g9,o9,none⟩) (h.ds.length+1) c9);refine⟨⟨_,_,_,_,rfl,by rw[HON.out];exact Hdk.out.2,(hEA.hw Hdk.out.1 Hsub.out (onH h k nm) (by rw[HON.out]) (by rw[HON.out];exact Hbs.out) (by rw[HON.out];exact HC.out)).box hEA.R hgR,HWx.out,HWd.out⟩,?_⟩;have hG:=hEA.G;exact⟨hgR.os.trans hG.os,hgR.tape.trans hG.tape,hgR.output.trans hG.output,B1 hG.size hgR.size,λi hi hne=>(hgR.block i (A1 hi hG.size) (by simp;omega)).trans (hG.block i hi hne)⟩
theorem AlV {l:List Done} (h:l.length<=21):(cut20 l).length<=20:=by
 unfold cut20;split
 ·rw[A8];omega
 ·omega
theorem Ahk {h:House} {k:Nat} {nm:ByteArray} (hk:k<h.bs.length):(onH h k nm).now=h.now/\(onH h k nm).last=h.last/\(h.ds.length<=20->(onH h k nm).ds.length<=20)/\k<=(onH h k nm).bs.length/\(onH h k nm).bs.length<=h.bs.length/\∀j,j<k->(onH h k nm).bs[j]?=h.bs[j]?:=by
 unfold onH;rw[A0 hk];dsimp only
 split
 ·refine⟨rfl,rfl,λh=>h,?_,?_,λj hj=>?_⟩
  ·rw[List.length_set];omega
  ·rw[List.length_set];omega
  ·rw[List.getElem?_set_ne (by omega)]
 ·refine⟨rfl,rfl,λh=>AlV (by rw[A9,List.length_singleton];omega),?_,?_,λj hj=>?_⟩
  ·rw[A9,B7,A8];omega
  ·rw[A9,B7,A8];omega
  ·rw[List.getElem?_append_left (by rw[B7];omega),List.getElem?_take_of_lt hj]
theorem Ahl {w w':World} {base e k n:Nat} {v:Value} {xs:List Value} (h:w.ownsRow base e k v n xs) (hb:∀g,v.ownBlock=some g->w'.heap[g]?=w.heap[g]?):w'.ownsRow base e k v n xs:=by
 refine⟨h.1,?_⟩;rcases h.2 with⟨rfl,rfl⟩|⟨g,cap,cur,rfl,h1,h2,h3⟩
 ·exact .inl ⟨rfl,rfl⟩
 ·exact .inr ⟨g,cap,cur,rfl,h1,by rw[hb g rfl];exact h2,h3⟩
theorem Ahm {w w':World} {base b2 b3 e k n n2 n3:Nat} {v p:Value} {q:Value} {xs x2:List Value} {ds:List Done} (h:w.ownsRow base e k v n xs) (hg:G2 w w' p.ownBlock q.ownBlock) (hp:w.ownsRow b2 52 n2 p n3 x2) (hq:DnsW w b3 q ds) (h1:e≠52) (h2:e≠90):w'.ownsRow base e k v n xs:=by
 obtain⟨gd,cap,pre,rfl,h3,-⟩:=hq;exact Ahl h λg e=>hg.block g (h.lt g e).2 (λe2=>E5 h hp h1 g e e2) (λe2=>E5 h h3 h2 g e e2)
theorem Ani (h:House) (tv bv xv dv:Value) (base k:Nat) (x:Rb) (nm:ByteArray) (w:World) (H:HW w base h tv bv xv dv) (hbase:base<=w.heap.size) (hT:Tiny h.sh) (hk:h.bs[k]?=some x) (hrec:recB x.ps=true) (hnb:h.bs.length<=1048576) (hnd:h.ds.length<=1048576) :
  Calls Tryz.prog 47 #[.agg #[.int .i64 h.now,.int .i64 h.last,tv,bv,xv,dv],.int .i64 k,.string nm] w λe w'=>(∃tu bu xu du,e=.returned (.agg #[.int .i64 h.now,.int .i64 h.last,tu,bu,xu,du])/\Tiny (onH h k nm).sh/\HW w' base (onH h k nm) tu bu xu du/\Where w xv xu/\Where w dv du)/\G2 w w' xv.ownBlock dv.ownBlock:=by
 by_cases he:endN nm=0
 ·refine (Anf h tv bv xv dv base k x nm w H hbase hT hk hrec he).mono ?_
  rintro e w' ⟨⟨tu,bu,rfl,h1,h2⟩,hg⟩;exact⟨⟨tu,bu,_,_,rfl,h1,h2,Where.refl _ _,Where.refl _ _⟩,.of1 hg _⟩
 ·refine (AlU h tv bv xv dv base k x nm w H hbase hT hk he hnb hnd).mono ?_
  rintro e w' ⟨⟨tu,bu,xu,du,rfl,h1,h2,h3,h4⟩,hg⟩;exact⟨⟨tu,bu,xu,du,rfl,h1,h2,h3,h4⟩,.of2 hg _⟩
theorem Aor {h:House} {k:Nat} {x:Rb} (hx:h.bs[k]?=some x) (hl:¬(phOf x.ps x.ad).wi<=x.si):lateAt h k=h:=by
 unfold lateAt;rw[hx];dsimp only
 rw[if_neg hl]
theorem Anj {h:House} {k:Nat} {x:Rb} (hx:h.bs[k]?=some x) (hl:(phOf x.ps x.ad).wi<=x.si):lateAt h k=onH h k (phOf x.ps x.ad).e:=by
 unfold lateAt;rw[hx];dsimp only
 rw[if_pos hl]
def AtOk (h:House) (k:Nat):Prop:=∀(j:Nat) (x:Rb),j<k->h.bs[j]?=some x->recB x.ps=true/\hasB x.ps x.ad=true
theorem Akf (h:House) (tv bv xv dv:Value) (base:Nat) (w:World) (H:HW w base h tv bv xv dv) (hbase:base<=w.heap.size) (hT:Tiny h.sh) (hok:AtOk h h.bs.length) (hnb:h.bs.length<=1048576) (hnd:h.ds.length<=20) :
  Calls Tryz.prog 17 #[.agg #[.int .i64 h.now,.int .i64 h.last,tv,bv,xv,dv]] w λe w'=>(∃tu bu xu du,e=.returned (.agg #[.int .i64 h.now,.int .i64 h.last,tu,bu,xu,du])/\Tiny (lateTo h h.bs.length).sh/\HW w' base (lateTo h h.bs.length) tu bu xu du/\Where w xv xu/\Where w dv du)/\G2 w w' xv.ownBlock dv.ownBlock:=by
 obtain⟨a1,c1,a2,c2,a3,c3,a4,c4,rfl,rfl,rfl,rfl⟩:=H.v.shapes;obtain⟨W1,hW1,kA,kR,hB1⟩:∃W1,(w.alloc (.cells #[.int .i64 h.now,.int .i64 h.last,.slice a1 h.sh.things.length c1,.slice a2 h.sh.bs.length c2,.slice a3 h.bs.length c3,.slice a4 h.ds.length c4] 37)).alloc (.cells #[.int .i64 0,.int .i64 0,.slice none 0 0,.slice none 0 0,.slice none 0 0,.slice none 0 0] 37)=W1/\W1.ownsRow w.heap.size 37 6 (.slice (some ⟨w.heap.size,0,none⟩) 1 1) 1 [.int .i64 h.now,.int .i64 h.last,.slice a1 h.sh.things.length c1,.slice a2 h.sh.bs.length c2,.slice a3 h.bs.length c3,.slice a4 h.ds.length c4]/\W1.ownsRow w.heap.size 37 6 (.slice (some ⟨w.heap.size+1,0,none⟩) 1 1) 1 [.int .i64 0,.int .i64 0,.slice none 0 0,.slice none 0 0,.slice none 0 0,.slice none 0 0]/\Below w.heap.size w W1:=⟨_,rfl,Abp w [.int .i64 h.now,.int .i64 h.last,.slice a1 h.sh.things.length c1,.slice a2 h.sh.bs.length c2,.slice a3 h.bs.length c3,.slice a4 h.ds.length c4] [.int .i64 0,.int .i64 0,.slice none 0 0,.slice none 0 0,.slice none 0 0,.slice none 0 0] rfl rfl⟩;go_enter Tryz.func17,Tryz.ntmps17
 go_upto_region 1 with fail
 try rw[hW1]
 clear hW1;have H1:=H.up hB1;have hG1:G2 w W1 (Value.slice a3 h.bs.length c3).ownBlock (Value.slice a4 h.ds.length c4).ownBlock:=.of_below hB1 _ _;obtain⟨e0,e1,e2,e3,e4,e5⟩:=(D9 kA).c6;have hw0:IntKind.i64.wrap ((h.bs.length:Int)-1)=(h.bs.length:Int)-1:=by rw[IntKind.wrap_i64];omega
 go_upto_region 2 with fail
 clear e0 e1 e2 e3 e4 e5;go_loopw [3] (λi w'=>∃(k:Nat) (hk:House) (tu bu xu du:Value),i=.int .i64 ((k:Int)-1)/\lateTo hk k=lateTo h h.bs.length/\k<=hk.bs.length/\hk.bs.length<=1048576/\hk.ds.length<=20/\AtOk hk k/\hk.now=h.now/\hk.last=h.last/\Tiny hk.sh/\w'.ownsRow w.heap.size 37 6 (.slice (some ⟨w.heap.size,0,none⟩) 1 1) 1 [.int .i64 h.now,.int .i64 h.last,tu,bu,xu,du]/\w'.ownsRow w.heap.size 37 6 (.slice (some ⟨w.heap.size+1,0,none⟩) 1 1) 1 [.int .i64 0,.int .i64 0,.slice none 0 0,.slice none 0 0,.slice none 0 0,.slice none 0 0]/\HW w' base hk tu bu xu du/\Where w (.slice a3 h.bs.length c3) xu/\Where w (.slice a4 h.ds.length c4) du/\G2 w w' (Value.slice a3 h.bs.length c3).ownBlock (Value.slice a4 h.ds.length c4).ownBlock) (λi _=>(intOf i+1).toNat)
 case atStart=>exact⟨h.bs.length,h,_,_,_,_,by first|rfl|rw[hw0],rfl,A3 _,hnb,hnd,hok,rfl,rfl,hT,kA,kR,H1,Where.refl _ _,Where.refl _ _,hG1⟩
 case round =>
  clear kA kR H1 hG1 hB1 H hT hok hnb hnd hw0;obtain⟨k,hk,tu,bu,xu,du,rfl,hlate,hkl,hnb,hnd,hok,hnow,hlast,hT,kA,kR,HH,hwx,hwd,hG⟩:=hrel;have HL:Hid (lateTo hk k=lateTo h h.bs.length):=hlate;have HO:Hid (AtOk hk k):=hok;have HN:Hid (hk.now=h.now/\hk.last=h.last):=⟨hnow,hlast⟩;have Hx:Hid (Where w (.slice a3 h.bs.length c3) xu/\Where w (.slice a4 h.ds.length c4) du):=⟨hwx,hwd⟩;clear hlate hok hnow hlast hwx hwd;obtain⟨e0,e1,e2,e3,e4,e5⟩:=(D9 kA).c6;by_cases hk0:k=0
  ·subst hk0
   have HE:Hid (lateTo h h.bs.length=hk):=HL.out.symm;obtain⟨y0,y1,y2,y3,y4,y5⟩:=(D9 kR).c6;obtain⟨f0,f1,f2,f3,f4,f5⟩:=(D9 kR).f6;obtain⟨t1,d1,t2,d2,qs,e9,-⟩:=HH.k.parts;simp only[Value.agg.injEq,Array.mk.injEq,List.cons.injEq,and_true] at e9;obtain⟨rfl,rfl⟩:=e9
   obtain⟨ax,nx,cx,rfl⟩:∃a n c,xu=.slice a n c:=by
    obtain⟨ps,hW,-⟩:=HH.x;obtain⟨a,c,e⟩:=F2 hW.1;exact⟨a,_,c,e⟩
   obtain⟨ad,nd,cd,rfl⟩:∃a n c,du=.slice a n c:=by
    obtain⟨g,c,pre,e,-⟩:=HH.d;exact⟨_,_,_,e⟩
   clear HL;go_wp2_with fail
   refine R4 Tryz.results17 Tryz.underlying37 rfl J7 (D9 kR) rfl ?_;have hg9:=J2 wr (w.heap.size+1) (.int .i64 h.now) (.int .i64 h.last) (.slice t1 hk.sh.things.length d1) (.slice t2 hk.sh.bs.length d2) (.slice ax nx cx) (.slice ad nd cd);rw[HE.out];refine⟨⟨_,_,_,_,rfl,hT,HH.box kR hg9,Hx.out.1,Hx.out.2⟩,?_⟩;exact⟨hg9.os.trans hG.os,hg9.tape.trans hG.tape,hg9.output.trans hG.output,B1 hG.size hg9.size,λi hi h1 h2=>(hg9.block i (A1 hi hG.size) (by simp;omega)).trans (hG.block i hi h1 h2)⟩
  ·obtain⟨m,rfl⟩:∃m,k=m+1:=⟨k-1,by omega⟩
   have ei:(((m+1:Nat):Int))-1=(m:Int):=by omega
   rw[ei];clear ei;have hw0:IntKind.i64.wrap ((m:Int)-1)=(m:Int)-1:=by rw[IntKind.wrap_i64];omega
   obtain⟨ps,hW,hm⟩:=HH.x;have hpl:ps.length=hk.bs.length:=by have:=congrArg List.length hm;rwa [B4] at this
   obtain⟨g,cap,rfl⟩:=F4 hW.1 (by omega);obtain⟨⟨x0,ru,su⟩,hpk⟩:∃p,ps[m]?=some p:=⟨ps[m]'(by omega),A0 _⟩;have hx0:hk.bs[m]?=some x0:=by rw[← hm,B0,hpk];rfl
   have Hx0:Hid (hk.bs[m]?=some x0):=hx0;have hrc:=hW.2 _ (A6 hpk);have hv:RbV wr x0 ru su:=hrc.v;obtain⟨b,o,c,rfl,hr,hb,-,-⟩:=hv.r;obtain⟨gs,qs,d,rfl,-,-⟩:=hv.s;have hcl:=G8 G6 hW.1 hpk;have q0:World.cell? wr ⟨g,m*6,none⟩=some (.string x0.nm):=hcl 0 _ rfl;have q1:World.cell? wr ⟨g,m*6+1,none⟩=some (.slice (some ⟨b,o,none⟩) x0.ps.length c):=hcl 1 _ rfl;have q2:World.cell? wr ⟨g,m*6+2,none⟩=some (.slice (some ⟨gs,qs,none⟩) x0.sl.length d):=hcl 2 _ rfl;have q3:World.cell? wr ⟨g,m*6+3,none⟩=some (.string x0.ad):=hcl 3 _ rfl;have q4:World.cell? wr ⟨g,m*6+4,none⟩=some (.int .i64 x0.si):=hcl 4 _ rfl;have q5:World.cell? wr ⟨g,m*6+5,none⟩=some (.int .i64 x0.st):=hcl 5 _ rfl;obtain⟨hrec,hhas⟩:=HO.out m x0 (by omega) hx0;obtain⟨j,hj,hja⟩:=Z8 hhas;have Hph:Hid (phOf x0.ps x0.ad=x0.ps[j]):=Z6 hj hja;have np:=hv.np;have hat:=λW (hW:RecAt W b o x0.ps)=>O1 x0.ps b o c x0.ad W hW np;rw[hja] at hat;have Hat:Hid (∀W,RecAt W b o x0.ps->Calls Tryz.prog 46 #[.slice (some ⟨b,o,none⟩) x0.ps.length c,.string x0.ad] W λe w'=>e=.returned (.int .i64 (j:Int))/\w'=W):=hat;have Hrow:Hid (wr.ownsRow base 52 6 (.slice (some ⟨g,0,none⟩) ps.length cap) ps.length (rowsF rowR ps)):=hW.1;have hlm:m<ps.length:=by omega
   have Hpl:Hid (ps.length=hk.bs.length):=hpl;clear hcl hpk hrc hm hat hja hhas hx0 hW hpl;go_upto_region 5 with fail
   obtain⟨W2,hW2,kL,hB2⟩:∃W2,wr.alloc (.cells #[.string x0.nm,.slice (some ⟨b,o,none⟩) x0.ps.length c,.slice (some ⟨gs,qs,none⟩) x0.sl.length d,.string x0.ad,.int .i64 x0.si,.int .i64 x0.st] 52)=W2/\CB W2 wr.heap.size [.string x0.nm,.slice (some ⟨b,o,none⟩) x0.ps.length c,.slice (some ⟨gs,qs,none⟩) x0.sl.length d,.string x0.ad,.int .i64 x0.si,.int .i64 x0.st]/\Below wr.heap.size wr W2:=⟨_,rfl,E7 wr _ _,(A4 _ _).alloc (A3 _) _⟩;try rw[hW2]
   clear hW2 q0 q1 q2 q3 q4 q5;have Hr:Hid (RecAt W2 b o x0.ps):=hr.up hB2 hb;have hb2:b<W2.heap.size:=A1 hb hB2.size;have hlt2:wr.heap.size<W2.heap.size:=kL.2.2;obtain⟨r0,r1,r2,r3,r4,r5,r6,r7⟩:=Hr.out.cells j hj;generalize x0.ps[j]=p at *
   have mk:∀w',Below W2.heap.size W2 w'->Below W2.heap.size W2 w'/\World.cell? w' ⟨wr.heap.size,1,none⟩=some (.slice (some ⟨b,o,none⟩) x0.ps.length c)/\World.cell? w' ⟨wr.heap.size,3,none⟩=some (.string x0.ad)/\World.cell? w' ⟨b,o+j*8,none⟩=some (.string p.nm)/\World.cell? w' ⟨b,o+j*8+1,none⟩=some (.int .i64 p.k)/\World.cell? w' ⟨b,o+j*8+2,none⟩=some (.string p.a)/\World.cell? w' ⟨b,o+j*8+3,none⟩=some (.string p.b)/\World.cell? w' ⟨b,o+j*8+4,none⟩=some (.int .i64 p.n)/\World.cell? w' ⟨b,o+j*8+5,none⟩=some (.int .i64 p.wi)/\World.cell? w' ⟨b,o+j*8+6,none⟩=some (.string p.t)/\World.cell? w' ⟨b,o+j*8+7,none⟩=some (.string p.e):=λw' hb'=>by
    obtain⟨z0,z1,z2,z3,z4,z5⟩:=(kL.up hb' hlt2).c6;exact⟨hb',z1,z3,(hb'.cell (p:=⟨b,o+j*8,none⟩) hb2).trans r0,(hb'.cell (p:=⟨b,o+j*8+1,none⟩) hb2).trans r1,(hb'.cell (p:=⟨b,o+j*8+2,none⟩) hb2).trans r2,(hb'.cell (p:=⟨b,o+j*8+3,none⟩) hb2).trans r3,(hb'.cell (p:=⟨b,o+j*8+4,none⟩) hb2).trans r4,(hb'.cell (p:=⟨b,o+j*8+5,none⟩) hb2).trans r5,(hb'.cell (p:=⟨b,o+j*8+6,none⟩) hb2).trans r6,(hb'.cell (p:=⟨b,o+j*8+7,none⟩) hb2).trans r7⟩
   have Mk:Hid (∀w',Below W2.heap.size W2 w'->Below W2.heap.size W2 w'/\World.cell? w' ⟨wr.heap.size,1,none⟩=some (.slice (some ⟨b,o,none⟩) x0.ps.length c)/\World.cell? w' ⟨wr.heap.size,3,none⟩=some (.string x0.ad)/\World.cell? w' ⟨b,o+j*8,none⟩=some (.string p.nm)/\World.cell? w' ⟨b,o+j*8+1,none⟩=some (.int .i64 p.k)/\World.cell? w' ⟨b,o+j*8+2,none⟩=some (.string p.a)/\World.cell? w' ⟨b,o+j*8+3,none⟩=some (.string p.b)/\World.cell? w' ⟨b,o+j*8+4,none⟩=some (.int .i64 p.n)/\World.cell? w' ⟨b,o+j*8+5,none⟩=some (.int .i64 p.wi)/\World.cell? w' ⟨b,o+j*8+6,none⟩=some (.string p.t)/\World.cell? w' ⟨b,o+j*8+7,none⟩=some (.string p.e)):=mk;clear mk r0 r1 r2 r3 r4 r5 r6 r7 e0 e1 e2 e3 e4 e5;go_cut [5] (λv5 wc=>∃Y:Nat,v5=.pointer (some ⟨Y,0,none⟩)/\CB wc Y [.string p.nm,.int .i64 p.k,.string p.a,.string p.b,.int .i64 p.n,.int .i64 p.wi,.string p.t,.string p.e]/\Below W2.heap.size W2 wc)
   case first =>
    have hC:Below W2.heap.size W2 W2.drew:=(A4 _ _).drew;refine F5 99 (λw'=>Below W2.heap.size W2 w'/\World.cell? w' ⟨wr.heap.size,1,none⟩=some (.slice (some ⟨b,o,none⟩) x0.ps.length c)/\World.cell? w' ⟨wr.heap.size,3,none⟩=some (.string x0.ad)/\World.cell? w' ⟨b,o+j*8,none⟩=some (.string p.nm)/\World.cell? w' ⟨b,o+j*8+1,none⟩=some (.int .i64 p.k)/\World.cell? w' ⟨b,o+j*8+2,none⟩=some (.string p.a)/\World.cell? w' ⟨b,o+j*8+3,none⟩=some (.string p.b)/\World.cell? w' ⟨b,o+j*8+4,none⟩=some (.int .i64 p.n)/\World.cell? w' ⟨b,o+j*8+5,none⟩=some (.int .i64 p.wi)/\World.cell? w' ⟨b,o+j*8+6,none⟩=some (.string p.t)/\World.cell? w' ⟨b,o+j*8+7,none⟩=some (.string p.e)) (by kernel_rfl) ?_;generalize W2.drew=X1 at hC ⊢
    have hX:W2.heap.size<=X1.heap.size:=hC.size;have hS1:=Mk.out _ hC;refine tkx 0 rfl hS1 ?_;refine tkx 1 rfl hS1 ?_;refine tkx 2 rfl hS1 ?_;refine tkx 3 rfl hS1 ?_;refine tkx 4 rfl hS1 ?_;refine tkx 5 rfl hS1 ?_;clear hS1;refine L2 (i:=6) (j:=9) (by kernel_rfl) rfl rfl (λK hK=>?_) (λK hK=>?_)
    ·(go_simp;go_wp2_with (go_at_call 46;refine (Hat.out _ (Hr.out.up hC hb2)).mono ?_;rintro e X2 ⟨rfl,hw⟩;obtain rfl:=hw.symm;clear hw);refine hK.out _ _ (λ_=>(Mk.out _ hC)) ?_;clear hK K;(refine tkx 7 rfl (Mk.out _ hC) ?_);(refine tkx 8 rfl (Mk.out _ hC) ?_))
     refine D8 (i:=9) (by kernel_rfl) rfl (λK hK=>?_)
     (go_simp;have kY:=E7 X1 [.string ⟨#[]⟩,.int .i64 0,.string ⟨#[]⟩,.string ⟨#[]⟩,.int .i64 0,.int .i64 0,.string ⟨#[]⟩,.string ⟨#[]⟩] 84;replace hC:Below W2.heap.size W2 (X1.alloc (.cells #[.string ⟨#[]⟩,.int .i64 0,.string ⟨#[]⟩,.string ⟨#[]⟩,.int .i64 0,.int .i64 0,.string ⟨#[]⟩,.string ⟨#[]⟩] 84)):=hC.alloc hC.size _;have hy:=hX;refine hK.out _ _ (λ_=>(Mk.out _ hC)) ?_;clear hK K;have kY:CB (X1.alloc (.cells #[.string ⟨#[]⟩,.int .i64 0,.string ⟨#[]⟩,.string ⟨#[]⟩,.int .i64 0,.int .i64 0,.string ⟨#[]⟩,.string ⟨#[]⟩] 84)) X1.heap.size [.string ⟨#[]⟩,.int .i64 0,.string ⟨#[]⟩,.string ⟨#[]⟩,.int .i64 0,.int .i64 0,.string ⟨#[]⟩,.string ⟨#[]⟩]:=kY;generalize X1.alloc (.cells #[.string ⟨#[]⟩,.int .i64 0,.string ⟨#[]⟩,.string ⟨#[]⟩,.int .i64 0,.int .i64 0,.string ⟨#[]⟩,.string ⟨#[]⟩] 84)=X4 at hC kY ⊢)
     (obtain⟨⟨j0,j1,j2,j3,j4,j5,j6,j7⟩,m0,m1,m2,m3,m4,m5,m6,m7⟩:=kY.c8;have kF:=kY.copy8 (.string p.nm) (.int .i64 p.k) (.string p.a) (.string p.b) (.int .i64 p.n) (.int .i64 p.wi) (.string p.t) (.string p.e);have hF:=AaH hC hy (.string p.nm) (.int .i64 p.k) (.string p.a) (.string p.b) (.int .i64 p.n) (.int .i64 p.wi) (.string p.t) (.string p.e);refine D8 (i:=10) (by kernel_rfl) rfl (λK hK=>?_);go_simp;refine hK.out _ _ (λ_=>Mk.out _ hF) ?_;clear hK K j0 j1 j2 j3 j4 j5 j6 j7 m0 m1 m2 m3 m4 m5 m6 m7 kY;(try simp only[Act.put,List.setIfInBounds_toArray,List.set_cons_zero,List.set_cons_succ]);refine F0 (by kernel_rfl) ?_ _;go_wp2_with fail;go_meet;exact⟨_,rfl,kF,hF⟩)
    ·(go_simp;have kY:=E7 X1 [.string ⟨#[]⟩,.int .i64 0,.string ⟨#[]⟩,.string ⟨#[]⟩,.int .i64 0,.int .i64 0,.string ⟨#[]⟩,.string ⟨#[]⟩] 84;replace hC:Below W2.heap.size W2 (X1.alloc (.cells #[.string ⟨#[]⟩,.int .i64 0,.string ⟨#[]⟩,.string ⟨#[]⟩,.int .i64 0,.int .i64 0,.string ⟨#[]⟩,.string ⟨#[]⟩] 84)):=hC.alloc hC.size _;have hy:=hX;refine hK.out _ _ (λ_=>(Mk.out _ hC)) ?_;clear hK K;have kY:CB (X1.alloc (.cells #[.string ⟨#[]⟩,.int .i64 0,.string ⟨#[]⟩,.string ⟨#[]⟩,.int .i64 0,.int .i64 0,.string ⟨#[]⟩,.string ⟨#[]⟩] 84)) X1.heap.size [.string ⟨#[]⟩,.int .i64 0,.string ⟨#[]⟩,.string ⟨#[]⟩,.int .i64 0,.int .i64 0,.string ⟨#[]⟩,.string ⟨#[]⟩]:=kY;generalize X1.alloc (.cells #[.string ⟨#[]⟩,.int .i64 0,.string ⟨#[]⟩,.string ⟨#[]⟩,.int .i64 0,.int .i64 0,.string ⟨#[]⟩,.string ⟨#[]⟩] 84)=X4 at hC kY ⊢)
     refine D8 (i:=6) (by kernel_rfl) rfl (λK hK=>?_)
     (go_simp;go_wp2_with (go_at_call 46;refine (Hat.out _ (Hr.out.up hC hb2)).mono ?_;rintro e X2 ⟨rfl,hw⟩;obtain rfl:=hw.symm;clear hw);refine hK.out _ _ (λ_=>(Mk.out _ hC)) ?_;clear hK K;(refine tkx 7 rfl (Mk.out _ hC) ?_);(refine tkx 8 rfl (Mk.out _ hC) ?_))
     (obtain⟨⟨j0,j1,j2,j3,j4,j5,j6,j7⟩,m0,m1,m2,m3,m4,m5,m6,m7⟩:=kY.c8;have kF:=kY.copy8 (.string p.nm) (.int .i64 p.k) (.string p.a) (.string p.b) (.int .i64 p.n) (.int .i64 p.wi) (.string p.t) (.string p.e);have hF:=AaH hC hy (.string p.nm) (.int .i64 p.k) (.string p.a) (.string p.b) (.int .i64 p.n) (.int .i64 p.wi) (.string p.t) (.string p.e);refine D8 (i:=10) (by kernel_rfl) rfl (λK hK=>?_);go_simp;refine hK.out _ _ (λ_=>Mk.out _ hF) ?_;clear hK K j0 j1 j2 j3 j4 j5 j6 j7 m0 m1 m2 m3 m4 m5 m6 m7 kY;(try simp only[Act.put,List.setIfInBounds_toArray,List.set_cons_zero,List.set_cons_succ]);refine F0 (by kernel_rfl) ?_ _;go_wp2_with fail;go_meet;exact⟨_,rfl,kF,hF⟩)
   case rest =>
    obtain⟨Y,rfl,kY,hBc⟩:=hcut;have hBwc:Below wr.heap.size wr wc:=D6 hB2 hBc;have HHc:=HH.up hBwc;have kAc:=E1 kA hBwc;have kRc:=E1 kR hBwc;have hrowc:=E1 Hrow.out hBwc;have hGc:G2 w wc (Value.slice a3 h.bs.length c3).ownBlock (Value.slice a4 h.ds.length c4).ownBlock:=hG.trans (.of_below hBwc none none) (λk _ h=>by cases h) (λk _ h=>by cases h);obtain⟨-,-,-,-,l4,-⟩:=(kL.up hBc hlt2).c6;obtain⟨⟨-,-,-,-,-,z5,-,z7⟩,-⟩:=kY.c8;have hkm:m<hk.bs.length:=by omega
    clear Mk Hat Hr kL hBc hB2 HH kA kR Hrow hG kY hr hv;by_cases hlt:p.wi<=x0.si
    ·have HL2:Hid (lateTo (onH hk m p.e) m=lateTo h h.bs.length):=by
      have e1:=HL.out;have e2:=Anj Hx0.out (by rw[Hph.out];exact hlt);rw[Hph.out] at e2;show _=_
      rw[← e2];exact e1
     have HF:Hid _:=Ahk (nm:=p.e) hkm;have HO2:Hid (AtOk (onH hk m p.e) m):=λj x hj hx=>HO.out j x (by omega) (by rw[← HF.out.2.2.2.2.2 j hj];exact hx);have hcall:=Ani hk _ _ _ _ base m x0 p.e wc HHc (B1 hbase hGc.size) hT Hx0.out hrec hnb (by omega);rw[HN.out.1,HN.out.2] at hcall;obtain⟨e0,e1,e2,e3,e4,e5⟩:=(D9 kAc).c6;have Hd:Hid (DnsW wc base du hk.ds):=HHc.d;go_upto_region 3 with (go_at_call 47;refine hcall.mono ?_;rintro e w5 ⟨⟨tn,bn,xn,dn,rfl,hT5,HH5,hwx5,hwd5⟩,hG5⟩;have kA5:=Ahm kAc hG5 hrowc Hd.out (by decide) (by decide);have kR5:=Ahm kRc hG5 hrowc Hd.out (by decide) (by decide);clear e0 e1 e2 e3 e4 e5;obtain⟨e0,e1,e2,e3,e4,e5⟩:=(D9 kA5).c6;obtain⟨f0,f1,f2,f3,f4,f5⟩:=(D9 kA5).f6;obtain⟨t1,d1,t2,d2,qs9,e9,-⟩:=HH5.k.parts;simp only[Value.agg.injEq,Array.mk.injEq,List.cons.injEq,and_true] at e9;obtain⟨rfl,rfl⟩:=e9;obtain⟨ax,nx,cx,rfl⟩:∃a n c,xn=.slice a n c:=(by obtain⟨ps,hW,-⟩:=HH5.x;obtain⟨a,c,e⟩:=F2 hW.1;exact⟨a,_,c,e⟩);obtain⟨ad,nd,cd,rfl⟩:∃a n c,dn=.slice a n c:=(by obtain⟨g,c,pre,e,-⟩:=HH5.d;exact⟨_,_,_,e⟩))
     have b0:=J6 (j:=0) kA5 (.int .i64 h.now);have b1:=J6 (j:=1) b0.1 (.int .i64 h.last);have b2:=J6 (j:=2) b1.1 (.slice t1 (onH hk m p.e).sh.things.length d1);have b3:=J6 (j:=3) b2.1 (.slice t2 (onH hk m p.e).sh.bs.length d2);have b4:=J6 (j:=4) b3.1 (.slice ax nx cx);have b5:=J6 (j:=5) b4.1 (.slice ad nd cd);have hg8:=J2 w5 w.heap.size (.int .i64 h.now) (.int .i64 h.last) (.slice t1 (onH hk m p.e).sh.things.length d1) (.slice t2 (onH hk m p.e).sh.bs.length d2) (.slice ax nx cx) (.slice ad nd cd);have HH8:=HH5.box kA5 hg8;have kR8:=E2 kR5 hg8 (by simp[Value.ownBlock]);have kA8:=b5.1;have hG8:G2 w w5 (Value.slice a3 h.bs.length c3).ownBlock (Value.slice a4 h.ds.length c4).ownBlock:=hGc.trans hG5 (λk hk e=>.inl (Hx.out.1.old k hk e)) (λk hk e=>.inr (Hx.out.2.old k hk e));have hG9:=hG8.trans (.of1 hg8 none) (λk hk e=>by cases e;omega) (λk hk e=>by cases e);have Hx2:Hid (Where w (.slice a3 h.bs.length c3) (.slice ax nx cx)/\Where w (.slice a4 h.ds.length c4) (.slice ad nd cd)):=⟨Hx.out.1.trans hGc.size hwx5,Hx.out.2.trans hGc.size hwd5⟩;clear e0 e1 e2 e3 e4 e5 f0 f1 f2 f3 f4 f5 b0 b1 b2 b3 b4 b5 hg8 HH5 kA5 kR5 kAc kRc HHc hrowc hG8 hG5 hGc hcall hwx5 hwd5 Hd l4 z5 z7;generalize (((((w5.setCell ⟨w.heap.size,0,none⟩ (.int .i64 h.now)).setCell ⟨w.heap.size,1,none⟩ (.int .i64 h.last)).setCell ⟨w.heap.size,2,none⟩ (.slice t1 (onH hk m p.e).sh.things.length d1)).setCell ⟨w.heap.size,3,none⟩ (.slice t2 (onH hk m p.e).sh.bs.length d2)).setCell ⟨w.heap.size,4,none⟩ (.slice ax nx cx)).setCell ⟨w.heap.size,5,none⟩ (.slice ad nd cd)=W8 at *;clear HO HL hkl;go_wp2_with fail
     go_roundw
     case rel =>
      obtain⟨g1,g2,g3,g4,g5,-⟩:=HF.out;exact⟨m,onH hk m p.e,_,_,_,_,by first|rfl|rw[hw0],HL2.out,g4,by omega,g3 hnd,HO2.out,g1.trans HN.out.1,g2.trans HN.out.2,hT5,kA8,kR8,HH8,Hx2.out.1,Hx2.out.2,hG9⟩
     case measure=>simp[intOf]
    ·have HL2:Hid (lateTo hk m=lateTo h h.bs.length):=by
      have e1:=HL.out;have e2:=Aor Hx0.out (by rw[Hph.out];exact hlt);show _=_
      rw[lateTo,e2] at e1;exact e1
     have HO2:Hid (AtOk hk m):=λj x hj hx=>HO.out j x (by omega) hx;clear HO HL hkl;go_wp2_with fail
     go_roundw
     case rel=>exact⟨m,hk,tu,bu,_,du,by first|rfl|rw[hw0],HL2.out,Nat.le_of_lt hkm,hnb,hnd,HO2.out,HN.out.1,HN.out.2,hT,kAc,kRc,HHc,Hx.out.1,Hx.out.2,hGc⟩
     case measure=>simp[intOf]
theorem AlW (sa sb:List ByteArray) (n m:Nat) (a1 a2:Option Addr) (c1 c2:Nat) (w:World) (Hn:Hid (sa.length=n)) (Hm:Hid (sb.length=m)) (hn9:n<=maxLen) (hpa:0<n->∃b o,a1=some ⟨b,o,none⟩/\StrsAt w b o sa/\b<w.heap.size) (hpb:0<m->∃b o,a2=some ⟨b,o,none⟩/\StrsAt w b o sb/\b<w.heap.size) :
  Calls Tryz.prog 80 #[.slice a1 n c1,.slice a2 m c2] w λe w'=>e=.returned (.bool (pB (sa=sb)))/\Below w.heap.size w w':=by
 unfold maxLen at hn9;by_cases hll:n=m
 case neg =>
  have HN:Hid (pB (sa=sb)=false):=F3 λe=>hll (by rw[← Hn.out,← Hm.out,e]);go_enter Tryz.func80,Tryz.ntmps80
  go_wp2_with fail
  go_ret
  exact⟨D7 HN.out.symm,A4 _ _⟩
 subst hll;go_enter Tryz.func80,Tryz.ntmps80
 go_wp2_with fail
 go_loopw [5] (λi w'=>∃k:Nat,k<=n/\i=.int .i64 k/\(∀i,i<k->sa[i]?=sb[i]?)/\Below w.heap.size w w') (λi _=>n-(intOf i).toNat)
 case atStart=>exact⟨0,by omega,rfl,λi hi=>by omega,A4 _ _⟩
 case round =>
  obtain⟨k,hk,rfl,hal,hB⟩:=hrel;have Hal:Hid (∀i,i<k->sa[i]?=sb[i]?):=hal;clear hal;by_cases hp:k<n
  ·obtain⟨b1,o1,rfl,hS1,hb1⟩:=hpa (by omega)
   obtain⟨b2,o2,rfl,hS2,hb2⟩:=hpb (by omega);have h1:k<sa.length:=by have:=Hn.out;omega
   have h2:k<sb.length:=by have:=Hm.out;omega
   have e1:=(hB.cell (p:=⟨b1,o1+k,none⟩) hb1).trans (hS1 k sa[k] (A0 h1));have e2:=(hB.cell (p:=⟨b2,o2+k,none⟩) hb2).trans (hS2 k sb[k] (A0 h2))
   have N1:Hid (((sa[k]).toList==(sb[k]).toList)=false->¬sa=sb):=λhq e=>by
    subst e;simp at hq
   have N2:Hid (((sa[k]).toList==(sb[k]).toList)=true->∀i,i<k+1->sa[i]?=sb[i]?):=λhq i hi=>by
    rcases Nat.lt_or_ge i k with h'|h'
    ·exact Hal.out i h'
    ·obtain rfl:i=k:=by omega
     have e:sa[i]=sb[i]:=Aac (by simpa using hq);rw[A0 h1,A0 h2,e]
   generalize sa[k]=s1 at *;generalize sb[k]=s2 at *;clear hS1 hS2;cases hq:(s1.toList==s2.toList)
   ·have HN:Hid (pB (sa=sb)=false):=F3 (N1.out hq)
    go_wp2_with fail
    go_quiet (fail)
    go_wp2_with fail
    go_ret
    exact⟨D7 HN.out.symm,E8 hB _⟩
   ·have HY:Hid (∀i,i<k+1->sa[i]?=sb[i]?):=N2.out hq
    go_wp2_with fail
    go_quiet (fail)
    go_wp2_with fail
    go_roundw
    case rel=>exact⟨k+1,by omega,by go_num,HY.out,E8 hB _⟩
    case measure=>simp[intOf];omega
  ·have HY:Hid (pB (sa=sb)=true):=I7 (List.ext_getElem? λi=>by
    by_cases hi:i<k
    ·exact Hal.out i hi
    ·rw[C7 (by have:=Hn.out;omega),C7 (by have:=Hm.out;omega)])
   go_wp2_with fail
   go_ret
   exact⟨D7 HY.out.symm,hB⟩
theorem AcF (sa sb:List ByteArray) (va vb:Value) (w:World) (ha:Ls w va sa) (hb:Ls w vb sb) :
  Calls Tryz.prog 80 #[va,vb] w λe w'=>e=.returned (.bool (pB (sa=sb)))/\Below w.heap.size w w':=by
 obtain⟨a1,c1,rfl,hn1,-,hp1⟩:=ha;obtain⟨a2,c2,rfl,-,-,hp2⟩:=hb;exact AlW sa sb _ _ a1 a2 c1 c2 w rfl rfl hn1 hp1 hp2
theorem AlX (sa sb:List ByteArray) (va vb:Value) (w:World) (ha:Ls w va sa) (hb:Ls w vb sb) :
  Calls Tryz.prog 82 #[va,vb] w λe w'=>e=.returned (.bool (pB (Part sa sb)))/\w'=w:=by
 obtain⟨a,c,rfl,hn,hz,hpos⟩:=ha;obtain⟨a2,c2,rfl,-⟩:=id hb;unfold maxLen at hn;go_enter Tryz.func82,Tryz.ntmps82
 go_wp2_with fail
 go_loop [5] (λi=>∃k:Nat,k<=sa.length/\i=.int .i64 k/\PartTo sa sb k) (λi=>sa.length-(intOf i).toNat)
 case atStart=>exact⟨0,by omega,rfl,PartTo.zero _ _⟩
 case round =>
  obtain⟨k,hk,rfl,hal⟩:=hrel;have Hal:Hid (PartTo sa sb k):=hal;clear hal;by_cases hp:k<sa.length
  ·obtain⟨b,o,rfl,hS,hb'⟩:=hpos (by omega)
   have c0:=hS.cell hp;cases hq:memS sb sa[k]
   ·have Hq:Hid (¬Part sa sb):=λh=>by rw[Adv h hp] at hq;cases hq
    go_wp2_with (go_at_call 118;refine (N6 sb _ _ _ hb).mono ?_;rintro e w' ⟨rfl,hw⟩;obtain rfl:=hw.symm;clear hw)
    go_ret
    exact⟨D7 (F3 Hq.out).symm,rfl⟩
   ·have Hq:Hid (PartTo sa sb (k+1)):=Hal.out.step hp hq
    go_wp2_with (go_at_call 118;refine (N6 sb _ _ _ hb).mono ?_;rintro e w' ⟨rfl,hw⟩;obtain rfl:=hw.symm;clear hw)
    go_round
    case rel=>exact⟨k+1,by omega,by go_num,Hq.out⟩
    case measure=>simp[intOf];omega
  ·have Hq:Hid (Part sa sb):=AdI Hal.out hp
   go_wp2_with fail
   go_ret
   exact⟨D7 (I7 Hq.out).symm,rfl⟩
theorem Ank (h:House) (tv bv xv dv:Value) (s:ByteArray) (w:World) (H:HV w h tv bv xv dv) :
  Calls Tryz.prog 40 #[.agg #[.int .i64 h.now,.int .i64 h.last,tv,bv,xv,dv],.string s] w λe w'=>e=.returned (.int .i64 (idxI (rnms h.bs) s))/\Below w.heap.size w w':=by
 obtain⟨a1,c1,a2,c2,a3,c3,a4,c4,rfl,rfl,rfl,rfl⟩:=H.shapes;obtain⟨hmax,hpos⟩:=H.x.inv rfl;unfold maxLen at hmax;clear H;have hB0:=(A4 w.heap.size w).alloc (A3 _) (.cells #[.int .i64 h.now,.int .i64 h.last,.slice a1 h.sh.things.length c1,.slice a2 h.sh.bs.length c2,.slice a3 h.bs.length c3,.slice a4 h.ds.length c4] 37);have hC:CB (w.alloc (.cells #[.int .i64 h.now,.int .i64 h.last,.slice a1 h.sh.things.length c1,.slice a2 h.sh.bs.length c2,.slice a3 h.bs.length c3,.slice a4 h.ds.length c4] 37)) w.heap.size [.int .i64 h.now,.int .i64 h.last,.slice a1 h.sh.things.length c1,.slice a2 h.sh.bs.length c2,.slice a3 h.bs.length c3,.slice a4 h.ds.length c4]:=E7 w _ _;go_enter Tryz.func40,Tryz.ntmps40
 go_upto_region 1 with fail
 generalize w.alloc (.cells #[.int .i64 h.now,.int .i64 h.last,.slice a1 h.sh.things.length c1,.slice a2 h.sh.bs.length c2,.slice a3 h.bs.length c3,.slice a4 h.ds.length c4] 37)=W1 at *;obtain⟨-,-,-,-,d4,-⟩:=hC.c6;go_wp2_with fail
 go_loop [5] (λi=>∃k:Nat,k<=h.bs.length/\i=.int .i64 k/\memS ((rnms h.bs).take k) s=false) (λi=>h.bs.length-(intOf i).toNat)
 case atStart=>exact⟨0,by omega,rfl,rfl⟩
 case round =>
  obtain⟨k,hk,rfl,hal⟩:=hrel;have Hal:Hid (memS ((rnms h.bs).take k) s=false):=hal;clear hal;by_cases hp:k<h.bs.length
  ·obtain⟨b,o,ha3,hS,hb⟩:=hpos (by omega)
   subst ha3;have hkr:k<(rnms h.bs).length:=by rw[Ad8];exact hp
   have hg:(rnms h.bs)[k]=(h.bs[k]).nm:=by simp[rnms]
   have hin:=((hS.at hp).up hB0 hb).open;obtain⟨p,q,c,g,r,d,⟨e0,-⟩,-⟩:=hin;have N1:Hid (((h.bs[k]).nm.toList==s.toList)=false->memS ((rnms h.bs).take (k+1)) s=false):=λhq=>Aa6 hkr Hal.out (by rw[hg];exact hq);have N2:Hid (((h.bs[k]).nm.toList==s.toList)=true->idxI (rnms h.bs) s=(k:Int)):=λhq=>V0 hkr Hal.out (by rw[hg];exact hq);clear hS hg;generalize h.bs[k]=x0 at *;cases hq:(x0.nm.toList==s.toList)
   ·have HY:Hid (memS ((rnms h.bs).take (k+1)) s=false):=N1.out hq
    go_wp2_with fail
    go_round
    case rel=>exact⟨k+1,by omega,by go_num,HY.out⟩
    case measure=>simp[intOf];omega
   ·have HY:Hid (idxI (rnms h.bs) s=(k:Int)):=N2.out hq
    go_wp2_with fail
    go_ret
    exact⟨O3 HY.out.symm,hB0⟩
  ·have HY:Hid (idxI (rnms h.bs) s=-1):=O5 (AaZ (by rw[Ad8];exact hp) Hal.out)
   go_wp2_with fail
   go_ret
   exact⟨O3 HY.out.symm,hB0⟩
theorem AeJ (h:House) (tv bv xv dv:Value) (w:World) (H:HV w h tv bv xv dv) :
  Calls Tryz.prog 38 #[.agg #[.int .i64 h.now,.int .i64 h.last,tv,bv,xv,dv]] w λe w'=>e=.returned (.bool (pB (DonesOk h)))/\Below w.heap.size w w':=by
 obtain⟨-,-,-,a4',c4',e4',-,hpos⟩:=id H;obtain⟨a1,c1,a2,c2,a3,c3,a4,c4,rfl,rfl,rfl,rfl⟩:=H.shapes;simp only[Value.slice.injEq] at e4';obtain⟨rfl,-,rfl⟩:=e4';clear H;have hB0:=(A4 w.heap.size w).alloc (A3 _) (.cells #[.int .i64 h.now,.int .i64 h.last,.slice a1 h.sh.things.length c1,.slice a2 h.sh.bs.length c2,.slice a3 h.bs.length c3,.slice a4 h.ds.length c4] 37);have hC:CB (w.alloc (.cells #[.int .i64 h.now,.int .i64 h.last,.slice a1 h.sh.things.length c1,.slice a2 h.sh.bs.length c2,.slice a3 h.bs.length c3,.slice a4 h.ds.length c4] 37)) w.heap.size [.int .i64 h.now,.int .i64 h.last,.slice a1 h.sh.things.length c1,.slice a2 h.sh.bs.length c2,.slice a3 h.bs.length c3,.slice a4 h.ds.length c4]:=E7 w _ _;go_enter Tryz.func38,Tryz.ntmps38
 go_upto_region 1 with fail
 generalize w.alloc (.cells #[.int .i64 h.now,.int .i64 h.last,.slice a1 h.sh.things.length c1,.slice a2 h.sh.bs.length c2,.slice a3 h.bs.length c3,.slice a4 h.ds.length c4] 37)=W1 at *;have hlt:=hC.2.2;obtain⟨d0,d1,d2,d3,d4,d5⟩:=hC.c6;by_cases h20:20<h.ds.length
 ·have HN:Hid (pB (DonesOk h)=false):=F3 λt=>by have:=t.1;omega
  go_wp2_with fail
  go_ret
  exact⟨D7 HN.out.symm,hB0⟩
 go_wp2_with fail
 go_loopw [3,4] (λi _ w'=>∃k:Nat,k<=h.ds.length/\i=.int .i64 k/\DonesTo h.ds h.now k/\Below W1.heap.size W1 w') (λi _ _=>h.ds.length-(intOf i).toNat)
 case atStart=>exact⟨0,by omega,rfl,λi d hi=>by omega,A4 _ _⟩
 case round =>
  obtain⟨k,hk,rfl,hinv,hB⟩:=hrel;have HI:Hid (DonesTo h.ds h.now k):=hinv;clear hinv d0 d1 d2 d3 d4 d5;obtain⟨d0,d1,d2,d3,d4,d5⟩:=(hC.up hB hlt).c6;by_cases hp:k<h.ds.length
  ·obtain⟨b,o,ha,hD,hb⟩:=hpos (by omega)
   subst ha;have hB01:=D6 hB0 hB;have hD1:=hD.up hB01 hb;obtain⟨hrg,zn⟩:=hD1 k _ (A0 hp);have c0:=hrg 0 _ rfl;have c1':=hrg 1 _ rfl;have c2':=hrg 2 _ rfl;simp only[Nat.add_zero] at c0;have NO:Hid (¬DoneOk h.ds h.now k h.ds[k]->pB (DonesOk h)=false):=λhn=>F3 λt=>hn (t.2 k _ hp (A0 hp));have YES:Hid (DoneOk h.ds h.now k h.ds[k]->DonesTo h.ds h.now (k+1)):=λhy=>Z7 (P:=DoneOk h.ds h.now) HI.out hp hy
   have HP:Hid (0<k->∃p:Done,h.ds[k-1]?=some p/\wr.cell? ⟨b,o+(k-1)*3+2,none⟩=some (.int .i64 p.t)/\(¬p.t<=(h.ds[k]).t->¬DoneOk h.ds h.now k h.ds[k])/\(p.t<=(h.ds[k]).t->∀(j:Nat) (p':Done),j+1=k->h.ds[j]?=some p'->p'.t<=(h.ds[k]).t)):=λh0=>by
    have hk1:k-1<h.ds.length:=by omega
    refine⟨h.ds[k-1],A0 hk1,(hD1 (k-1) _ (A0 hk1)).1 2 _ rfl,λhn hd=>hn (hd.2.2.2.2.2 (k-1) _ (by omega) (A0 hk1)),λhle j p' hj hp'=>?_⟩;obtain rfl:j=k-1:=by omega
    rw[A0 hk1] at hp';obtain rfl:=A5 hp';exact hle
   generalize h.ds[k]=x0 at *;have hB1:=hB.alloc hB.size (.cells #[.string (x0).nm,.int .i64 (x0).e,.int .i64 (x0).t] 90);have hX:CB (wr.alloc (.cells #[.string (x0).nm,.int .i64 (x0).e,.int .i64 (x0).t] 90)) wr.heap.size [.string x0.nm,.int .i64 x0.e,.int .i64 x0.t]:=E7 wr _ _;have hal:=(A4 wr.heap.size wr).alloc (A3 _) (.cells #[.string (x0).nm,.int .i64 (x0).e,.int .i64 (x0).t] 90);have hbw:b<wr.heap.size:=A1 hb hB01.size;have hqw:w.heap.size<wr.heap.size:=A1 hlt hB.size;have g0:=(hal.cell (p:=⟨w.heap.size,0,none⟩) hqw).trans d0;have g5:=(hal.cell (p:=⟨w.heap.size,5,none⟩) hqw).trans d5
   have HP2:Hid (0<k->∃p:Done,h.ds[k-1]?=some p/\(wr.alloc (.cells #[.string (x0).nm,.int .i64 (x0).e,.int .i64 (x0).t] 90)).cell? ⟨b,o+(k-1)*3+2,none⟩=some (.int .i64 p.t)/\(¬p.t<=x0.t->¬DoneOk h.ds h.now k x0)/\(p.t<=x0.t->∀(j:Nat) (p':Done),j+1=k->h.ds[j]?=some p'->p'.t<=x0.t)):=λh0=>by
    obtain⟨p,e1,e2,e3,e4⟩:=HP.out h0;exact⟨p,e1,(hal.cell (p:=⟨b,o+(k-1)*3+2,none⟩) hbw).trans e2,e3,e4⟩
   go_upto_region 7 with fail
   generalize wr.alloc (.cells #[.string (x0).nm,.int .i64 (x0).e,.int .i64 (x0).t] 90)=W2 at *;obtain⟨⟨f0,f1,f2⟩,-⟩:=hX.c3;have hB02:=D6 hB0 hB1;clear c0 c1' c2' d0 d1 d2 d3 d4 d5 hrg hD1 hal;cases q1:nameB x0.nm
   ·have HN:Hid (pB (DonesOk h)=false):=NO.out λt=>by rw[t.1] at q1;cases q1
    go_wp2_with fail
    go_quiet ((first|(go_at_call 76;exact Calls.quiet_of_same (I0 _ _ zn))|(go_at_call 36;exact Calls.quiet_of_same (I4 _ _ _ _))))
    go_wp2_with fail
    go_ret
    exact⟨D7 HN.out.symm,E8 hB02 _⟩
   cases q2:inB x0.e 1 3
   ·have HN:Hid (pB (DonesOk h)=false):=NO.out λt=>(Aa5 _ _ _).1 q2 ⟨t.2.1,t.2.2.1⟩
    go_wp2_with fail
    go_quiet ((first|(go_at_call 76;exact Calls.quiet_of_same (I0 _ _ zn))|(go_at_call 36;exact Calls.quiet_of_same (I4 _ _ _ _))))
    go_wp2_with fail
    go_ret
    exact⟨D7 HN.out.symm,E8 hB02 _⟩
   cases q3:inB x0.t 0 h.now
   ·have HN:Hid (pB (DonesOk h)=false):=NO.out λt=>(Aa5 _ _ _).1 q3 ⟨t.2.2.2.1,t.2.2.2.2.1⟩
    go_wp2_with fail
    go_quiet ((first|(go_at_call 76;exact Calls.quiet_of_same (I0 _ _ zn))|(go_at_call 36;exact Calls.quiet_of_same (I4 _ _ _ _))))
    go_wp2_with fail
    go_ret
    exact⟨D7 HN.out.symm,E8 hB02 _⟩
   have e2:=(P9 _ _ _).1 q2;have e3:=(P9 _ _ _).1 q3;rcases C4 k with h0|h0
   ·have HY:Hid (DonesTo h.ds h.now (0+1)):=by
     have:=YES.out ⟨q1,e2.1,e2.2,e3.1,e3.2,λj p hj=>by omega⟩;rwa [h0] at this
    subst h0;go_wp2_with fail
    go_quiet ((first|(go_at_call 76;exact Calls.quiet_of_same (I0 _ _ zn))|(go_at_call 36;exact Calls.quiet_of_same (I4 _ _ _ _))))
    go_wp2_with fail
    go_roundw
    case rel=>exact⟨0+1,by omega,by go_num,HY.out,E8 hB1 _⟩
    case measure=>simp[intOf];omega
   ·obtain⟨p,-,cp,p1,p2⟩:=HP2.out h0
    by_cases q4:p.t<=x0.t
    ·have HY:Hid (DonesTo h.ds h.now (k+1)):=YES.out ⟨q1,e2.1,e2.2,e3.1,e3.2,p2 q4⟩
     clear p1 p2;generalize p.t=pt at *;go_wp2_with fail
     go_quiet ((first|(go_at_call 76;exact Calls.quiet_of_same (I0 _ _ zn))|(go_at_call 36;exact Calls.quiet_of_same (I4 _ _ _ _))))
     go_wp2_with fail
     go_roundw
     case rel=>exact⟨k+1,by omega,by go_num,HY.out,E8 hB1 _⟩
     case measure=>simp[intOf];omega
    ·have HN:Hid (pB (DonesOk h)=false):=NO.out (p1 q4)
     clear p1 p2;generalize p.t=pt at *;go_wp2_with fail
     go_quiet ((first|(go_at_call 76;exact Calls.quiet_of_same (I0 _ _ zn))|(go_at_call 36;exact Calls.quiet_of_same (I4 _ _ _ _))))
     go_wp2_with fail
     go_ret
     exact⟨D7 HN.out.symm,E8 hB02 _⟩
  ·have HY:Hid (pB (DonesOk h)=true):=I7 ⟨by omega,by
    have:=HI.out;rwa [show k=h.ds.length by omega] at this⟩
   go_wp2_with fail
   go_ret
   exact⟨D7 HY.out.symm,D6 hB0 hB⟩
theorem Ahn {W w0:World} {q r z o1 o2:Nat} {x0 x1 x2 x3 x4 x5 x6 x7 x8 x9 x10 x11 x12 x13:Value} (h:Below W.heap.size W w0/\w0.cell? ⟨q,0,none⟩=some x0/\w0.cell? ⟨q,1,none⟩=some x1/\w0.cell? ⟨q,2,none⟩=some x2/\w0.cell? ⟨q,3,none⟩=some x3/\w0.cell? ⟨q,4,none⟩=some x4/\w0.cell? ⟨q,5,none⟩=some x5/\w0.cell? ⟨r,0,none⟩=some x6/\w0.cell? ⟨r,1,none⟩=some x7/\w0.cell? ⟨r,2,none⟩=some x8/\w0.cell? ⟨r,3,none⟩=some x9/\w0.cell? ⟨r,4,none⟩=some x10/\w0.cell? ⟨r,5,none⟩=some x11/\w0.cell? ⟨z,o1,none⟩=some x12/\w0.cell? ⟨z,o2,none⟩=some x13):Below W.heap.size W w0.drew/\w0.drew.cell? ⟨q,0,none⟩=some x0/\w0.drew.cell? ⟨q,1,none⟩=some x1/\w0.drew.cell? ⟨q,2,none⟩=some x2/\w0.drew.cell? ⟨q,3,none⟩=some x3/\w0.drew.cell? ⟨q,4,none⟩=some x4/\w0.drew.cell? ⟨q,5,none⟩=some x5/\w0.drew.cell? ⟨r,0,none⟩=some x6/\w0.drew.cell? ⟨r,1,none⟩=some x7/\w0.drew.cell? ⟨r,2,none⟩=some x8/\w0.drew.cell? ⟨r,3,none⟩=some x9/\w0.drew.cell? ⟨r,4,none⟩=some x10/\w0.drew.cell? ⟨r,5,none⟩=some x11/\w0.drew.cell? ⟨z,o1,none⟩=some x12/\w0.drew.cell? ⟨z,o2,none⟩=some x13 :=
 ⟨h.1.drew,h.2⟩
theorem Adr {W w0 w1:World} {q r z o1 o2:Nat} {x0 x1 x2 x3 x4 x5 x6 x7 x8 x9 x10 x11 x12 x13:Value} (hq:q<W.heap.size) (hr:r<W.heap.size) (hz:z<W.heap.size) (h:Below W.heap.size W w0/\w0.cell? ⟨q,0,none⟩=some x0/\w0.cell? ⟨q,1,none⟩=some x1/\w0.cell? ⟨q,2,none⟩=some x2/\w0.cell? ⟨q,3,none⟩=some x3/\w0.cell? ⟨q,4,none⟩=some x4/\w0.cell? ⟨q,5,none⟩=some x5/\w0.cell? ⟨r,0,none⟩=some x6/\w0.cell? ⟨r,1,none⟩=some x7/\w0.cell? ⟨r,2,none⟩=some x8/\w0.cell? ⟨r,3,none⟩=some x9/\w0.cell? ⟨r,4,none⟩=some x10/\w0.cell? ⟨r,5,none⟩=some x11/\w0.cell? ⟨z,o1,none⟩=some x12/\w0.cell? ⟨z,o2,none⟩=some x13) (hB:Below w0.heap.size w0 w1):Below W.heap.size W w1/\w1.cell? ⟨q,0,none⟩=some x0/\w1.cell? ⟨q,1,none⟩=some x1/\w1.cell? ⟨q,2,none⟩=some x2/\w1.cell? ⟨q,3,none⟩=some x3/\w1.cell? ⟨q,4,none⟩=some x4/\w1.cell? ⟨q,5,none⟩=some x5/\w1.cell? ⟨r,0,none⟩=some x6/\w1.cell? ⟨r,1,none⟩=some x7/\w1.cell? ⟨r,2,none⟩=some x8/\w1.cell? ⟨r,3,none⟩=some x9/\w1.cell? ⟨r,4,none⟩=some x10/\w1.cell? ⟨r,5,none⟩=some x11/\w1.cell? ⟨z,o1,none⟩=some x12/\w1.cell? ⟨z,o2,none⟩=some x13:=by
 obtain⟨h0,a0,a1,a2,a3,a4,a5,a6,a7,a8,a9,a10,a11,a12,a13⟩:=h;have lq:q<w0.heap.size:=A1 hq h0.size;have lr:r<w0.heap.size:=A1 hr h0.size;have lz:z<w0.heap.size:=A1 hz h0.size;exact⟨D6 h0 hB,(hB.cell (p:=⟨q,0,none⟩) lq).trans a0,(hB.cell (p:=⟨q,1,none⟩) lq).trans a1,(hB.cell (p:=⟨q,2,none⟩) lq).trans a2,(hB.cell (p:=⟨q,3,none⟩) lq).trans a3,(hB.cell (p:=⟨q,4,none⟩) lq).trans a4,(hB.cell (p:=⟨q,5,none⟩) lq).trans a5,(hB.cell (p:=⟨r,0,none⟩) lr).trans a6,(hB.cell (p:=⟨r,1,none⟩) lr).trans a7,(hB.cell (p:=⟨r,2,none⟩) lr).trans a8,(hB.cell (p:=⟨r,3,none⟩) lr).trans a9,(hB.cell (p:=⟨r,4,none⟩) lr).trans a10,(hB.cell (p:=⟨r,5,none⟩) lr).trans a11,(hB.cell (p:=⟨z,o1,none⟩) lz).trans a12,(hB.cell (p:=⟨z,o2,none⟩) lz).trans a13⟩
def ShareAt (h:House) (b:Rb):Prop:=b.nm∈nms h.sh.bs/\(shOf h.sh b.nm).needs=rbThings b b.ad/\(0<=b.si->Part (rbOwn b) (shOf h.sh b.nm).has)
def ShareTo (h:House) (k:Nat):Prop:=∀(i:Nat) (b:Rb),i<k->h.bs[i]?=some b->ShareAt h b
def SharesOk (h:House):Prop:=h.sh.bs.length=h.bs.length/\ShareTo h h.bs.length
theorem Aim (h:House) (tv bv xv dv:Value) (w:World) (H:HV w h tv bv xv dv) (hok:BookOk h.sh) :
  Calls Tryz.prog 41 #[.agg #[.int .i64 h.now,.int .i64 h.last,tv,bv,xv,dv]] w λe w'=>e=.returned (.bool (pB (SharesOk h)))/\Below w.heap.size w w':=by
 obtain⟨a1,c1,a2,c2,a3,c3,a4,c4,rfl,rfl,rfl,rfl⟩:=H.shapes;obtain⟨hmax,hpos⟩:=H.x.inv rfl;unfold maxLen at hmax;have HK:=H.book
 have hbp:0<h.sh.bs.length->∃b o,a2=some ⟨b,o,none⟩/\BsAt w b o h.sh.bs/\b<w.heap.size:=by
  obtain⟨a',c',e',-,hp⟩:=H.b;simp only[Value.slice.injEq] at e';obtain⟨rfl,-,-⟩:=e';exact hp
 clear H;have Hok:Hid (BookOk h.sh):=hok;clear hok;have hB0:=(A4 w.heap.size w).alloc (A3 _) (.cells #[.int .i64 h.now,.int .i64 h.last,.slice a1 h.sh.things.length c1,.slice a2 h.sh.bs.length c2,.slice a3 h.bs.length c3,.slice a4 h.ds.length c4] 37);have hC:CB (w.alloc (.cells #[.int .i64 h.now,.int .i64 h.last,.slice a1 h.sh.things.length c1,.slice a2 h.sh.bs.length c2,.slice a3 h.bs.length c3,.slice a4 h.ds.length c4] 37)) w.heap.size [.int .i64 h.now,.int .i64 h.last,.slice a1 h.sh.things.length c1,.slice a2 h.sh.bs.length c2,.slice a3 h.bs.length c3,.slice a4 h.ds.length c4]:=E7 w _ _;go_enter Tryz.func41,Tryz.ntmps41
 go_upto_region 1 with fail
 generalize w.alloc (.cells #[.int .i64 h.now,.int .i64 h.last,.slice a1 h.sh.things.length c1,.slice a2 h.sh.bs.length c2,.slice a3 h.bs.length c3,.slice a4 h.ds.length c4] 37)=W1 at *;have hlt:=hC.2.2;obtain⟨d0,d1,d2,d3,d4,d5⟩:=hC.c6;by_cases hll:h.sh.bs.length=h.bs.length
 case neg =>
  have HN:Hid (pB (SharesOk h)=false):=F3 λt=>hll t.1;go_wp2_with fail
  go_ret
  exact⟨D7 HN.out.symm,hB0⟩
 have Hll:Hid (h.sh.bs.length=h.bs.length):=hll;go_upto_region 3 with fail
 clear hll;go_wp2_with fail
 go_loopw [3,4,5] (λi _ _ w'=>∃k:Nat,k<=h.bs.length/\i=.int .i64 k/\ShareTo h k/\Below W1.heap.size W1 w') (λi _ _ _=>h.bs.length-(intOf i).toNat)
 case atStart=>exact⟨0,by omega,rfl,λi b hi=>by omega,A4 _ _⟩
 case round =>
  obtain⟨k,hk,rfl,hinv,hB⟩:=hrel;have HI:Hid (ShareTo h k):=hinv;clear hinv d0 d1 d2 d3 d4 d5;obtain⟨d0,d1,d2,d3,d4,d5⟩:=(hC.up hB hlt).c6;by_cases hp:k<h.bs.length
  ·obtain⟨b,o,ha3,hS,hb⟩:=hpos (by omega)
   subst ha3;have hB01:=D6 hB0 hB;obtain⟨p,q,c,g,r,d,⟨e0,e1,e2,e3,e4,e5⟩,hv⟩:=((hS.at hp).up hB01 hb).open;have NO:Hid (¬ShareAt h h.bs[k]->pB (SharesOk h)=false):=λhn=>F3 λt=>hn (t.2 k _ hp (A0 hp));have YES:Hid (ShareAt h h.bs[k]->ShareTo h (k+1)):=λhy=>Z7 (P:=λ_ (b:Rb)=>ShareAt h b) HI.out hp hy;generalize h.bs[k]=x0 at *;clear hS;have hB1:=hB.alloc hB.size (.cells #[.string x0.nm,.slice (some ⟨p,q,none⟩) x0.ps.length c,.slice (some ⟨g,r,none⟩) x0.sl.length d,.string x0.ad,.int .i64 x0.si,.int .i64 x0.st] 52);have hX:CB (wr.alloc (.cells #[.string x0.nm,.slice (some ⟨p,q,none⟩) x0.ps.length c,.slice (some ⟨g,r,none⟩) x0.sl.length d,.string x0.ad,.int .i64 x0.si,.int .i64 x0.st] 52)) wr.heap.size [.string x0.nm,.slice (some ⟨p,q,none⟩) x0.ps.length c,.slice (some ⟨g,r,none⟩) x0.sl.length d,.string x0.ad,.int .i64 x0.si,.int .i64 x0.st]:=E7 wr _ _;have hv2:=hv.up ((A4 wr.heap.size wr).alloc (A3 _) (.cells #[.string x0.nm,.slice (some ⟨p,q,none⟩) x0.ps.length c,.slice (some ⟨g,r,none⟩) x0.sl.length d,.string x0.ad,.int .i64 x0.si,.int .i64 x0.st] 52));go_upto_region 7 with fail
   generalize wr.alloc (.cells #[.string x0.nm,.slice (some ⟨p,q,none⟩) x0.ps.length c,.slice (some ⟨g,r,none⟩) x0.sl.length d,.string x0.ad,.int .i64 x0.si,.int .i64 x0.st] 52)=W0 at *;clear d0 d1 d2 d3 d4 d5 e0 e1 e2 e3 e4 e5;obtain⟨f0,f1,f2,f3,f4,f5⟩:=hX.c6;obtain⟨d0,d1,d2,d3,d4,d5⟩:=(hC.up hB1 hlt).c6;have hB00:=D6 hB0 hB1;cases hm:memS (nms h.sh.bs) x0.nm
   ·have HN:Hid (pB (SharesOk h)=false):=NO.out λt=>by rw[(K1 _ _).2 t.1] at hm;cases hm
    have hat:=Abn h.sh _ x0.nm W0 (HK.up hB00);rw[O5 hm] at hat;go_upto_region 8 with (go_at_call 79;refine hat.mono ?_;rintro e w3 ⟨rfl,hb3⟩)
    have hB03:=D6 hB00 hb3;clear f0 f1 f2 f3 f4 f5 d0 d1 d2 d3 d4 d5;go_wp2_with fail
    go_quiet (fail)
    go_wp2_with fail
    go_ret
    exact⟨D7 HN.out.symm,E8 hB03 _⟩
   ·have hmem:x0.nm∈nms h.sh.bs:=(K1 _ _).1 hm
    obtain⟨m,hml,hmn⟩:=Alb hmem;have hsh:=AiJ Hok.out.2.2.2.1 hml hmn
    have hix:idxI (nms h.sh.bs) x0.nm=(m:Int):=V0 (by rw[I6];exact hml) (by
     rw[S3];intro hin;obtain⟨j,hj,e⟩:=List.mem_take_iff_getElem.1 hin
     have:=AbN Hok.out.2.2.2.1 (A0 (by omega)) (show (nms h.sh.bs)[m]?=some ((nms h.sh.bs)[j]'(by omega)) by
      rw[A0 (by rw[I6];exact hml),Q9 _ _ hml,hmn,e])
     omega) (by rw[Q9 _ _ hml,hmn];simp)
    have hat:=Abn h.sh _ x0.nm W0 (HK.up hB00);rw[hix] at hat;have hm5:h.sh.bs.length<=5:=Hok.out.2.1;obtain⟨bb,oo,ha2,hSb,hbb⟩:=hbp (by omega);subst ha2;go_upto_region 8 with (go_at_call 79;refine hat.mono ?_;rintro e W2 ⟨rfl,hb3⟩)
    have hB02:=D6 hB00 hb3;have hB12:=D6 hB1 hb3;have hv3:=hv2.up hb3;have hX2:=hX.up hb3 hX.2.2;have hXlt:=hX2.2.2;have hqlt:w.heap.size<W2.heap.size:=A1 hlt hB12.size;have hzlt:bb<W2.heap.size:=A1 hbb hB02.size;clear f0 f1 f2 f3 f4 f5 d0 d1 d2 d3 d4 d5;obtain⟨f0,f1,f2,f3,f4,f5⟩:=hX2.c6;obtain⟨d0,d1,d2,d3,d4,d5⟩:=(hC.up hB12 hlt).c6
    have HAT:Hid (ShareAt h x0↔(h.sh.bs[m]).needs=rbThings x0 x0.ad/\(0<=x0.si->Part (rbOwn x0) (h.sh.bs[m]).has)):=by
     show _↔_
     unfold ShareAt;rw[hsh];exact⟨λt=>t.2,λt=>⟨hmem,t⟩⟩
    obtain⟨ah,dh,an,dn,s0,s1,s2,hLh0,hLn0,-⟩:=((hSb.at hml).up hB02 hbb).cells;have hLn:=hLn0;have hLh:=hLh0;have Hsz:Hid (∀s∈rbThings x0 x0.ad,s.size<=maxLen):=Aaz hv3 x0.ad;have Hsz2:Hid (∀s∈rbOwn x0,s.size<=maxLen):=L8 hv3;have hvd:=hv3.up (A4 _ _).drew;clear hmem hmn hsh hix hat hm hSb hv2 hLh0 hLn0 hX2;generalize h.sh.bs[m]=y at *;have hS0:Below W2.heap.size W2 W2/\W2.cell? ⟨w.heap.size,0,none⟩=some (.int .i64 h.now)/\W2.cell? ⟨w.heap.size,1,none⟩=some (.int .i64 h.last)/\W2.cell? ⟨w.heap.size,2,none⟩=some (.slice a1 h.sh.things.length c1)/\W2.cell? ⟨w.heap.size,3,none⟩=some (.slice (some ⟨bb,oo,none⟩) h.sh.bs.length c2)/\W2.cell? ⟨w.heap.size,4,none⟩=some (.slice (some ⟨b,o,none⟩) h.bs.length c3)/\W2.cell? ⟨w.heap.size,5,none⟩=some (.slice a4 h.ds.length c4)/\W2.cell? ⟨wr.heap.size,0,none⟩=some (.string x0.nm)/\W2.cell? ⟨wr.heap.size,1,none⟩=some (.slice (some ⟨p,q,none⟩) x0.ps.length c)/\W2.cell? ⟨wr.heap.size,2,none⟩=some (.slice (some ⟨g,r,none⟩) x0.sl.length d)/\W2.cell? ⟨wr.heap.size,3,none⟩=some (.string x0.ad)/\W2.cell? ⟨wr.heap.size,4,none⟩=some (.int .i64 x0.si)/\W2.cell? ⟨wr.heap.size,5,none⟩=some (.int .i64 x0.st)/\World.cell? W2 ⟨bb,oo+m*3+1,none⟩=some (.slice ah y.has.length dh)/\World.cell? W2 ⟨bb,oo+m*3+2,none⟩=some (.slice an y.needs.length dn):=⟨A4 _ _,d0,d1,d2,d3,d4,d5,f0,f1,f2,f3,f4,f5,s1,s2⟩;clear f0 f1 f2 f3 f4 f5 d0 d1 d2 d3 d4 d5 s0 s1 s2;have hS1:Below W2.heap.size W2 W2.drew/\W2.drew.cell? ⟨w.heap.size,0,none⟩=some (.int .i64 h.now)/\W2.drew.cell? ⟨w.heap.size,1,none⟩=some (.int .i64 h.last)/\W2.drew.cell? ⟨w.heap.size,2,none⟩=some (.slice a1 h.sh.things.length c1)/\W2.drew.cell? ⟨w.heap.size,3,none⟩=some (.slice (some ⟨bb,oo,none⟩) h.sh.bs.length c2)/\W2.drew.cell? ⟨w.heap.size,4,none⟩=some (.slice (some ⟨b,o,none⟩) h.bs.length c3)/\W2.drew.cell? ⟨w.heap.size,5,none⟩=some (.slice a4 h.ds.length c4)/\W2.drew.cell? ⟨wr.heap.size,0,none⟩=some (.string x0.nm)/\W2.drew.cell? ⟨wr.heap.size,1,none⟩=some (.slice (some ⟨p,q,none⟩) x0.ps.length c)/\W2.drew.cell? ⟨wr.heap.size,2,none⟩=some (.slice (some ⟨g,r,none⟩) x0.sl.length d)/\W2.drew.cell? ⟨wr.heap.size,3,none⟩=some (.string x0.ad)/\W2.drew.cell? ⟨wr.heap.size,4,none⟩=some (.int .i64 x0.si)/\W2.drew.cell? ⟨wr.heap.size,5,none⟩=some (.int .i64 x0.st)/\World.cell? W2.drew ⟨bb,oo+m*3+1,none⟩=some (.slice ah y.has.length dh)/\World.cell? W2.drew ⟨bb,oo+m*3+2,none⟩=some (.slice an y.needs.length dn):=Ahn hS0;go_cut [65] (λv65 wc=>∃cb:Bool,v65=.bool cb/\(cb=true->¬ShareAt h x0)/\(cb=false->ShareAt h x0)/\Below W2.heap.size W2 wc)
    case first =>
     clear NO YES HI;cases hq:pB (y.needs=rbThings x0 x0.ad)
     ·have HN:Hid (¬ShareAt h x0):=λt=>J4.1 hq (HAT.out.1 t).1
      clear hS0;refine F5 99 (λw'=>Below W2.heap.size W2 w'/\w'.cell? ⟨w.heap.size,0,none⟩=some (.int .i64 h.now)/\w'.cell? ⟨w.heap.size,1,none⟩=some (.int .i64 h.last)/\w'.cell? ⟨w.heap.size,2,none⟩=some (.slice a1 h.sh.things.length c1)/\w'.cell? ⟨w.heap.size,3,none⟩=some (.slice (some ⟨bb,oo,none⟩) h.sh.bs.length c2)/\w'.cell? ⟨w.heap.size,4,none⟩=some (.slice (some ⟨b,o,none⟩) h.bs.length c3)/\w'.cell? ⟨w.heap.size,5,none⟩=some (.slice a4 h.ds.length c4)/\w'.cell? ⟨wr.heap.size,0,none⟩=some (.string x0.nm)/\w'.cell? ⟨wr.heap.size,1,none⟩=some (.slice (some ⟨p,q,none⟩) x0.ps.length c)/\w'.cell? ⟨wr.heap.size,2,none⟩=some (.slice (some ⟨g,r,none⟩) x0.sl.length d)/\w'.cell? ⟨wr.heap.size,3,none⟩=some (.string x0.ad)/\w'.cell? ⟨wr.heap.size,4,none⟩=some (.int .i64 x0.si)/\w'.cell? ⟨wr.heap.size,5,none⟩=some (.int .i64 x0.st)/\World.cell? w' ⟨bb,oo+m*3+1,none⟩=some (.slice ah y.has.length dh)/\World.cell? w' ⟨bb,oo+m*3+2,none⟩=some (.slice an y.needs.length dn)) (by kernel_rfl) ?_;refine tkx 0 rfl hS1 ?_;refine tkx 1 rfl hS1 ?_;refine tkx 2 rfl hS1 ?_;refine tkx 3 rfl hS1 ?_;refine tkx 4 rfl hS1 ?_;refine tkx 5 rfl hS1 ?_;refine tkx 6 rfl hS1 ?_;refine tkx 7 rfl hS1 ?_;refine tkx 8 rfl hS1 ?_;refine tkx 9 rfl hS1 ?_;refine tkx 10 rfl hS1 ?_;refine tkx 11 rfl hS1 ?_;refine tkx 12 rfl hS1 ?_;refine D8 (i:=13) (by kernel_rfl) rfl (λK hK=>?_);go_simp
      go_wp2_with (go_at_call 81;refine (AbK x0 _ _ x0.ad _ hvd).mono ?_;rintro e w4 ⟨⟨u4,rfl,hT4⟩,hb4⟩)
      have hS2:Below W2.heap.size W2 w4/\w4.cell? ⟨w.heap.size,0,none⟩=some (.int .i64 h.now)/\w4.cell? ⟨w.heap.size,1,none⟩=some (.int .i64 h.last)/\w4.cell? ⟨w.heap.size,2,none⟩=some (.slice a1 h.sh.things.length c1)/\w4.cell? ⟨w.heap.size,3,none⟩=some (.slice (some ⟨bb,oo,none⟩) h.sh.bs.length c2)/\w4.cell? ⟨w.heap.size,4,none⟩=some (.slice (some ⟨b,o,none⟩) h.bs.length c3)/\w4.cell? ⟨w.heap.size,5,none⟩=some (.slice a4 h.ds.length c4)/\w4.cell? ⟨wr.heap.size,0,none⟩=some (.string x0.nm)/\w4.cell? ⟨wr.heap.size,1,none⟩=some (.slice (some ⟨p,q,none⟩) x0.ps.length c)/\w4.cell? ⟨wr.heap.size,2,none⟩=some (.slice (some ⟨g,r,none⟩) x0.sl.length d)/\w4.cell? ⟨wr.heap.size,3,none⟩=some (.string x0.ad)/\w4.cell? ⟨wr.heap.size,4,none⟩=some (.int .i64 x0.si)/\w4.cell? ⟨wr.heap.size,5,none⟩=some (.int .i64 x0.st)/\World.cell? w4 ⟨bb,oo+m*3+1,none⟩=some (.slice ah y.has.length dh)/\World.cell? w4 ⟨bb,oo+m*3+2,none⟩=some (.slice an y.needs.length dn):=Adr hqlt hXlt hzlt hS1 hb4;have hL4:=(hLn.up (A4 _ _).drew).up hb4;obtain⟨gu,cu,hu4,-⟩:=id hT4;subst hu4;refine hK.out _ _ (λ_=>hS2) ?_;clear hK K;refine D8 (i:=14) (by kernel_rfl) rfl (λK hK=>?_);go_simp
      go_wp2_with (go_at_call 80;refine (AcF _ _ _ _ _ hL4 ((Lst.ls (.inr hT4)) Hsz.out)).mono ?_;rw[hq];rintro e w5 ⟨rfl,hb5⟩)
      have hS3:Below W2.heap.size W2 w5/\w5.cell? ⟨w.heap.size,0,none⟩=some (.int .i64 h.now)/\w5.cell? ⟨w.heap.size,1,none⟩=some (.int .i64 h.last)/\w5.cell? ⟨w.heap.size,2,none⟩=some (.slice a1 h.sh.things.length c1)/\w5.cell? ⟨w.heap.size,3,none⟩=some (.slice (some ⟨bb,oo,none⟩) h.sh.bs.length c2)/\w5.cell? ⟨w.heap.size,4,none⟩=some (.slice (some ⟨b,o,none⟩) h.bs.length c3)/\w5.cell? ⟨w.heap.size,5,none⟩=some (.slice a4 h.ds.length c4)/\w5.cell? ⟨wr.heap.size,0,none⟩=some (.string x0.nm)/\w5.cell? ⟨wr.heap.size,1,none⟩=some (.slice (some ⟨p,q,none⟩) x0.ps.length c)/\w5.cell? ⟨wr.heap.size,2,none⟩=some (.slice (some ⟨g,r,none⟩) x0.sl.length d)/\w5.cell? ⟨wr.heap.size,3,none⟩=some (.string x0.ad)/\w5.cell? ⟨wr.heap.size,4,none⟩=some (.int .i64 x0.si)/\w5.cell? ⟨wr.heap.size,5,none⟩=some (.int .i64 x0.st)/\World.cell? w5 ⟨bb,oo+m*3+1,none⟩=some (.slice ah y.has.length dh)/\World.cell? w5 ⟨bb,oo+m*3+2,none⟩=some (.slice an y.needs.length dn):=Adr hqlt hXlt hzlt hS2 hb5;refine hK.out _ _ (λ_=>hS3) ?_;clear hK K;refine tkx 15 rfl hS3 ?_;refine tkx 16 rfl hS3 ?_;refine tkx 17 rfl hS3 ?_;refine skx 18 rfl hS3 ?_;refine skx 19 rfl hS3 ?_;refine skx 20 rfl hS3 ?_;refine skx 21 rfl hS3 ?_;refine skx 22 rfl hS3 ?_;refine skx 23 rfl hS3 ?_;refine skx 24 rfl hS3 ?_;refine skx 25 rfl hS3 ?_;refine skx 26 rfl hS3 ?_;refine skx 27 rfl hS3 ?_;refine skx 28 rfl hS3 ?_;refine skx 29 rfl hS3 ?_;refine skx 30 rfl hS3 ?_;refine skx 31 rfl hS3 ?_;refine skx 32 rfl hS3 ?_;refine skx 33 rfl hS3 ?_;refine D8 (i:=34) (by kernel_rfl) rfl (λK hK=>?_);go_simp
      refine hK.out _ _ (λ_=>hS3) ?_;clear hK K;refine F0 (by kernel_rfl) ?_ _;have hB5:=hS3.1;clear hS1 hS2 hS3;go_wp2_with fail
      go_meet
      case rel=>exact⟨true,rfl,λ_=>HN.out,(λe=>by cases e),hB5⟩
     ·by_cases hsi:0<=x0.si
      case neg =>
       have HY:Hid (ShareAt h x0):=HAT.out.2 ⟨F8.1 hq,λt=>absurd t hsi⟩;have hsd:decide (0<=x0.si)=false:=by simpa using hsi
       clear hS0;refine F5 99 (λw'=>Below W2.heap.size W2 w'/\w'.cell? ⟨w.heap.size,0,none⟩=some (.int .i64 h.now)/\w'.cell? ⟨w.heap.size,1,none⟩=some (.int .i64 h.last)/\w'.cell? ⟨w.heap.size,2,none⟩=some (.slice a1 h.sh.things.length c1)/\w'.cell? ⟨w.heap.size,3,none⟩=some (.slice (some ⟨bb,oo,none⟩) h.sh.bs.length c2)/\w'.cell? ⟨w.heap.size,4,none⟩=some (.slice (some ⟨b,o,none⟩) h.bs.length c3)/\w'.cell? ⟨w.heap.size,5,none⟩=some (.slice a4 h.ds.length c4)/\w'.cell? ⟨wr.heap.size,0,none⟩=some (.string x0.nm)/\w'.cell? ⟨wr.heap.size,1,none⟩=some (.slice (some ⟨p,q,none⟩) x0.ps.length c)/\w'.cell? ⟨wr.heap.size,2,none⟩=some (.slice (some ⟨g,r,none⟩) x0.sl.length d)/\w'.cell? ⟨wr.heap.size,3,none⟩=some (.string x0.ad)/\w'.cell? ⟨wr.heap.size,4,none⟩=some (.int .i64 x0.si)/\w'.cell? ⟨wr.heap.size,5,none⟩=some (.int .i64 x0.st)/\World.cell? w' ⟨bb,oo+m*3+1,none⟩=some (.slice ah y.has.length dh)/\World.cell? w' ⟨bb,oo+m*3+2,none⟩=some (.slice an y.needs.length dn)) (by kernel_rfl) ?_;refine tkx 0 rfl hS1 ?_;refine tkx 1 rfl hS1 ?_;refine tkx 2 rfl hS1 ?_;refine tkx 3 rfl hS1 ?_;refine tkx 4 rfl hS1 ?_;refine tkx 5 rfl hS1 ?_;refine tkx 6 rfl hS1 ?_;refine tkx 7 rfl hS1 ?_;refine tkx 8 rfl hS1 ?_;refine tkx 9 rfl hS1 ?_;refine tkx 10 rfl hS1 ?_;refine tkx 11 rfl hS1 ?_;refine tkx 12 rfl hS1 ?_;refine D8 (i:=13) (by kernel_rfl) rfl (λK hK=>?_);go_simp
       go_wp2_with (go_at_call 81;refine (AbK x0 _ _ x0.ad _ hvd).mono ?_;rintro e w4 ⟨⟨u4,rfl,hT4⟩,hb4⟩)
       have hS2:Below W2.heap.size W2 w4/\w4.cell? ⟨w.heap.size,0,none⟩=some (.int .i64 h.now)/\w4.cell? ⟨w.heap.size,1,none⟩=some (.int .i64 h.last)/\w4.cell? ⟨w.heap.size,2,none⟩=some (.slice a1 h.sh.things.length c1)/\w4.cell? ⟨w.heap.size,3,none⟩=some (.slice (some ⟨bb,oo,none⟩) h.sh.bs.length c2)/\w4.cell? ⟨w.heap.size,4,none⟩=some (.slice (some ⟨b,o,none⟩) h.bs.length c3)/\w4.cell? ⟨w.heap.size,5,none⟩=some (.slice a4 h.ds.length c4)/\w4.cell? ⟨wr.heap.size,0,none⟩=some (.string x0.nm)/\w4.cell? ⟨wr.heap.size,1,none⟩=some (.slice (some ⟨p,q,none⟩) x0.ps.length c)/\w4.cell? ⟨wr.heap.size,2,none⟩=some (.slice (some ⟨g,r,none⟩) x0.sl.length d)/\w4.cell? ⟨wr.heap.size,3,none⟩=some (.string x0.ad)/\w4.cell? ⟨wr.heap.size,4,none⟩=some (.int .i64 x0.si)/\w4.cell? ⟨wr.heap.size,5,none⟩=some (.int .i64 x0.st)/\World.cell? w4 ⟨bb,oo+m*3+1,none⟩=some (.slice ah y.has.length dh)/\World.cell? w4 ⟨bb,oo+m*3+2,none⟩=some (.slice an y.needs.length dn):=Adr hqlt hXlt hzlt hS1 hb4;have hL4:=(hLn.up (A4 _ _).drew).up hb4;obtain⟨gu,cu,hu4,-⟩:=id hT4;subst hu4;refine hK.out _ _ (λ_=>hS2) ?_;clear hK K;refine D8 (i:=14) (by kernel_rfl) rfl (λK hK=>?_);go_simp
       go_wp2_with (go_at_call 80;refine (AcF _ _ _ _ _ hL4 ((Lst.ls (.inr hT4)) Hsz.out)).mono ?_;rw[hq];rintro e w5 ⟨rfl,hb5⟩)
       have hS3:Below W2.heap.size W2 w5/\w5.cell? ⟨w.heap.size,0,none⟩=some (.int .i64 h.now)/\w5.cell? ⟨w.heap.size,1,none⟩=some (.int .i64 h.last)/\w5.cell? ⟨w.heap.size,2,none⟩=some (.slice a1 h.sh.things.length c1)/\w5.cell? ⟨w.heap.size,3,none⟩=some (.slice (some ⟨bb,oo,none⟩) h.sh.bs.length c2)/\w5.cell? ⟨w.heap.size,4,none⟩=some (.slice (some ⟨b,o,none⟩) h.bs.length c3)/\w5.cell? ⟨w.heap.size,5,none⟩=some (.slice a4 h.ds.length c4)/\w5.cell? ⟨wr.heap.size,0,none⟩=some (.string x0.nm)/\w5.cell? ⟨wr.heap.size,1,none⟩=some (.slice (some ⟨p,q,none⟩) x0.ps.length c)/\w5.cell? ⟨wr.heap.size,2,none⟩=some (.slice (some ⟨g,r,none⟩) x0.sl.length d)/\w5.cell? ⟨wr.heap.size,3,none⟩=some (.string x0.ad)/\w5.cell? ⟨wr.heap.size,4,none⟩=some (.int .i64 x0.si)/\w5.cell? ⟨wr.heap.size,5,none⟩=some (.int .i64 x0.st)/\World.cell? w5 ⟨bb,oo+m*3+1,none⟩=some (.slice ah y.has.length dh)/\World.cell? w5 ⟨bb,oo+m*3+2,none⟩=some (.slice an y.needs.length dn):=Adr hqlt hXlt hzlt hS2 hb5;refine hK.out _ _ (λ_=>hS3) ?_;clear hK K;refine tkx 15 rfl hS3 ?_;refine tkx 16 rfl hS3 ?_;refine tkx 17 rfl hS3 ?_;refine tkx 18 rfl hS3 ?_;refine tkx 19 rfl hS3 ?_;refine tkx 20 rfl hS3 ?_;try rw[hsd]
       refine tkx 21 rfl hS3 ?_;refine skx 22 rfl hS3 ?_;refine skx 23 rfl hS3 ?_;refine skx 24 rfl hS3 ?_;refine skx 25 rfl hS3 ?_;refine skx 26 rfl hS3 ?_;refine skx 27 rfl hS3 ?_;refine skx 28 rfl hS3 ?_;refine skx 29 rfl hS3 ?_;refine skx 30 rfl hS3 ?_;refine skx 31 rfl hS3 ?_;refine skx 32 rfl hS3 ?_;refine tkx 33 rfl hS3 ?_;refine D8 (i:=34) (by kernel_rfl) rfl (λK hK=>?_);go_simp
       refine hK.out _ _ (λ_=>hS3) ?_;clear hK K;refine F0 (by kernel_rfl) ?_ _;have hB5:=hS3.1;clear hS1 hS2 hS3;go_wp2_with fail
       go_meet
       case rel=>exact⟨false,rfl,(λe=>by cases e),λ_=>HY.out,hB5⟩
      case pos =>
       clear hS1;go_wp2_with fail
       go_region_held (λw'=>Below W2.heap.size W2 w'/\w'.cell? ⟨w.heap.size,0,none⟩=some (.int .i64 h.now)/\w'.cell? ⟨w.heap.size,1,none⟩=some (.int .i64 h.last)/\w'.cell? ⟨w.heap.size,2,none⟩=some (.slice a1 h.sh.things.length c1)/\w'.cell? ⟨w.heap.size,3,none⟩=some (.slice (some ⟨bb,oo,none⟩) h.sh.bs.length c2)/\w'.cell? ⟨w.heap.size,4,none⟩=some (.slice (some ⟨b,o,none⟩) h.bs.length c3)/\w'.cell? ⟨w.heap.size,5,none⟩=some (.slice a4 h.ds.length c4)/\w'.cell? ⟨wr.heap.size,0,none⟩=some (.string x0.nm)/\w'.cell? ⟨wr.heap.size,1,none⟩=some (.slice (some ⟨p,q,none⟩) x0.ps.length c)/\w'.cell? ⟨wr.heap.size,2,none⟩=some (.slice (some ⟨g,r,none⟩) x0.sl.length d)/\w'.cell? ⟨wr.heap.size,3,none⟩=some (.string x0.ad)/\w'.cell? ⟨wr.heap.size,4,none⟩=some (.int .i64 x0.si)/\w'.cell? ⟨wr.heap.size,5,none⟩=some (.int .i64 x0.st)/\World.cell? w' ⟨bb,oo+m*3+1,none⟩=some (.slice ah y.has.length dh)/\World.cell? w' ⟨bb,oo+m*3+2,none⟩=some (.slice an y.needs.length dn)) (first|assumption|exact Ahn hS0|exact Adr hqlt hXlt hzlt (by assumption) (by assumption))
        (first
         | (go_at_call 81;refine (AbK x0 _ _ x0.ad _ hvd).mono ?_;rintro e w4 ⟨⟨u4,rfl,hT4⟩,hb4⟩;have hL4:=(hLn.up (A4 _ _).drew).up hb4;have hv4:=hvd.up hb4;have hH4:=(hLh.up (A4 _ _).drew).up hb4)
         | (go_at_call 80;refine (AcF _ _ _ _ _ hL4 ((Lst.ls (.inr hT4)) Hsz.out)).mono ?_;rw[hq];rintro e w5 ⟨rfl,hb5⟩;have hv5:=hv4.up hb5;have hH5:=hH4.up hb5)
         | (go_at_call 45;refine (AdZ x0 _ _ _ hv5).mono ?_;rintro e w6 ⟨⟨u6,rfl,hT6⟩,hb6⟩;have hH6:=hH5.up hb6)
         | (go_at_call 82;refine (AlX _ _ _ _ _ ((Lst.ls (.inr hT6)) Hsz2.out) hH6).mono ?_;rintro e w7 ⟨rfl,hw7⟩;obtain rfl:=hw7.symm;clear hw7))
       rename_i hHeld;have hB7:=hHeld.1;clear hHeld hS0 hL4 hv4 hH4 hv5 hH5 hH6 hT4 hT6 hb4 hb5 hb6;have HY:Hid (ShareAt h x0↔Part (rbOwn x0) y.has):=⟨λt=>(HAT.out.1 t).2 hsi,λt=>HAT.out.2 ⟨F8.1 hq,λ_=>t⟩⟩;cases hr:pB (Part (rbOwn x0) y.has)
       ·go_wp2_with fail
        go_meet
        case rel=>exact⟨true,rfl,λ_ t=>J4.1 hr (HY.out.1 t),(λe=>by cases e),hB7⟩
       ·go_wp2_with fail
        go_meet
        case rel=>exact⟨false,rfl,(λe=>by cases e),λ_=>HY.out.2 (F8.1 hr),hB7⟩
    case rest =>
     obtain⟨cb,rfl,hc1,hc0,hBc⟩:=hcut;have hB7:=D6 hB12 hBc;have hB07:=D6 hB0 hB7;clear hS0 hS1;cases cb
     ·have HY:Hid (ShareTo h (k+1)):=YES.out (hc0 rfl)
      clear hc0 hc1;go_wp2_with fail
      go_roundw
      case rel=>exact⟨k+1,by omega,by go_num,HY.out,hB7⟩
      case measure=>simp[intOf];omega
     ·have HN:Hid (pB (SharesOk h)=false):=NO.out (hc1 rfl)
      clear hc0 hc1;go_wp2_with fail
      go_ret
      exact⟨D7 HN.out.symm,hB07⟩
  ·have HY:Hid (pB (SharesOk h)=true):=I7 ⟨Hll.out,by
    have:=HI.out;rwa [show k=h.bs.length by omega] at this⟩
   go_wp2_with fail
   go_ret
   exact⟨D7 HY.out.symm,D6 hB0 hB⟩
theorem Anl {W w0:World} {q r z o1:Nat} {x0 x1 x2 x3 x4 x5 x6 x7 x8 x9 x10 x11 x12:Value} (h:Below W.heap.size W w0/\w0.cell? ⟨q,0,none⟩=some x0/\w0.cell? ⟨q,1,none⟩=some x1/\w0.cell? ⟨q,2,none⟩=some x2/\w0.cell? ⟨q,3,none⟩=some x3/\w0.cell? ⟨q,4,none⟩=some x4/\w0.cell? ⟨q,5,none⟩=some x5/\w0.cell? ⟨r,0,none⟩=some x6/\w0.cell? ⟨r,1,none⟩=some x7/\w0.cell? ⟨r,2,none⟩=some x8/\w0.cell? ⟨r,3,none⟩=some x9/\w0.cell? ⟨r,4,none⟩=some x10/\w0.cell? ⟨r,5,none⟩=some x11/\w0.cell? ⟨z,o1,none⟩=some x12):Below W.heap.size W w0.drew/\w0.drew.cell? ⟨q,0,none⟩=some x0/\w0.drew.cell? ⟨q,1,none⟩=some x1/\w0.drew.cell? ⟨q,2,none⟩=some x2/\w0.drew.cell? ⟨q,3,none⟩=some x3/\w0.drew.cell? ⟨q,4,none⟩=some x4/\w0.drew.cell? ⟨q,5,none⟩=some x5/\w0.drew.cell? ⟨r,0,none⟩=some x6/\w0.drew.cell? ⟨r,1,none⟩=some x7/\w0.drew.cell? ⟨r,2,none⟩=some x8/\w0.drew.cell? ⟨r,3,none⟩=some x9/\w0.drew.cell? ⟨r,4,none⟩=some x10/\w0.drew.cell? ⟨r,5,none⟩=some x11/\w0.drew.cell? ⟨z,o1,none⟩=some x12 :=
 ⟨h.1.drew,h.2⟩
theorem Aho {W w0 w1:World} {q r z o1:Nat} {x0 x1 x2 x3 x4 x5 x6 x7 x8 x9 x10 x11 x12:Value} (hq:q<W.heap.size) (hr:r<W.heap.size) (hz:z<W.heap.size) (h:Below W.heap.size W w0/\w0.cell? ⟨q,0,none⟩=some x0/\w0.cell? ⟨q,1,none⟩=some x1/\w0.cell? ⟨q,2,none⟩=some x2/\w0.cell? ⟨q,3,none⟩=some x3/\w0.cell? ⟨q,4,none⟩=some x4/\w0.cell? ⟨q,5,none⟩=some x5/\w0.cell? ⟨r,0,none⟩=some x6/\w0.cell? ⟨r,1,none⟩=some x7/\w0.cell? ⟨r,2,none⟩=some x8/\w0.cell? ⟨r,3,none⟩=some x9/\w0.cell? ⟨r,4,none⟩=some x10/\w0.cell? ⟨r,5,none⟩=some x11/\w0.cell? ⟨z,o1,none⟩=some x12) (hB:Below w0.heap.size w0 w1):Below W.heap.size W w1/\w1.cell? ⟨q,0,none⟩=some x0/\w1.cell? ⟨q,1,none⟩=some x1/\w1.cell? ⟨q,2,none⟩=some x2/\w1.cell? ⟨q,3,none⟩=some x3/\w1.cell? ⟨q,4,none⟩=some x4/\w1.cell? ⟨q,5,none⟩=some x5/\w1.cell? ⟨r,0,none⟩=some x6/\w1.cell? ⟨r,1,none⟩=some x7/\w1.cell? ⟨r,2,none⟩=some x8/\w1.cell? ⟨r,3,none⟩=some x9/\w1.cell? ⟨r,4,none⟩=some x10/\w1.cell? ⟨r,5,none⟩=some x11/\w1.cell? ⟨z,o1,none⟩=some x12:=by
 obtain⟨h0,a0,a1,a2,a3,a4,a5,a6,a7,a8,a9,a10,a11,a12⟩:=h;have lq:q<w0.heap.size:=A1 hq h0.size;have lr:r<w0.heap.size:=A1 hr h0.size;have lz:z<w0.heap.size:=A1 hz h0.size;exact⟨D6 h0 hB,(hB.cell (p:=⟨q,0,none⟩) lq).trans a0,(hB.cell (p:=⟨q,1,none⟩) lq).trans a1,(hB.cell (p:=⟨q,2,none⟩) lq).trans a2,(hB.cell (p:=⟨q,3,none⟩) lq).trans a3,(hB.cell (p:=⟨q,4,none⟩) lq).trans a4,(hB.cell (p:=⟨q,5,none⟩) lq).trans a5,(hB.cell (p:=⟨r,0,none⟩) lr).trans a6,(hB.cell (p:=⟨r,1,none⟩) lr).trans a7,(hB.cell (p:=⟨r,2,none⟩) lr).trans a8,(hB.cell (p:=⟨r,3,none⟩) lr).trans a9,(hB.cell (p:=⟨r,4,none⟩) lr).trans a10,(hB.cell (p:=⟨r,5,none⟩) lr).trans a11,(hB.cell (p:=⟨z,o1,none⟩) lz).trans a12⟩
def PlaceOk (h:House) (i:Nat) (b:Rb):Prop:=BatOk h.bs h.last i b/\idxI (rnms h.bs) b.nm=(i:Int)
def PlacesTo (h:House) (k:Nat):Prop:=∀(i:Nat) (b:Rb),i<k->h.bs[i]?=some b->PlaceOk h i b
theorem Af9 (l:List ByteArray):(∀(i:Nat) (s:ByteArray),l[i]?=some s->idxI l s=(i:Int))↔l.Nodup:=by
 constructor
 ·intro h
  unfold List.Nodup;rw[List.pairwise_iff_getElem];intro i j hi hj hij e;have h1:=h i _ (A0 hi);have h2:=h j _ (A0 hj);rw[← e,h1] at h2;omega
 ·intro h i s hs
  obtain⟨hi,rfl⟩:=A2.1 hs;refine V0 hi ?_ (by simp);rw[S3];intro hm;obtain⟨j,hj,e⟩:=List.mem_take_iff_getElem.1 hm;have:=List.pairwise_iff_getElem.1 h j i (by omega) hi (by omega);exact this e
theorem Ahp (bs:List Rb) (k:Nat):(rnms bs)[k]?=bs[k]?.map (·.nm):=by simp[rnms]
theorem AlY (h:House):HouseOk h↔TimesOk h/\SafeP h.sh/\DonesOk h/\PlacesTo h h.bs.length/\SharesOk h:=by
 constructor
 ·rintro⟨t0,t1,t2,t3,t4,t5,t6⟩
  refine⟨t0,t2,t1,λi b hi hb=>⟨t4 i b hi hb,?_⟩,t3.1.symm,λi b hi hb=>⟨?_,t5 i b hi hb,t6 i b hi hb⟩⟩
  ·exact (Af9 _).2 t3.2.1 i b.nm (by rw[Ahp,hb];rfl)
  ·exact t3.2.2 _ (List.mem_map.2 ⟨b,A6 hb,rfl⟩)
 ·rintro⟨t0,t2,t1,t4,t5⟩
  refine⟨t0,t1,t2,⟨t5.1.symm,(Af9 _).1 λi s hs=>?_,λs hs=>?_⟩,λi b hi hb=>(t4 i b hi hb).1,λi b hi hb=>(t5.2 i b hi hb).2.1,λi b hi hb=>(t5.2 i b hi hb).2.2⟩
  ·rw[Ahp,B5] at hs
   obtain⟨b,hb,rfl⟩:=hs;exact (t4 i b (A2.1 hb).1 hb).2
  ·obtain⟨b,hb,rfl⟩:=List.mem_map.1 hs
   obtain⟨i,hi,rfl⟩:=B6 hb;exact (t5.2 i _ hi (A0 hi)).1
theorem Ahq (h:House) (tv bv xv dv:Value) (w:World) (H:HV w h tv bv xv dv) :
  Calls Tryz.prog 14 #[.agg #[.int .i64 h.now,.int .i64 h.last,tv,bv,xv,dv]] w λe w'=>e=.returned (.bool (pB (HouseOk h)))/\Below w.heap.size w w':=by
 have H0:=H;obtain⟨a1,c1,a2,c2,a3,c3,a4,c4,rfl,rfl,rfl,rfl⟩:=H.shapes;obtain⟨hmax,hpos⟩:=H.x.inv rfl;unfold maxLen at hmax;clear H;have hB0:=(A4 w.heap.size w).alloc (A3 _) (.cells #[.int .i64 h.now,.int .i64 h.last,.slice a1 h.sh.things.length c1,.slice a2 h.sh.bs.length c2,.slice a3 h.bs.length c3,.slice a4 h.ds.length c4] 37);have hC:CB (w.alloc (.cells #[.int .i64 h.now,.int .i64 h.last,.slice a1 h.sh.things.length c1,.slice a2 h.sh.bs.length c2,.slice a3 h.bs.length c3,.slice a4 h.ds.length c4] 37)) w.heap.size [.int .i64 h.now,.int .i64 h.last,.slice a1 h.sh.things.length c1,.slice a2 h.sh.bs.length c2,.slice a3 h.bs.length c3,.slice a4 h.ds.length c4]:=E7 w _ _;go_enter Tryz.func14,Tryz.ntmps14
 go_upto_region 1 with fail
 generalize w.alloc (.cells #[.int .i64 h.now,.int .i64 h.last,.slice a1 h.sh.things.length c1,.slice a2 h.sh.bs.length c2,.slice a3 h.bs.length c3,.slice a4 h.ds.length c4] 37)=W1 at *;have hlt:=hC.2.2;obtain⟨d0,d1,d2,d3,d4,d5⟩:=hC.c6;have hB:Below W1.heap.size W1 W1:=A4 _ _;obtain⟨hc,hf⟩:=E6 hB;cases q1:inB h.now 0 100000
 ·have HN:Hid (pB (HouseOk h)=false):=F3 λt=>(Aa5 _ _ _).1 q1 ⟨t.1.1,t.1.2.1⟩
  go_wp2_with (first|(go_at_call 36;refine (I4 _ _ _ _).mono ?_;rintro e w' ⟨rfl,hw⟩;obtain rfl:=hw.symm;clear hw))
  go_ret
  exact⟨D7 HN.out.symm,hB0⟩
 cases q2:inB h.last 0 1000000
 ·have HN:Hid (pB (HouseOk h)=false):=F3 λt=>(Aa5 _ _ _).1 q2 ⟨t.1.2.2.1,t.1.2.2.2⟩
  go_wp2_with (first|(go_at_call 36;refine (I4 _ _ _ _).mono ?_;rintro e w' ⟨rfl,hw⟩;obtain rfl:=hw.symm;clear hw))
  go_ret
  exact⟨D7 HN.out.symm,hB0⟩
 have hsf:∀W,Below w.heap.size w W->Calls Tryz.prog 37 #[.agg #[.slice a1 h.sh.things.length c1,.slice a2 h.sh.bs.length c2]] W λe w'=>e=.returned (.bool (pB (SafeP h.sh)))/\Below W.heap.size W w':=λW hW=>(Abo h.sh _ W (H0.up hW).book).mono λe w' ⟨⟨ss,ok,he,ho⟩,hb⟩=>⟨by rw[he,AiI ho],hb⟩;have HSF:Hid (∀W,Below w.heap.size w W->Calls Tryz.prog 37 #[.agg #[.slice a1 h.sh.things.length c1,.slice a2 h.sh.bs.length c2]] W λe w'=>e=.returned (.bool (pB (SafeP h.sh)))/\Below W.heap.size W w'):=hsf;clear hsf;cases q3:pB (SafeP h.sh)
 ·have HN:Hid (pB (HouseOk h)=false):=F3 λt=>J4.1 q3 t.2.2.1
  go_wp2_with (first|(go_at_call 36;refine (I4 _ _ _ _).mono ?_;rintro e w' ⟨rfl,hw⟩;obtain rfl:=hw.symm;clear hw)|(go_at_call 37;refine (HSF.out _ (D6 hB0 hB)).mono ?_;rintro e w1 ⟨rfl,hb1⟩;(first|(have hB':=D6 hB hb1;clear hB;have hB:=hB';clear hB')|(have hB:=hb1));clear hb1;(try clear hc hf);obtain⟨hc,hf⟩:=E6 hB))
  go_ret
  exact⟨D7 HN.out.symm,D6 hB0 hB⟩
 cases q4:pB (DonesOk h)
 ·have HN:Hid (pB (HouseOk h)=false):=F3 λt=>J4.1 q4 t.2.1
  go_wp2_with (first|(go_at_call 36;refine (I4 _ _ _ _).mono ?_;rintro e w' ⟨rfl,hw⟩;obtain rfl:=hw.symm;clear hw)|(go_at_call 37;refine (HSF.out _ (D6 hB0 hB)).mono ?_;rintro e w1 ⟨rfl,hb1⟩;(first|(have hB':=D6 hB hb1;clear hB;have hB:=hB';clear hB')|(have hB:=hb1));clear hb1;(try clear hc hf);obtain⟨hc,hf⟩:=E6 hB)|(go_at_call 38;refine (AeJ h _ _ _ _ _ (H0.up (D6 hB0 hB))).mono ?_;rintro e w1 ⟨rfl,hb1⟩;(first|(have hB':=D6 hB hb1;clear hB;have hB:=hB';clear hB')|(have hB:=hb1));clear hb1;(try clear hc hf);obtain⟨hc,hf⟩:=E6 hB))
  go_ret
  exact⟨D7 HN.out.symm,D6 hB0 hB⟩
 have HT:Hid (pB (HouseOk h)=pB (PlacesTo h h.bs.length/\SharesOk h)):=by
  show _=_
  rw[Bool.eq_iff_iff,F8,F8,AlY];have e1:=(P9 _ _ _).1 q1;have e2:=(P9 _ _ _).1 q2;exact⟨λt=>t.2.2.2,λt=>⟨⟨e1.1,e1.2,e2.1,e2.2⟩,F8.1 q3,F8.1 q4,t⟩⟩
 have Hbk:Hid (BookOk h.sh):=(F8.1 q3).book;go_upto_region 3 with (first|(go_at_call 36;refine (I4 _ _ _ _).mono ?_;rintro e w' ⟨rfl,hw⟩;obtain rfl:=hw.symm;clear hw)|(go_at_call 37;refine (HSF.out _ (D6 hB0 hB)).mono ?_;rintro e w1 ⟨rfl,hb1⟩;(first|(have hB':=D6 hB hb1;clear hB;have hB:=hB';clear hB')|(have hB:=hb1));clear hb1;(try clear hc hf);obtain⟨hc,hf⟩:=E6 hB)|(go_at_call 38;refine (AeJ h _ _ _ _ _ (H0.up (D6 hB0 hB))).mono ?_;rintro e w1 ⟨rfl,hb1⟩;(first|(have hB':=D6 hB hb1;clear hB;have hB:=hB';clear hB')|(have hB:=hb1));clear hb1;(try clear hc hf);obtain⟨hc,hf⟩:=E6 hB))
 have hBs:=hB;clear q1 q2 q3 q4 hc hf hB d0 d1 d2 d3 d4 d5;go_wp2_with fail
 go_loopw [3,4] (λi _ w'=>∃k:Nat,k<=h.bs.length/\i=.int .i64 k/\PlacesTo h k/\Below W1.heap.size W1 w') (λi _ _=>h.bs.length-(intOf i).toNat)
 case atStart=>exact⟨0,by omega,rfl,λi b hi=>by omega,hBs⟩
 case round =>
  clear hBs;obtain⟨k,hk,rfl,hinv,hB⟩:=hrel;have HI:Hid (PlacesTo h k):=hinv;clear hinv;obtain⟨d0,d1,d2,d3,d4,d5⟩:=(hC.up hB hlt).c6;by_cases hp:k<h.bs.length
  ·obtain⟨b,o,ha3,hS,hb⟩:=hpos (by omega)
   subst ha3;have hB01:=D6 hB0 hB;have hS1':=hS.up hB01 hb;obtain⟨p,q,c,g,r,d,⟨e0,e1,e2,e3,e4,e5⟩,hv⟩:=(hS1'.at hp).open
   have NO:Hid (¬PlaceOk h k h.bs[k]->pB (HouseOk h)=false):=λhn=>by
    rw[HT.out];exact F3 λt=>hn (t.1 k _ hp (A0 hp))
   have YES:Hid (PlaceOk h k h.bs[k]->PlacesTo h (k+1)):=λhy=>Z7 (P:=PlaceOk h) HI.out hp hy
   have HP:Hid (0<k->∃pst:Int,wr.cell? ⟨b,o+(k-1)*6+5,none⟩=some (.int .i64 pst)/\(pst<(h.bs[k]).st↔∀(j:Nat) (p':Rb),j+1=k->h.bs[j]?=some p'->p'.st<(h.bs[k]).st)):=λh0=>by
    have hk1:k-1<h.bs.length:=by omega
    obtain⟨_,_,_,_,_,_,⟨-,-,-,-,-,z5⟩,-⟩:=(hS1'.at hk1).open;refine⟨(h.bs[k-1]).st,z5,λhle j p' hj hp'=>?_,λt=>t (k-1) _ (by omega) (A0 hk1)⟩;obtain rfl:j=k-1:=by omega
    rw[A0 hk1] at hp';obtain rfl:=A5 hp';exact hle
   generalize h.bs[k]=x0 at *;clear hS hS1';have hB1:=hB.alloc hB.size (.cells #[.string x0.nm,.slice (some ⟨p,q,none⟩) x0.ps.length c,.slice (some ⟨g,r,none⟩) x0.sl.length d,.string x0.ad,.int .i64 x0.si,.int .i64 x0.st] 52);have hX:CB (wr.alloc (.cells #[.string x0.nm,.slice (some ⟨p,q,none⟩) x0.ps.length c,.slice (some ⟨g,r,none⟩) x0.sl.length d,.string x0.ad,.int .i64 x0.si,.int .i64 x0.st] 52)) wr.heap.size [.string x0.nm,.slice (some ⟨p,q,none⟩) x0.ps.length c,.slice (some ⟨g,r,none⟩) x0.sl.length d,.string x0.ad,.int .i64 x0.si,.int .i64 x0.st]:=E7 wr _ _;have hal:=(A4 wr.heap.size wr).alloc (A3 _) (.cells #[.string x0.nm,.slice (some ⟨p,q,none⟩) x0.ps.length c,.slice (some ⟨g,r,none⟩) x0.sl.length d,.string x0.ad,.int .i64 x0.si,.int .i64 x0.st] 52);have hv2:=hv.up hal;have hbw:b<wr.heap.size:=A1 hb hB01.size
   have HP2:Hid (0<k->∃pst:Int,(wr.alloc (.cells #[.string x0.nm,.slice (some ⟨p,q,none⟩) x0.ps.length c,.slice (some ⟨g,r,none⟩) x0.sl.length d,.string x0.ad,.int .i64 x0.si,.int .i64 x0.st] 52)).cell? ⟨b,o+(k-1)*6+5,none⟩=some (.int .i64 pst)/\(pst<x0.st↔∀(j:Nat) (p':Rb),j+1=k->h.bs[j]?=some p'->p'.st<x0.st)):=λh0=>by
    obtain⟨pst,z1,z2⟩:=HP.out h0;exact⟨pst,(hal.cell (p:=⟨b,o+(k-1)*6+5,none⟩) hbw).trans z1,z2⟩
   clear HP hal;go_upto_region 7 with fail
   generalize wr.alloc (.cells #[.string x0.nm,.slice (some ⟨p,q,none⟩) x0.ps.length c,.slice (some ⟨g,r,none⟩) x0.sl.length d,.string x0.ad,.int .i64 x0.si,.int .i64 x0.st] 52)=W2 at *;clear d0 d1 d2 d3 d4 d5 e0 e1 e2 e3 e4 e5 hv;obtain⟨f0,f1,f2,f3,f4,f5⟩:=hX.c6;obtain⟨d0,d1,d2,d3,d4,d5⟩:=(hC.up hB1 hlt).c6;have hXlt:=hX.2.2;have hqlt:w.heap.size<W2.heap.size:=A1 hlt hB1.size;have hB02:=D6 hB0 hB1;have hzlt:b<W2.heap.size:=A1 hb hB02.size;have hS0:Below W2.heap.size W2 W2/\W2.cell? ⟨w.heap.size,0,none⟩=some (.int .i64 h.now)/\W2.cell? ⟨w.heap.size,1,none⟩=some (.int .i64 h.last)/\W2.cell? ⟨w.heap.size,2,none⟩=some (.slice a1 h.sh.things.length c1)/\W2.cell? ⟨w.heap.size,3,none⟩=some (.slice a2 h.sh.bs.length c2)/\W2.cell? ⟨w.heap.size,4,none⟩=some (.slice (some ⟨b,o,none⟩) h.bs.length c3)/\W2.cell? ⟨w.heap.size,5,none⟩=some (.slice a4 h.ds.length c4)/\W2.cell? ⟨wr.heap.size,0,none⟩=some (.string x0.nm)/\W2.cell? ⟨wr.heap.size,1,none⟩=some (.slice (some ⟨p,q,none⟩) x0.ps.length c)/\W2.cell? ⟨wr.heap.size,2,none⟩=some (.slice (some ⟨g,r,none⟩) x0.sl.length d)/\W2.cell? ⟨wr.heap.size,3,none⟩=some (.string x0.ad)/\W2.cell? ⟨wr.heap.size,4,none⟩=some (.int .i64 x0.si)/\W2.cell? ⟨wr.heap.size,5,none⟩=some (.int .i64 x0.st):=⟨A4 _ _,d0,d1,d2,d3,d4,d5,f0,f1,f2,f3,f4,f5⟩;have HOF:Hid (∀W,Below W2.heap.size W2 W->Calls Tryz.prog 40 #[.agg #[.int .i64 h.now,.int .i64 h.last,.slice a1 h.sh.things.length c1,.slice a2 h.sh.bs.length c2,.slice (some ⟨b,o,none⟩) h.bs.length c3,.slice a4 h.ds.length c4],.string x0.nm] W λe w'=>e=.returned (.int .i64 (idxI (rnms h.bs) x0.nm))/\Below W.heap.size W w'):=λW hW=>Ank h _ _ _ _ x0.nm W (H0.up (D6 hB02 hW));have hvd:=hv2.up (A4 _ _).drew;clear f0 f1 f2 f3 f4 f5 d0 d1 d2 d3 d4 d5 hv2;go_cut [71] (λv71 wc=>∃cb:Bool,v71=.bool cb/\(cb=true->¬PlaceOk h k x0)/\(cb=false->PlaceOk h k x0)/\Below W2.heap.size W2 wc)
   case first =>
    clear NO YES HI;cases hq:pB (RbOk x0)
    ·have HN:Hid (¬PlaceOk h k x0):=λt=>J4.1 hq t.1.1
     have hS1:Below W2.heap.size W2 W2.drew/\W2.drew.cell? ⟨w.heap.size,0,none⟩=some (.int .i64 h.now)/\W2.drew.cell? ⟨w.heap.size,1,none⟩=some (.int .i64 h.last)/\W2.drew.cell? ⟨w.heap.size,2,none⟩=some (.slice a1 h.sh.things.length c1)/\W2.drew.cell? ⟨w.heap.size,3,none⟩=some (.slice a2 h.sh.bs.length c2)/\W2.drew.cell? ⟨w.heap.size,4,none⟩=some (.slice (some ⟨b,o,none⟩) h.bs.length c3)/\W2.drew.cell? ⟨w.heap.size,5,none⟩=some (.slice a4 h.ds.length c4)/\W2.drew.cell? ⟨wr.heap.size,0,none⟩=some (.string x0.nm)/\W2.drew.cell? ⟨wr.heap.size,1,none⟩=some (.slice (some ⟨p,q,none⟩) x0.ps.length c)/\W2.drew.cell? ⟨wr.heap.size,2,none⟩=some (.slice (some ⟨g,r,none⟩) x0.sl.length d)/\W2.drew.cell? ⟨wr.heap.size,3,none⟩=some (.string x0.ad)/\W2.drew.cell? ⟨wr.heap.size,4,none⟩=some (.int .i64 x0.si)/\W2.drew.cell? ⟨wr.heap.size,5,none⟩=some (.int .i64 x0.st):=Abl hS0;clear hS0;refine F5 99 (λw'=>Below W2.heap.size W2 w'/\w'.cell? ⟨w.heap.size,0,none⟩=some (.int .i64 h.now)/\w'.cell? ⟨w.heap.size,1,none⟩=some (.int .i64 h.last)/\w'.cell? ⟨w.heap.size,2,none⟩=some (.slice a1 h.sh.things.length c1)/\w'.cell? ⟨w.heap.size,3,none⟩=some (.slice a2 h.sh.bs.length c2)/\w'.cell? ⟨w.heap.size,4,none⟩=some (.slice (some ⟨b,o,none⟩) h.bs.length c3)/\w'.cell? ⟨w.heap.size,5,none⟩=some (.slice a4 h.ds.length c4)/\w'.cell? ⟨wr.heap.size,0,none⟩=some (.string x0.nm)/\w'.cell? ⟨wr.heap.size,1,none⟩=some (.slice (some ⟨p,q,none⟩) x0.ps.length c)/\w'.cell? ⟨wr.heap.size,2,none⟩=some (.slice (some ⟨g,r,none⟩) x0.sl.length d)/\w'.cell? ⟨wr.heap.size,3,none⟩=some (.string x0.ad)/\w'.cell? ⟨wr.heap.size,4,none⟩=some (.int .i64 x0.si)/\w'.cell? ⟨wr.heap.size,5,none⟩=some (.int .i64 x0.st)) (by kernel_rfl) ?_;refine tkx 0 rfl hS1 ?_;refine D8 (i:=1) (by kernel_rfl) rfl (λK hK=>?_);go_simp
     go_wp2_with (go_at_call 39;refine (O2 x0 _ _ _ hvd).mono ?_;rw[hq];rintro e w4 ⟨rfl,hb4⟩)
     have hS2:Below W2.heap.size W2 w4/\w4.cell? ⟨w.heap.size,0,none⟩=some (.int .i64 h.now)/\w4.cell? ⟨w.heap.size,1,none⟩=some (.int .i64 h.last)/\w4.cell? ⟨w.heap.size,2,none⟩=some (.slice a1 h.sh.things.length c1)/\w4.cell? ⟨w.heap.size,3,none⟩=some (.slice a2 h.sh.bs.length c2)/\w4.cell? ⟨w.heap.size,4,none⟩=some (.slice (some ⟨b,o,none⟩) h.bs.length c3)/\w4.cell? ⟨w.heap.size,5,none⟩=some (.slice a4 h.ds.length c4)/\w4.cell? ⟨wr.heap.size,0,none⟩=some (.string x0.nm)/\w4.cell? ⟨wr.heap.size,1,none⟩=some (.slice (some ⟨p,q,none⟩) x0.ps.length c)/\w4.cell? ⟨wr.heap.size,2,none⟩=some (.slice (some ⟨g,r,none⟩) x0.sl.length d)/\w4.cell? ⟨wr.heap.size,3,none⟩=some (.string x0.ad)/\w4.cell? ⟨wr.heap.size,4,none⟩=some (.int .i64 x0.si)/\w4.cell? ⟨wr.heap.size,5,none⟩=some (.int .i64 x0.st):=Abm hqlt hXlt hS1 hb4;have hb24:=D6 (A4 _ _).drew hb4;refine hK.out _ _ (λ_=>hS2) ?_;clear hK K;refine tkx 2 rfl hS2 ?_;refine tkx 3 rfl hS2 ?_;refine skx 4 rfl hS2 ?_;refine skx 5 rfl hS2 ?_;refine skx 6 rfl hS2 ?_;refine skx 7 rfl hS2 ?_;refine skx 8 rfl hS2 ?_;refine tkx 9 rfl hS2 ?_;refine tkx 10 rfl hS2 ?_;refine skx 11 rfl hS2 ?_;refine skx 12 rfl hS2 ?_;refine skx 13 rfl hS2 ?_;refine skx 14 rfl hS2 ?_;refine skx 15 rfl hS2 ?_;refine skx 16 rfl hS2 ?_;refine skx 17 rfl hS2 ?_;refine skx 18 rfl hS2 ?_;refine skx 19 rfl hS2 ?_;refine skx 20 rfl hS2 ?_;refine skx 21 rfl hS2 ?_;refine skx 22 rfl hS2 ?_;refine skx 23 rfl hS2 ?_;refine skx 24 rfl hS2 ?_;refine tkx 25 rfl hS2 ?_;refine tkx 26 rfl hS2 ?_;refine skx 27 rfl hS2 ?_;refine skx 28 rfl hS2 ?_;refine skx 29 rfl hS2 ?_;refine skx 30 rfl hS2 ?_;refine skx 31 rfl hS2 ?_;refine skx 32 rfl hS2 ?_;refine D8 (i:=33) (by kernel_rfl) rfl (λK hK=>?_);go_simp
     refine hK.out _ _ (λ_=>hS2) ?_;clear hK K;refine F0 (by kernel_rfl) ?_ _;have hB5:=hS2.1;clear hS1 hS2;go_wp2_with fail
     go_meet
     case rel=>exact⟨true,rfl,λ_=>HN.out,(λe=>by cases e),hB5⟩
    by_cases hsl:x0.st<=h.last
    case neg =>
     have HN:Hid (¬PlaceOk h k x0):=λt=>hsl t.1.2.1;have hst:decide (h.last<x0.st)=true:=by simp;omega
     have hS1:Below W2.heap.size W2 W2.drew/\W2.drew.cell? ⟨w.heap.size,0,none⟩=some (.int .i64 h.now)/\W2.drew.cell? ⟨w.heap.size,1,none⟩=some (.int .i64 h.last)/\W2.drew.cell? ⟨w.heap.size,2,none⟩=some (.slice a1 h.sh.things.length c1)/\W2.drew.cell? ⟨w.heap.size,3,none⟩=some (.slice a2 h.sh.bs.length c2)/\W2.drew.cell? ⟨w.heap.size,4,none⟩=some (.slice (some ⟨b,o,none⟩) h.bs.length c3)/\W2.drew.cell? ⟨w.heap.size,5,none⟩=some (.slice a4 h.ds.length c4)/\W2.drew.cell? ⟨wr.heap.size,0,none⟩=some (.string x0.nm)/\W2.drew.cell? ⟨wr.heap.size,1,none⟩=some (.slice (some ⟨p,q,none⟩) x0.ps.length c)/\W2.drew.cell? ⟨wr.heap.size,2,none⟩=some (.slice (some ⟨g,r,none⟩) x0.sl.length d)/\W2.drew.cell? ⟨wr.heap.size,3,none⟩=some (.string x0.ad)/\W2.drew.cell? ⟨wr.heap.size,4,none⟩=some (.int .i64 x0.si)/\W2.drew.cell? ⟨wr.heap.size,5,none⟩=some (.int .i64 x0.st):=Abl hS0;clear hS0;refine F5 99 (λw'=>Below W2.heap.size W2 w'/\w'.cell? ⟨w.heap.size,0,none⟩=some (.int .i64 h.now)/\w'.cell? ⟨w.heap.size,1,none⟩=some (.int .i64 h.last)/\w'.cell? ⟨w.heap.size,2,none⟩=some (.slice a1 h.sh.things.length c1)/\w'.cell? ⟨w.heap.size,3,none⟩=some (.slice a2 h.sh.bs.length c2)/\w'.cell? ⟨w.heap.size,4,none⟩=some (.slice (some ⟨b,o,none⟩) h.bs.length c3)/\w'.cell? ⟨w.heap.size,5,none⟩=some (.slice a4 h.ds.length c4)/\w'.cell? ⟨wr.heap.size,0,none⟩=some (.string x0.nm)/\w'.cell? ⟨wr.heap.size,1,none⟩=some (.slice (some ⟨p,q,none⟩) x0.ps.length c)/\w'.cell? ⟨wr.heap.size,2,none⟩=some (.slice (some ⟨g,r,none⟩) x0.sl.length d)/\w'.cell? ⟨wr.heap.size,3,none⟩=some (.string x0.ad)/\w'.cell? ⟨wr.heap.size,4,none⟩=some (.int .i64 x0.si)/\w'.cell? ⟨wr.heap.size,5,none⟩=some (.int .i64 x0.st)) (by kernel_rfl) ?_;refine tkx 0 rfl hS1 ?_;refine D8 (i:=1) (by kernel_rfl) rfl (λK hK=>?_);go_simp
     go_wp2_with (go_at_call 39;refine (O2 x0 _ _ _ hvd).mono ?_;rw[hq];rintro e w4 ⟨rfl,hb4⟩)
     have hS2:Below W2.heap.size W2 w4/\w4.cell? ⟨w.heap.size,0,none⟩=some (.int .i64 h.now)/\w4.cell? ⟨w.heap.size,1,none⟩=some (.int .i64 h.last)/\w4.cell? ⟨w.heap.size,2,none⟩=some (.slice a1 h.sh.things.length c1)/\w4.cell? ⟨w.heap.size,3,none⟩=some (.slice a2 h.sh.bs.length c2)/\w4.cell? ⟨w.heap.size,4,none⟩=some (.slice (some ⟨b,o,none⟩) h.bs.length c3)/\w4.cell? ⟨w.heap.size,5,none⟩=some (.slice a4 h.ds.length c4)/\w4.cell? ⟨wr.heap.size,0,none⟩=some (.string x0.nm)/\w4.cell? ⟨wr.heap.size,1,none⟩=some (.slice (some ⟨p,q,none⟩) x0.ps.length c)/\w4.cell? ⟨wr.heap.size,2,none⟩=some (.slice (some ⟨g,r,none⟩) x0.sl.length d)/\w4.cell? ⟨wr.heap.size,3,none⟩=some (.string x0.ad)/\w4.cell? ⟨wr.heap.size,4,none⟩=some (.int .i64 x0.si)/\w4.cell? ⟨wr.heap.size,5,none⟩=some (.int .i64 x0.st):=Abm hqlt hXlt hS1 hb4;have hb24:=D6 (A4 _ _).drew hb4;refine hK.out _ _ (λ_=>hS2) ?_;clear hK K;refine tkx 2 rfl hS2 ?_;refine tkx 3 rfl hS2 ?_;refine tkx 4 rfl hS2 ?_;refine tkx 5 rfl hS2 ?_;refine tkx 6 rfl hS2 ?_;refine tkx 7 rfl hS2 ?_;refine tkx 8 rfl hS2 ?_;try rw[hst]
     refine tkx 9 rfl hS2 ?_;refine tkx 10 rfl hS2 ?_;refine skx 11 rfl hS2 ?_;refine skx 12 rfl hS2 ?_;refine skx 13 rfl hS2 ?_;refine skx 14 rfl hS2 ?_;refine skx 15 rfl hS2 ?_;refine skx 16 rfl hS2 ?_;refine skx 17 rfl hS2 ?_;refine skx 18 rfl hS2 ?_;refine skx 19 rfl hS2 ?_;refine skx 20 rfl hS2 ?_;refine skx 21 rfl hS2 ?_;refine skx 22 rfl hS2 ?_;refine skx 23 rfl hS2 ?_;refine skx 24 rfl hS2 ?_;refine tkx 25 rfl hS2 ?_;refine tkx 26 rfl hS2 ?_;refine skx 27 rfl hS2 ?_;refine skx 28 rfl hS2 ?_;refine skx 29 rfl hS2 ?_;refine skx 30 rfl hS2 ?_;refine skx 31 rfl hS2 ?_;refine skx 32 rfl hS2 ?_;refine D8 (i:=33) (by kernel_rfl) rfl (λK hK=>?_);go_simp
     refine hK.out _ _ (λ_=>hS2) ?_;clear hK K;refine F0 (by kernel_rfl) ?_ _;have hB5:=hS2.1;clear hS1 hS2;go_wp2_with fail
     go_meet
     case rel=>exact⟨true,rfl,λ_=>HN.out,(λe=>by cases e),hB5⟩
    have hst:decide (h.last<x0.st)=false:=by simp;omega
    rcases C4 k with h0|h0
    ·subst h0
     have HY:Hid (PlaceOk h 0 x0↔idxI (rnms h.bs) x0.nm=((0:Nat):Int)):=⟨λt=>t.2,λt=>⟨⟨F8.1 hq,hsl,λj p' hj=>by omega⟩,t⟩⟩;have hS1:Below W2.heap.size W2 W2.drew/\W2.drew.cell? ⟨w.heap.size,0,none⟩=some (.int .i64 h.now)/\W2.drew.cell? ⟨w.heap.size,1,none⟩=some (.int .i64 h.last)/\W2.drew.cell? ⟨w.heap.size,2,none⟩=some (.slice a1 h.sh.things.length c1)/\W2.drew.cell? ⟨w.heap.size,3,none⟩=some (.slice a2 h.sh.bs.length c2)/\W2.drew.cell? ⟨w.heap.size,4,none⟩=some (.slice (some ⟨b,o,none⟩) h.bs.length c3)/\W2.drew.cell? ⟨w.heap.size,5,none⟩=some (.slice a4 h.ds.length c4)/\W2.drew.cell? ⟨wr.heap.size,0,none⟩=some (.string x0.nm)/\W2.drew.cell? ⟨wr.heap.size,1,none⟩=some (.slice (some ⟨p,q,none⟩) x0.ps.length c)/\W2.drew.cell? ⟨wr.heap.size,2,none⟩=some (.slice (some ⟨g,r,none⟩) x0.sl.length d)/\W2.drew.cell? ⟨wr.heap.size,3,none⟩=some (.string x0.ad)/\W2.drew.cell? ⟨wr.heap.size,4,none⟩=some (.int .i64 x0.si)/\W2.drew.cell? ⟨wr.heap.size,5,none⟩=some (.int .i64 x0.st):=Abl hS0;clear hS0;refine F5 99 (λw'=>Below W2.heap.size W2 w'/\w'.cell? ⟨w.heap.size,0,none⟩=some (.int .i64 h.now)/\w'.cell? ⟨w.heap.size,1,none⟩=some (.int .i64 h.last)/\w'.cell? ⟨w.heap.size,2,none⟩=some (.slice a1 h.sh.things.length c1)/\w'.cell? ⟨w.heap.size,3,none⟩=some (.slice a2 h.sh.bs.length c2)/\w'.cell? ⟨w.heap.size,4,none⟩=some (.slice (some ⟨b,o,none⟩) h.bs.length c3)/\w'.cell? ⟨w.heap.size,5,none⟩=some (.slice a4 h.ds.length c4)/\w'.cell? ⟨wr.heap.size,0,none⟩=some (.string x0.nm)/\w'.cell? ⟨wr.heap.size,1,none⟩=some (.slice (some ⟨p,q,none⟩) x0.ps.length c)/\w'.cell? ⟨wr.heap.size,2,none⟩=some (.slice (some ⟨g,r,none⟩) x0.sl.length d)/\w'.cell? ⟨wr.heap.size,3,none⟩=some (.string x0.ad)/\w'.cell? ⟨wr.heap.size,4,none⟩=some (.int .i64 x0.si)/\w'.cell? ⟨wr.heap.size,5,none⟩=some (.int .i64 x0.st)) (by kernel_rfl) ?_;refine tkx 0 rfl hS1 ?_;refine D8 (i:=1) (by kernel_rfl) rfl (λK hK=>?_);go_simp
     go_wp2_with (go_at_call 39;refine (O2 x0 _ _ _ hvd).mono ?_;rw[hq];rintro e w4 ⟨rfl,hb4⟩)
     have hS2:Below W2.heap.size W2 w4/\w4.cell? ⟨w.heap.size,0,none⟩=some (.int .i64 h.now)/\w4.cell? ⟨w.heap.size,1,none⟩=some (.int .i64 h.last)/\w4.cell? ⟨w.heap.size,2,none⟩=some (.slice a1 h.sh.things.length c1)/\w4.cell? ⟨w.heap.size,3,none⟩=some (.slice a2 h.sh.bs.length c2)/\w4.cell? ⟨w.heap.size,4,none⟩=some (.slice (some ⟨b,o,none⟩) h.bs.length c3)/\w4.cell? ⟨w.heap.size,5,none⟩=some (.slice a4 h.ds.length c4)/\w4.cell? ⟨wr.heap.size,0,none⟩=some (.string x0.nm)/\w4.cell? ⟨wr.heap.size,1,none⟩=some (.slice (some ⟨p,q,none⟩) x0.ps.length c)/\w4.cell? ⟨wr.heap.size,2,none⟩=some (.slice (some ⟨g,r,none⟩) x0.sl.length d)/\w4.cell? ⟨wr.heap.size,3,none⟩=some (.string x0.ad)/\w4.cell? ⟨wr.heap.size,4,none⟩=some (.int .i64 x0.si)/\w4.cell? ⟨wr.heap.size,5,none⟩=some (.int .i64 x0.st):=Abm hqlt hXlt hS1 hb4;have hb24:=D6 (A4 _ _).drew hb4;refine hK.out _ _ (λ_=>hS2) ?_;clear hK K;refine tkx 2 rfl hS2 ?_;refine tkx 3 rfl hS2 ?_;refine tkx 4 rfl hS2 ?_;refine tkx 5 rfl hS2 ?_;refine tkx 6 rfl hS2 ?_;refine tkx 7 rfl hS2 ?_;refine tkx 8 rfl hS2 ?_;try rw[hst]
     refine tkx 9 rfl hS2 ?_;refine tkx 10 rfl hS2 ?_;refine tkx 11 rfl hS2 ?_;refine tkx 12 rfl hS2 ?_;refine tkx 13 rfl hS2 ?_;refine skx 14 rfl hS2 ?_;refine skx 15 rfl hS2 ?_;refine skx 16 rfl hS2 ?_;refine skx 17 rfl hS2 ?_;refine skx 18 rfl hS2 ?_;refine skx 19 rfl hS2 ?_;refine skx 20 rfl hS2 ?_;refine skx 21 rfl hS2 ?_;refine skx 22 rfl hS2 ?_;refine skx 23 rfl hS2 ?_;refine tkx 24 rfl hS2 ?_;refine tkx 25 rfl hS2 ?_;refine tkx 26 rfl hS2 ?_;refine tkx 27 rfl hS2 ?_;refine tkx 28 rfl hS2 ?_;refine tkx 29 rfl hS2 ?_;refine tkx 31 rfl hS2 ?_;refine D8 (i:=30) (by kernel_rfl) rfl (λK hK=>?_);go_simp
     go_wp2_with (go_at_call 40;refine (HOF.out _ hb24).mono ?_;rintro e w5 ⟨rfl,hb5⟩)
     have hS3:Below W2.heap.size W2 w5/\w5.cell? ⟨w.heap.size,0,none⟩=some (.int .i64 h.now)/\w5.cell? ⟨w.heap.size,1,none⟩=some (.int .i64 h.last)/\w5.cell? ⟨w.heap.size,2,none⟩=some (.slice a1 h.sh.things.length c1)/\w5.cell? ⟨w.heap.size,3,none⟩=some (.slice a2 h.sh.bs.length c2)/\w5.cell? ⟨w.heap.size,4,none⟩=some (.slice (some ⟨b,o,none⟩) h.bs.length c3)/\w5.cell? ⟨w.heap.size,5,none⟩=some (.slice a4 h.ds.length c4)/\w5.cell? ⟨wr.heap.size,0,none⟩=some (.string x0.nm)/\w5.cell? ⟨wr.heap.size,1,none⟩=some (.slice (some ⟨p,q,none⟩) x0.ps.length c)/\w5.cell? ⟨wr.heap.size,2,none⟩=some (.slice (some ⟨g,r,none⟩) x0.sl.length d)/\w5.cell? ⟨wr.heap.size,3,none⟩=some (.string x0.ad)/\w5.cell? ⟨wr.heap.size,4,none⟩=some (.int .i64 x0.si)/\w5.cell? ⟨wr.heap.size,5,none⟩=some (.int .i64 x0.st):=Abm hqlt hXlt hS2 hb5;refine hK.out _ _ (λ_=>hS3) ?_;clear hK K;refine tkx 32 rfl hS3 ?_;refine D8 (i:=33) (by kernel_rfl) rfl (λK hK=>?_);go_simp
     refine hK.out _ _ (λ_=>hS3) ?_;clear hK K;refine F0 (by kernel_rfl) ?_ _;have hB5:=hS3.1;clear hS1 hS2 hS3;go_wp2_with fail
     go_meet
     case rel=>exact⟨_,rfl,(λe t=>by have:=HY.out.1 t;simp[this] at e),(λe=>HY.out.2 (by simpa using e)),hB5⟩
    ·obtain⟨pst,cp,hpi⟩:=HP2.out h0
     have hk1:decide (0<(k:Int))=true:=by simp;omega
     have hk2:((k:Int)-1)=((k-1:Nat):Int):=by omega
     have hk3:k-1<h.bs.length:=by omega
     have hk4:IntKind.i64.wrap ((k-1:Nat):Int)=((k-1:Nat):Int):=IntWalk.i64_in _ (by omega);have hk5:IntKind.i64.wrap ((k:Int)-1)=((k-1:Nat):Int):=by rw[IntWalk.i64_in _ (by omega)];omega
     have hS2':Below W2.heap.size W2 W2/\W2.cell? ⟨w.heap.size,0,none⟩=some (.int .i64 h.now)/\W2.cell? ⟨w.heap.size,1,none⟩=some (.int .i64 h.last)/\W2.cell? ⟨w.heap.size,2,none⟩=some (.slice a1 h.sh.things.length c1)/\W2.cell? ⟨w.heap.size,3,none⟩=some (.slice a2 h.sh.bs.length c2)/\W2.cell? ⟨w.heap.size,4,none⟩=some (.slice (some ⟨b,o,none⟩) h.bs.length c3)/\W2.cell? ⟨w.heap.size,5,none⟩=some (.slice a4 h.ds.length c4)/\W2.cell? ⟨wr.heap.size,0,none⟩=some (.string x0.nm)/\W2.cell? ⟨wr.heap.size,1,none⟩=some (.slice (some ⟨p,q,none⟩) x0.ps.length c)/\W2.cell? ⟨wr.heap.size,2,none⟩=some (.slice (some ⟨g,r,none⟩) x0.sl.length d)/\W2.cell? ⟨wr.heap.size,3,none⟩=some (.string x0.ad)/\W2.cell? ⟨wr.heap.size,4,none⟩=some (.int .i64 x0.si)/\W2.cell? ⟨wr.heap.size,5,none⟩=some (.int .i64 x0.st)/\World.cell? W2 ⟨b,o+(k-1)*6+5,none⟩=some (.int .i64 pst):=by
      obtain⟨z,y0,y1,y2,y3,y4,y5,y6,y7,y8,y9,ya,yb⟩:=hS0;exact⟨z,y0,y1,y2,y3,y4,y5,y6,y7,y8,y9,ya,yb,cp⟩
     have hS1:Below W2.heap.size W2 W2.drew/\W2.drew.cell? ⟨w.heap.size,0,none⟩=some (.int .i64 h.now)/\W2.drew.cell? ⟨w.heap.size,1,none⟩=some (.int .i64 h.last)/\W2.drew.cell? ⟨w.heap.size,2,none⟩=some (.slice a1 h.sh.things.length c1)/\W2.drew.cell? ⟨w.heap.size,3,none⟩=some (.slice a2 h.sh.bs.length c2)/\W2.drew.cell? ⟨w.heap.size,4,none⟩=some (.slice (some ⟨b,o,none⟩) h.bs.length c3)/\W2.drew.cell? ⟨w.heap.size,5,none⟩=some (.slice a4 h.ds.length c4)/\W2.drew.cell? ⟨wr.heap.size,0,none⟩=some (.string x0.nm)/\W2.drew.cell? ⟨wr.heap.size,1,none⟩=some (.slice (some ⟨p,q,none⟩) x0.ps.length c)/\W2.drew.cell? ⟨wr.heap.size,2,none⟩=some (.slice (some ⟨g,r,none⟩) x0.sl.length d)/\W2.drew.cell? ⟨wr.heap.size,3,none⟩=some (.string x0.ad)/\W2.drew.cell? ⟨wr.heap.size,4,none⟩=some (.int .i64 x0.si)/\W2.drew.cell? ⟨wr.heap.size,5,none⟩=some (.int .i64 x0.st)/\World.cell? W2.drew ⟨b,o+(k-1)*6+5,none⟩=some (.int .i64 pst):=Anl hS2';clear hS0 hS2' cp;by_cases hps':pst<x0.st
     case neg =>
      have HN:Hid (¬PlaceOk h k x0):=λt=>hps' (hpi.2 t.1.2.2);have hps:decide (x0.st<=pst)=true:=by simp;omega
      clear hpi;refine F5 99 (λw'=>Below W2.heap.size W2 w'/\w'.cell? ⟨w.heap.size,0,none⟩=some (.int .i64 h.now)/\w'.cell? ⟨w.heap.size,1,none⟩=some (.int .i64 h.last)/\w'.cell? ⟨w.heap.size,2,none⟩=some (.slice a1 h.sh.things.length c1)/\w'.cell? ⟨w.heap.size,3,none⟩=some (.slice a2 h.sh.bs.length c2)/\w'.cell? ⟨w.heap.size,4,none⟩=some (.slice (some ⟨b,o,none⟩) h.bs.length c3)/\w'.cell? ⟨w.heap.size,5,none⟩=some (.slice a4 h.ds.length c4)/\w'.cell? ⟨wr.heap.size,0,none⟩=some (.string x0.nm)/\w'.cell? ⟨wr.heap.size,1,none⟩=some (.slice (some ⟨p,q,none⟩) x0.ps.length c)/\w'.cell? ⟨wr.heap.size,2,none⟩=some (.slice (some ⟨g,r,none⟩) x0.sl.length d)/\w'.cell? ⟨wr.heap.size,3,none⟩=some (.string x0.ad)/\w'.cell? ⟨wr.heap.size,4,none⟩=some (.int .i64 x0.si)/\w'.cell? ⟨wr.heap.size,5,none⟩=some (.int .i64 x0.st)/\World.cell? w' ⟨b,o+(k-1)*6+5,none⟩=some (.int .i64 pst)) (by kernel_rfl) ?_;refine tkx 0 rfl hS1 ?_;refine D8 (i:=1) (by kernel_rfl) rfl (λK hK=>?_);go_simp
      go_wp2_with (go_at_call 39;refine (O2 x0 _ _ _ hvd).mono ?_;rw[hq];rintro e w4 ⟨rfl,hb4⟩)
      have hS2:Below W2.heap.size W2 w4/\w4.cell? ⟨w.heap.size,0,none⟩=some (.int .i64 h.now)/\w4.cell? ⟨w.heap.size,1,none⟩=some (.int .i64 h.last)/\w4.cell? ⟨w.heap.size,2,none⟩=some (.slice a1 h.sh.things.length c1)/\w4.cell? ⟨w.heap.size,3,none⟩=some (.slice a2 h.sh.bs.length c2)/\w4.cell? ⟨w.heap.size,4,none⟩=some (.slice (some ⟨b,o,none⟩) h.bs.length c3)/\w4.cell? ⟨w.heap.size,5,none⟩=some (.slice a4 h.ds.length c4)/\w4.cell? ⟨wr.heap.size,0,none⟩=some (.string x0.nm)/\w4.cell? ⟨wr.heap.size,1,none⟩=some (.slice (some ⟨p,q,none⟩) x0.ps.length c)/\w4.cell? ⟨wr.heap.size,2,none⟩=some (.slice (some ⟨g,r,none⟩) x0.sl.length d)/\w4.cell? ⟨wr.heap.size,3,none⟩=some (.string x0.ad)/\w4.cell? ⟨wr.heap.size,4,none⟩=some (.int .i64 x0.si)/\w4.cell? ⟨wr.heap.size,5,none⟩=some (.int .i64 x0.st)/\World.cell? w4 ⟨b,o+(k-1)*6+5,none⟩=some (.int .i64 pst):=Aho hqlt hXlt hzlt hS1 hb4;have hb24:=D6 (A4 _ _).drew hb4;refine hK.out _ _ (λ_=>hS2) ?_;clear hK K;refine tkx 2 rfl hS2 ?_;refine tkx 3 rfl hS2 ?_;refine tkx 4 rfl hS2 ?_;refine tkx 5 rfl hS2 ?_;refine tkx 6 rfl hS2 ?_;refine tkx 7 rfl hS2 ?_;refine tkx 8 rfl hS2 ?_;try rw[hst]
      refine tkx 9 rfl hS2 ?_;refine tkx 10 rfl hS2 ?_;refine tkx 11 rfl hS2 ?_;refine tkx 12 rfl hS2 ?_;try rw[hk1]
      refine tkx 13 rfl hS2 ?_;refine tkx 14 rfl hS2 ?_;refine tkx 15 rfl hS2 ?_;refine tkx 16 rfl hS2 ?_;refine tkx 17 rfl hS2 ?_;try rw[hk4]
      try rw[hk5]
      refine tkx 18 rfl hS2 ?_;refine tkx 19 rfl hS2 ?_;refine tkx 20 rfl hS2 ?_;refine tkx 21 rfl hS2 ?_;refine tkx 22 rfl hS2 ?_;refine tkx 23 rfl hS2 ?_;try rw[hps]
      refine tkx 24 rfl hS2 ?_;refine tkx 25 rfl hS2 ?_;refine tkx 26 rfl hS2 ?_;refine skx 27 rfl hS2 ?_;refine skx 28 rfl hS2 ?_;refine skx 29 rfl hS2 ?_;refine skx 30 rfl hS2 ?_;refine skx 31 rfl hS2 ?_;refine skx 32 rfl hS2 ?_;refine D8 (i:=33) (by kernel_rfl) rfl (λK hK=>?_);go_simp
      refine hK.out _ _ (λ_=>hS2) ?_;clear hK K;refine F0 (by kernel_rfl) ?_ _;have hB5:=hS2.1;clear hS1 hS2;go_wp2_with fail
      go_meet
      case rel=>exact⟨true,rfl,λ_=>HN.out,(λe=>by cases e),hB5⟩
     case pos =>
      have HY:Hid (PlaceOk h k x0↔idxI (rnms h.bs) x0.nm=(k:Int)):=⟨λt=>t.2,λt=>⟨⟨F8.1 hq,hsl,hpi.1 hps'⟩,t⟩⟩;have hps:decide (x0.st<=pst)=false:=by simp;omega
      clear hpi;refine F5 99 (λw'=>Below W2.heap.size W2 w'/\w'.cell? ⟨w.heap.size,0,none⟩=some (.int .i64 h.now)/\w'.cell? ⟨w.heap.size,1,none⟩=some (.int .i64 h.last)/\w'.cell? ⟨w.heap.size,2,none⟩=some (.slice a1 h.sh.things.length c1)/\w'.cell? ⟨w.heap.size,3,none⟩=some (.slice a2 h.sh.bs.length c2)/\w'.cell? ⟨w.heap.size,4,none⟩=some (.slice (some ⟨b,o,none⟩) h.bs.length c3)/\w'.cell? ⟨w.heap.size,5,none⟩=some (.slice a4 h.ds.length c4)/\w'.cell? ⟨wr.heap.size,0,none⟩=some (.string x0.nm)/\w'.cell? ⟨wr.heap.size,1,none⟩=some (.slice (some ⟨p,q,none⟩) x0.ps.length c)/\w'.cell? ⟨wr.heap.size,2,none⟩=some (.slice (some ⟨g,r,none⟩) x0.sl.length d)/\w'.cell? ⟨wr.heap.size,3,none⟩=some (.string x0.ad)/\w'.cell? ⟨wr.heap.size,4,none⟩=some (.int .i64 x0.si)/\w'.cell? ⟨wr.heap.size,5,none⟩=some (.int .i64 x0.st)/\World.cell? w' ⟨b,o+(k-1)*6+5,none⟩=some (.int .i64 pst)) (by kernel_rfl) ?_;refine tkx 0 rfl hS1 ?_;refine D8 (i:=1) (by kernel_rfl) rfl (λK hK=>?_);go_simp
      go_wp2_with (go_at_call 39;refine (O2 x0 _ _ _ hvd).mono ?_;rw[hq];rintro e w4 ⟨rfl,hb4⟩)
      have hS2:Below W2.heap.size W2 w4/\w4.cell? ⟨w.heap.size,0,none⟩=some (.int .i64 h.now)/\w4.cell? ⟨w.heap.size,1,none⟩=some (.int .i64 h.last)/\w4.cell? ⟨w.heap.size,2,none⟩=some (.slice a1 h.sh.things.length c1)/\w4.cell? ⟨w.heap.size,3,none⟩=some (.slice a2 h.sh.bs.length c2)/\w4.cell? ⟨w.heap.size,4,none⟩=some (.slice (some ⟨b,o,none⟩) h.bs.length c3)/\w4.cell? ⟨w.heap.size,5,none⟩=some (.slice a4 h.ds.length c4)/\w4.cell? ⟨wr.heap.size,0,none⟩=some (.string x0.nm)/\w4.cell? ⟨wr.heap.size,1,none⟩=some (.slice (some ⟨p,q,none⟩) x0.ps.length c)/\w4.cell? ⟨wr.heap.size,2,none⟩=some (.slice (some ⟨g,r,none⟩) x0.sl.length d)/\w4.cell? ⟨wr.heap.size,3,none⟩=some (.string x0.ad)/\w4.cell? ⟨wr.heap.size,4,none⟩=some (.int .i64 x0.si)/\w4.cell? ⟨wr.heap.size,5,none⟩=some (.int .i64 x0.st)/\World.cell? w4 ⟨b,o+(k-1)*6+5,none⟩=some (.int .i64 pst):=Aho hqlt hXlt hzlt hS1 hb4;have hb24:=D6 (A4 _ _).drew hb4;refine hK.out _ _ (λ_=>hS2) ?_;clear hK K;refine tkx 2 rfl hS2 ?_;refine tkx 3 rfl hS2 ?_;refine tkx 4 rfl hS2 ?_;refine tkx 5 rfl hS2 ?_;refine tkx 6 rfl hS2 ?_;refine tkx 7 rfl hS2 ?_;refine tkx 8 rfl hS2 ?_;try rw[hst]
      refine tkx 9 rfl hS2 ?_;refine tkx 10 rfl hS2 ?_;refine tkx 11 rfl hS2 ?_;refine tkx 12 rfl hS2 ?_;try rw[hk1]
      refine tkx 13 rfl hS2 ?_;refine tkx 14 rfl hS2 ?_;refine tkx 15 rfl hS2 ?_;refine tkx 16 rfl hS2 ?_;refine tkx 17 rfl hS2 ?_;try rw[hk4]
      try rw[hk5]
      refine tkx 18 rfl hS2 ?_;refine tkx 19 rfl hS2 ?_;refine tkx 20 rfl hS2 ?_;refine tkx 21 rfl hS2 ?_;refine tkx 22 rfl hS2 ?_;refine tkx 23 rfl hS2 ?_;try rw[hps]
      refine tkx 24 rfl hS2 ?_;refine tkx 25 rfl hS2 ?_;refine tkx 26 rfl hS2 ?_;refine tkx 27 rfl hS2 ?_;refine tkx 28 rfl hS2 ?_;refine tkx 29 rfl hS2 ?_;refine tkx 31 rfl hS2 ?_;refine D8 (i:=30) (by kernel_rfl) rfl (λK hK=>?_);go_simp
      go_wp2_with (go_at_call 40;refine (HOF.out _ hb24).mono ?_;rintro e w5 ⟨rfl,hb5⟩)
      have hS3:Below W2.heap.size W2 w5/\w5.cell? ⟨w.heap.size,0,none⟩=some (.int .i64 h.now)/\w5.cell? ⟨w.heap.size,1,none⟩=some (.int .i64 h.last)/\w5.cell? ⟨w.heap.size,2,none⟩=some (.slice a1 h.sh.things.length c1)/\w5.cell? ⟨w.heap.size,3,none⟩=some (.slice a2 h.sh.bs.length c2)/\w5.cell? ⟨w.heap.size,4,none⟩=some (.slice (some ⟨b,o,none⟩) h.bs.length c3)/\w5.cell? ⟨w.heap.size,5,none⟩=some (.slice a4 h.ds.length c4)/\w5.cell? ⟨wr.heap.size,0,none⟩=some (.string x0.nm)/\w5.cell? ⟨wr.heap.size,1,none⟩=some (.slice (some ⟨p,q,none⟩) x0.ps.length c)/\w5.cell? ⟨wr.heap.size,2,none⟩=some (.slice (some ⟨g,r,none⟩) x0.sl.length d)/\w5.cell? ⟨wr.heap.size,3,none⟩=some (.string x0.ad)/\w5.cell? ⟨wr.heap.size,4,none⟩=some (.int .i64 x0.si)/\w5.cell? ⟨wr.heap.size,5,none⟩=some (.int .i64 x0.st)/\World.cell? w5 ⟨b,o+(k-1)*6+5,none⟩=some (.int .i64 pst):=Aho hqlt hXlt hzlt hS2 hb5;refine hK.out _ _ (λ_=>hS3) ?_;clear hK K;refine tkx 32 rfl hS3 ?_;refine D8 (i:=33) (by kernel_rfl) rfl (λK hK=>?_);go_simp
      refine hK.out _ _ (λ_=>hS3) ?_;clear hK K;refine F0 (by kernel_rfl) ?_ _;have hB5:=hS3.1;clear hS1 hS2 hS3;go_wp2_with fail
      go_meet
      case rel=>exact⟨_,rfl,(λe t=>by have:=HY.out.1 t;simp[this] at e),(λe=>HY.out.2 (by simpa using e)),hB5⟩
   case rest =>
    obtain⟨cb,rfl,hc1,hc0,hBc⟩:=hcut;have hB7:=D6 hB1 hBc;have hB07:=D6 hB0 hB7;clear hS0;cases cb
    ·have HY:Hid (PlacesTo h (k+1)):=YES.out (hc0 rfl)
     clear hc0 hc1;go_wp2_with fail
     go_roundw
     case rel=>exact⟨k+1,by omega,by go_num,HY.out,hB7⟩
     case measure=>simp[intOf];omega
    ·have HN:Hid (pB (HouseOk h)=false):=NO.out (hc1 rfl)
     clear hc0 hc1;go_wp2_with fail
     go_ret
     exact⟨D7 HN.out.symm,hB07⟩
  ·have HY:Hid (pB (SharesOk h)=pB (HouseOk h)):=by
    show _=_
    have hpl:PlacesTo h h.bs.length:=by
     have:=HI.out;rwa [show k=h.bs.length by omega] at this
    rw[HT.out,Bool.eq_iff_iff,F8,F8];exact⟨λt=>⟨hpl,t⟩,λt=>t.2⟩
   have hB01:=D6 hB0 hB;go_wp2_with fail
   refine (Aim h _ _ _ _ _ (H0.up hB01) Hbk.out).mono ?_;rintro e w3 ⟨rfl,hB3⟩;clear d0 d1 d2 d3 d4 d5;go_wp2_with fail
   go_ret
   exact⟨D7 HY.out,D6 hB01 hB3⟩
def noHouse:House:=⟨0,0,nobody,[],[]⟩
theorem AiV (w:World):HV w noHouse (.slice none 0 0) (.slice none 0 0) (.slice none 0 0) (.slice none 0 0) :=
 ⟨⟨none,0,rfl,by simp[noHouse,nobody],λs hs=>(by simp[noHouse,nobody] at hs),λh=>(by simp[noHouse,nobody] at h)⟩,⟨none,0,rfl,by simp[noHouse,nobody],λh=>(by simp[noHouse,nobody] at h)⟩,⟨none,0,rfl,by simp[noHouse],λh=>(by simp[noHouse] at h)⟩,⟨none,0,rfl,by simp[noHouse],λh=>(by simp[noHouse] at h)⟩⟩
theorem HouseOk.tiny {h:House} (H:HouseOk h):Tiny h.sh/\h.bs.length<=5/\h.ds.length<=20:=by
 obtain⟨-,h2,h3,h4,-⟩:=H;obtain⟨s1,s2,s3⟩:=O0 h3.book;exact⟨⟨by omega,by omega,λx hx=>by have:=s3 x hx;omega⟩,by rw[h4.1];exact s2,h2.1⟩
theorem HouseOk.batch {h:House} (H:HouseOk h) {i:Nat} {x:Rb} (hx:h.bs[i]?=some x):RbOk x:=(H.2.2.2.2.1 i x (A2.1 hx).1 hx).1
def tickK (h:House) (k:Nat):House:={h with now:=h.now+1,bs:=(h.bs.take k).map tickB++h.bs.drop k}
theorem Ahr {h:House} {k:Nat} (hk:k<h.bs.length):(tickK h k).bs[k]?=h.bs[k]?:=by
 show ((h.bs.take k).map tickB++h.bs.drop k)[k]?=_
 have hl:((h.bs.take k).map tickB).length=k:=by rw[B4,B7];omega
 rw[C9 (by omega),hl,Nat.sub_self,List.getElem?_drop,Nat.add_zero]
theorem AeK {h:House} {k:Nat} {x:Rb} (hx:h.bs[k]?=some x):(tickK h k).bs.set k (tickB x)=(tickK h (k+1)).bs:=by
 obtain⟨hk,rfl⟩:=A2.1 hx;show ((h.bs.take k).map tickB++h.bs.drop k).set k _=(h.bs.take (k+1)).map tickB++h.bs.drop (k+1)
 have hl:((h.bs.take k).map tickB).length=k:=by rw[B4,B7];omega
 rw[List.set_append_right _ _ (by omega),hl,Nat.sub_self,A7 hk,List.map_append,List.append_assoc,D5 hk];rfl
theorem AlZ (h:House) (k:Nat):(tickK h k).bs.length=h.bs.length:=by
 show ((h.bs.take k).map tickB++h.bs.drop k).length=_
 rw[A9,B4,B7,A8];omega
theorem Akg {h:House} {k:Nat} {x:Rb} (hx:h.bs[k]?=some x) (hs:¬0<=x.si):tickK h (k+1)=tickK h k:=by
 have h1:=AeK hx;have h2:tickB x=x:=by unfold tickB;rw[if_neg hs]
 rw[h2] at h1
 have h3:(tickK h k).bs.set k x=(tickK h k).bs:=by
  obtain⟨hk,e⟩:=A2.1 hx;have h4:=Ahr hk;rw[hx] at h4;obtain⟨hk2,e2⟩:=A2.1 h4;rw[← e2];exact List.set_getElem_self hk2
 rw[h3] at h1;show (⟨_,_,_,_,_⟩:House)=_
 unfold tickK at h1 ⊢
 dsimp only at h1 ⊢
 rw[h1]
theorem Ama (h:House):tickK h h.bs.length=tickH h:=by
 unfold tickK tickH;rw[List.take_length,List.drop_length,List.append_nil]
theorem Anm {h:House} (H:HouseOk h):AtOk (tickH h) (tickH h).bs.length:=λj x _ hx=>by
 have hx':(h.bs.map tickB)[j]?=some x:=hx;rw[B0,B5] at hx';obtain⟨y,hy,rfl⟩:=hx';have h1:=(H.batch hy).2.1;have h2:=(H.batch hy).2.2.2.2.1;unfold tickB;split
 ·exact⟨h1,h2⟩
 ·exact⟨h1,h2⟩
def TickIs (h:House) (cd:Int) (h':House):Prop :=
 (¬HouseOk h/\cd=1/\h'=noHouse)∨(HouseOk h/\100000<=h.now/\cd=7/\h'=h)∨
 (HouseOk h/\¬100000<=h.now/\cd=0/\AsksTo (lateTo (tickH h) h.bs.length) (lateTo (tickH h) h.bs.length).bs.length h')
def HX (w:World) (base:Nat) (h:House) (tv bv xv dv:Value):Prop:=HW w base h tv bv xv dv∨(h=noHouse/\tv=.slice none 0 0/\bv=.slice none 0 0/\xv=.slice none 0 0/\dv=.slice none 0 0)
theorem Aos (w:World) (base:Nat):HX w base noHouse (.slice none 0 0) (.slice none 0 0) (.slice none 0 0) (.slice none 0 0):=.inr ⟨rfl,rfl,rfl,rfl,rfl⟩
theorem HX.v {w:World} {base:Nat} {h:House} {tv bv xv dv:Value} (H:HX w base h tv bv xv dv):HV w h tv bv xv dv:=by
 rcases H with H|⟨rfl,rfl,rfl,rfl,rfl⟩
 ·exact H.v
 ·exact AiV w
theorem HX.up {w w':World} {base:Nat} {h:House} {tv bv xv dv:Value} (H:HX w base h tv bv xv dv) (hb:Below w.heap.size w w'):HX w' base h tv bv xv dv:=H.imp (λH=>H.up hb) λh=>h
theorem HX.low {w:World} {base base':Nat} {h:House} {tv bv xv dv:Value} (H:HX w base h tv bv xv dv) (hb:base'<=base):HX w base' h tv bv xv dv:=H.imp (λH=>H.low hb) λh=>h
def Few (h:House):Prop:=Tiny h.sh/\h.bs.length<=1000/\h.ds.length<=1000
theorem Ann:Few noHouse:=⟨Ab9,by simp[noHouse],by simp[noHouse]⟩
theorem HW.since {w:World} {base g n cap k:Nat} {h:House} {tv bv dv:Value} {x:Rb} (H:HW w base h tv bv (.slice (some ⟨g,0,none⟩) n cap) dv) (hx:h.bs[k]?=some x) (s:Int) :
  HW (w.setCell ⟨g,k*6+4,none⟩ (.int .i64 s)) base {h with bs:=h.bs.set k {x with si:=s}} tv bv (.slice (some ⟨g,0,none⟩) n cap) dv:=by
 obtain⟨ps,h1,h2⟩:=H.x;have hx':=hx;rw[← h2,B0,B5] at hx';obtain⟨⟨y,ru,su⟩,hp,e⟩:=hx';obtain rfl:y=x:=e;have hg:w.grownBy (w.setCell ⟨g,k*6+4,none⟩ (.int .i64 s)) (Value.slice (some ⟨g,0,none⟩) n cap).ownBlock:=E0 (E4 _ _) _;exact⟨H.k.step h1.1 (by decide) (by decide) hg,H.z,⟨_,h1.put (y:={y with si:=s}) hp (by omega) rfl rfl rfl rfl,by rw[List.map_set,h2]⟩,H.d.step h1.1 (by decide) hg⟩
theorem HW.as {w:World} {base:Nat} {h h':House} {tv bv xv dv:Value} (H:HW w base h tv bv xv dv) (h1:h'.sh=h.sh) (h2:h'.bs=h.bs) (h3:h'.ds=h.ds):HW w base h' tv bv xv dv :=
 ⟨by rw[h1];exact H.k,by rw[h1];exact H.z,by rw[h2];exact H.x,by rw[h3];exact H.d⟩
theorem Akh {h:House}:∀{k:Nat},k<=h.bs.length->(lateTo h k).now=h.now/\(lateTo h k).last=h.last/\(h.ds.length<=20->(lateTo h k).ds.length<=20)/\(lateTo h k).bs.length<=h.bs.length:=by
 intro k;induction k generalizing h with
 | zero=>exact λ_=>⟨rfl,rfl,λh=>h,A3 _⟩
 | succ k ih =>
  intro hk;have hkl:k<h.bs.length:=by omega
  have hf:(lateAt h k).now=h.now/\(lateAt h k).last=h.last/\(h.ds.length<=20->(lateAt h k).ds.length<=20)/\k<=(lateAt h k).bs.length/\(lateAt h k).bs.length<=h.bs.length:=by
   unfold lateAt;rw[A0 hkl];dsimp only
   split
   ·obtain⟨g1,g2,g3,g4,g5,-⟩:=Ahk (nm:=(phOf (h.bs[k]).ps (h.bs[k]).ad).e) hkl
    exact⟨g1,g2,g3,g4,g5⟩
   ·exact⟨rfl,rfl,λh=>h,by omega,A3 _⟩
  obtain⟨g1,g2,g3,g4,g5⟩:=hf;obtain⟨i1,i2,i3,i4⟩:=ih g4;exact⟨i1.trans g1,i2.trans g2,λh=>i3 (g3 h),B1 i4 g5⟩
theorem HW.xb {w:World} {base:Nat} {h:House} {tv bv xv dv:Value} (H:HW w base h tv bv xv dv):∀k,xv.ownBlock=some k->base<=k:=λk e=>by
 obtain⟨ps,h1,-⟩:=H.x;exact (h1.1.lt k e).1
theorem HW.db {w:World} {base:Nat} {h:House} {tv bv xv dv:Value} (H:HW w base h tv bv xv dv):∀k,dv.ownBlock=some k->base<=k:=λk e=>by
 obtain⟨g,cap,pre,rfl,h1,-⟩:=H.d;exact (h1.lt k e).1
theorem Ano {w w':World} {p:Option Nat} {B:Nat} (h:w.grownBy w' p) (hB:B<=w.heap.size) (hp:∀k,p=some k->B<=k):Below B w w' :=
 ⟨h.os,h.tape,h.output,h.size,λk hk=>h.block k (A1 hk hB) (λe=>by have:=hp k e.symm;omega)⟩
theorem Amb (h:House) (tv bv xv dv:Value) (w:World) (H:HV w h tv bv xv dv) :
  Calls Tryz.prog 5 #[.agg #[.int .i64 h.now,.int .i64 h.last,tv,bv,xv,dv]] w λe w'=>(∃h' tu bu xu du cd,e=.returned (.tuple #[.agg #[.int .i64 h'.now,.int .i64 h'.last,tu,bu,xu,du],.int .i64 cd])/\TickIs h cd h'/\Few h'/\HX w' w.heap.size h' tu bu xu du)/\Below w.heap.size w w':=by
 obtain⟨a1,c1,a2,c2,a3,c3,a4,c4,rfl,rfl,rfl,rfl⟩:=H.shapes;obtain⟨W1,hW1,kA,kR,hB1⟩:∃W1,(w.alloc (.cells #[.int .i64 h.now,.int .i64 h.last,.slice a1 h.sh.things.length c1,.slice a2 h.sh.bs.length c2,.slice a3 h.bs.length c3,.slice a4 h.ds.length c4] 37)).alloc (.cells #[.int .i64 0,.int .i64 0,.slice none 0 0,.slice none 0 0,.slice none 0 0,.slice none 0 0] 37)=W1/\W1.ownsRow w.heap.size 37 6 (.slice (some ⟨w.heap.size,0,none⟩) 1 1) 1 [.int .i64 h.now,.int .i64 h.last,.slice a1 h.sh.things.length c1,.slice a2 h.sh.bs.length c2,.slice a3 h.bs.length c3,.slice a4 h.ds.length c4]/\W1.ownsRow w.heap.size 37 6 (.slice (some ⟨w.heap.size+1,0,none⟩) 1 1) 1 [.int .i64 0,.int .i64 0,.slice none 0 0,.slice none 0 0,.slice none 0 0,.slice none 0 0]/\Below w.heap.size w W1:=⟨_,rfl,Abp w [.int .i64 h.now,.int .i64 h.last,.slice a1 h.sh.things.length c1,.slice a2 h.sh.bs.length c2,.slice a3 h.bs.length c3,.slice a4 h.ds.length c4] [.int .i64 0,.int .i64 0,.slice none 0 0,.slice none 0 0,.slice none 0 0,.slice none 0 0] rfl rfl⟩;go_enter Tryz.func5,Tryz.ntmps5
 go_upto_region 1 with fail
 try rw[hW1]
 clear hW1;have H1:=H.up hB1;obtain⟨e0,e1,e2,e3,e4,e5⟩:=(D9 kA).c6;have hcall:=Ahq h _ _ _ _ W1 H1;by_cases hk:HouseOk h
 case neg =>
  rw[F3 hk] at hcall;have HI:Hid (TickIs h 1 noHouse):=.inl ⟨hk,rfl,rfl⟩;go_upto_region 2 with (go_at_call 14;refine hcall.mono ?_;rintro e w2 ⟨rfl,hb2⟩)
  have kR2:=E1 kR hb2;obtain⟨y0,y1,y2,y3,y4,y5⟩:=(D9 kR2).c6;obtain⟨f0,f1,f2,f3,f4,f5⟩:=(D9 kR2).f6;have hB2:=D6 hB1 hb2;clear hcall hb2;go_wp2_with fail
  refine R8 Tryz.results5 Tryz.underlying37 rfl J7 (D9 kR2) rfl rfl ?_;exact⟨⟨noHouse,_,_,_,_,1,rfl,HI.out,Ann,Aos _ _⟩,L0 hB2 (by omega) _ _ _ _ _ _⟩
 have HK:Hid (HouseOk h):=hk;obtain⟨hty,hb5,hd20⟩:=hk.tiny;rw[I7 hk] at hcall;clear hk;go_upto_region 3 with (go_at_call 14;refine hcall.mono ?_;rintro e w2 ⟨rfl,hb2⟩)
 have kA2:=E1 kA hb2;have kR2:=E1 kR hb2;have hB2:=D6 hB1 hb2;have H2:=H1.up hb2;clear hcall hb2 e0 e1 e2 e3 e4 e5 kA kR H1 H hB1;obtain⟨e0,e1,e2,e3,e4,e5⟩:=(D9 kA2).c6;have hcopy:=AeC h _ _ _ _ w2 H2 (by have:=hty.1;omega) (by have:=hty.2.1;omega) (λy hy=>by have:=hty.2.2 y hy;omega) (by omega) (by omega);go_upto_region 4 with (go_at_call 15;refine hcopy.mono ?_;rintro e w3 ⟨⟨tu,bu,xu,du,rfl,H3⟩,hb3⟩;obtain⟨p1,q1,p2,q2,p3,q3,p4,q4,rfl,rfl,rfl,rfl⟩:=H3.v.shapes)
 obtain⟨W4,hW4,kX,hb4⟩:∃W4,w3.alloc (.cells #[.int .i64 h.now,.int .i64 h.last,.slice p1 h.sh.things.length q1,.slice p2 h.sh.bs.length q2,.slice p3 h.bs.length q3,.slice p4 h.ds.length q4] 37)=W4/\W4.ownsRow w3.heap.size 37 6 (.slice (some ⟨w3.heap.size,0,none⟩) 1 1) 1 [.int .i64 h.now,.int .i64 h.last,.slice p1 h.sh.things.length q1,.slice p2 h.sh.bs.length q2,.slice p3 h.bs.length q3,.slice p4 h.ds.length q4]/\Below w3.heap.size w3 W4:=⟨_,rfl,B9 w3 _ 1 (A3 _) (by unfold maxLen;omega) rfl,(A4 _ _).alloc (A3 _) _⟩;try rw[hW4]
 have hb34:=D6 hb3 hb4;have H4:=H3.up hb4;have kA4:=E1 kA2 hb34;have kR4:=E1 kR2 hb34;have hB4:=D6 hB2 hb34;have hz2:w.heap.size+1<w2.heap.size:=(kR2.lt _ rfl).2;have hz3:=hb3.size;have hz4:=hb4.size;clear hW4 hcopy e0 e1 e2 e3 e4 e5 H3 H2 hb3 hb4 hb34 kA2 kR2 hB2;obtain⟨e0,-⟩:=(D9 kA4).c6;obtain⟨x0',x1',x2',x3',x4',x5'⟩:=(D9 kX).c6;obtain⟨g0',g1',g2',g3',g4',g5'⟩:=(D9 kX).f6;by_cases hnow:100000<=h.now
 ·have HI:Hid (TickIs h 7 h):=.inr (.inl ⟨HK.out,hnow,rfl,rfl⟩)
  obtain⟨y0,y1,y2,y3,y4,y5⟩:=(D9 kR4).c6;obtain⟨f0,f1,f2,f3,f4,f5⟩:=(D9 kR4).f6;go_wp2_with fail
  refine R8 Tryz.results5 Tryz.underlying37 rfl J7 (D9 kR4) rfl rfl ?_;have hg9:=J2 W4 (w.heap.size+1) (.int .i64 h.now) (.int .i64 h.last) (.slice p1 h.sh.things.length q1) (.slice p2 h.sh.bs.length q2) (.slice p3 h.bs.length q3) (.slice p4 h.ds.length q4);exact⟨⟨h,_,_,_,_,7,rfl,HI.out,⟨hty,by omega,by omega⟩,HX.low (.inl (H4.box kR4 hg9)) (by omega)⟩,L0 hB4 (by omega) _ _ _ _ _ _⟩
 ·have hn0:0<=h.now:=HK.out.1.1
  have hw0:IntKind.i64.wrap (h.now+1)=h.now+1:=by rw[IntKind.wrap_i64];omega
  have st:=B3 kX 0 (.int .i64 (h.now+1));have hgX:W4.grownBy (W4.setCell ⟨w3.heap.size,0,none⟩ (.int .i64 (h.now+1))) (Value.slice (some ⟨w3.heap.size,0,none⟩) 1 1).ownBlock:=st.2
  obtain⟨W6,hW6,kX6,kR6,H6,hB6⟩:∃W6,W4.setCell ⟨w3.heap.size,0,none⟩ (.int .i64 (h.now+1))=W6/\W6.ownsRow w3.heap.size 37 6 (.slice (some ⟨w3.heap.size,0,none⟩) 1 1) 1 [.int .i64 (h.now+1),.int .i64 h.last,.slice p1 h.sh.things.length q1,.slice p2 h.sh.bs.length q2,.slice p3 h.bs.length q3,.slice p4 h.ds.length q4]/\W6.ownsRow w.heap.size 37 6 (.slice (some ⟨w.heap.size+1,0,none⟩) 1 1) 1 [.int .i64 0,.int .i64 0,.slice none 0 0,.slice none 0 0,.slice none 0 0,.slice none 0 0]/\HW W6 w2.heap.size (tickK h 0) (.slice p1 h.sh.things.length q1) (.slice p2 h.sh.bs.length q2) (.slice p3 h.bs.length q3) (.slice p4 h.ds.length q4)/\Below w.heap.size w W6 :=
   ⟨_,rfl,st.1,E2 kR4 hgX (by simp[Value.ownBlock];omega),(H4.box kX hgX).as rfl (by simp[tickK]) rfl,hB4.setCell (p:=⟨w3.heap.size,0,none⟩) (by show _<=w3.heap.size;omega) _⟩
  go_upto_region 8 with fail
  try rw[hW6]
  clear hW6 st hgX kX kR4 kA4 H4 hB4 e0 x0' x1' x2' x3' x4' x5' g0' g1' g2' g3' g4' g5';go_loopw [5] (λi w'=>∃k:Nat,k<=h.bs.length/\i=.int .i64 k/\w'.ownsRow w3.heap.size 37 6 (.slice (some ⟨w3.heap.size,0,none⟩) 1 1) 1 [.int .i64 (h.now+1),.int .i64 h.last,.slice p1 h.sh.things.length q1,.slice p2 h.sh.bs.length q2,.slice p3 h.bs.length q3,.slice p4 h.ds.length q4]/\w'.ownsRow w.heap.size 37 6 (.slice (some ⟨w.heap.size+1,0,none⟩) 1 1) 1 [.int .i64 0,.int .i64 0,.slice none 0 0,.slice none 0 0,.slice none 0 0,.slice none 0 0]/\HW w' w2.heap.size (tickK h k) (.slice p1 h.sh.things.length q1) (.slice p2 h.sh.bs.length q2) (.slice p3 h.bs.length q3) (.slice p4 h.ds.length q4)/\Below w.heap.size w w') (λi _=>h.bs.length-(intOf i).toNat)
  case atStart=>exact⟨0,Nat.zero_le _,rfl,kX6,kR6,H6,hB6⟩
  case round =>
   clear kX6 kR6 H6 hB6;obtain⟨k,hkl,rfl,kX,kR,HH,hB⟩:=hrel;by_cases hp:k<h.bs.length
   ·obtain⟨ps,hW,hm⟩:=HH.x
    have hpl:ps.length=h.bs.length:=by have:=congrArg List.length hm;rwa [B4,AlZ] at this
    obtain⟨g,cap,eg⟩:=F4 hW.1 (by omega);simp only[Value.slice.injEq] at eg;obtain⟨rfl,-,rfl⟩:=eg;have hrow:=hW.1;rw[hpl] at hrow;obtain⟨⟨x0,ru,su⟩,hpk⟩:∃p,ps[k]?=some p:=⟨ps[k]'(by omega),A0 _⟩;have hxk:(tickK h k).bs[k]?=some x0:=by rw[← hm,B0,hpk];rfl
    have hx0:h.bs[k]?=some x0:=by rw[← Ahr hp];exact hxk
    have Hx0:Hid (h.bs[k]?=some x0):=hx0;have Hxk:Hid ((tickK h k).bs[k]?=some x0):=hxk;have q4:World.cell? wr ⟨g,k*6+4,none⟩=some (.int .i64 x0.si):=(G8 G6 hrow hpk) 4 _ rfl;have f4:=hrow.frozenAt (k*6+4);have e4:=(D9 kX).c6.2.2.2.2.1;have hglt:g<wr.heap.size:=(hrow.lt g rfl).2;clear hpk hm hpl hxk hx0 hW;by_cases hsi:0<=x0.si
    ·have hrk:=HK.out.batch Hx0.out
     have hsb:x0.si<1000:=by
      have h1:=hrk.2.2.2.2.2.2;have h2:=(AgJ (Ady hrk.2.1 (Abh hrk.2.2.2.2.1))).2;omega
     have hws:IntKind.i64.wrap (x0.si+1)=x0.si+1:=by rw[IntKind.wrap_i64];omega
     clear hrk;go_upto_region 11 with fail
     have hS1:World.cell? wr.drew ⟨w3.heap.size,4,none⟩=some (.slice (some ⟨g,0,none⟩) h.bs.length q3)/\World.cell? wr.drew ⟨g,k*6+4,none⟩=some (.int .i64 x0.si):=⟨e4,q4⟩;have hX1:=Aar kX;have hR1:=Aar kR;have hr1:=Aar hrow;have hH1:=HH.up (A4 _ _).drew;have hB1:=hB.drew;have f41:World.frozen? wr.drew ⟨g,k*6+4,none⟩=false:=f4;clear e4 q4 f4;refine F5 12 (λw'=>World.cell? w' ⟨w3.heap.size,4,none⟩=some (.slice (some ⟨g,0,none⟩) h.bs.length q3)/\World.cell? w' ⟨g,k*6+4,none⟩=some (.int .i64 x0.si)) (by kernel_rfl) ?_;generalize wr.drew=X1 at hS1 hX1 hR1 hr1 hH1 hB1 f41 ⊢
     refine tkx 0 rfl hS1 ?_;refine tkx 1 rfl hS1 ?_;refine tkx 2 rfl hS1 ?_;refine tkx 3 rfl hS1 ?_;refine tkx 4 rfl hS1 ?_;refine tkx 5 rfl hS1 ?_;refine tkx 6 rfl hS1 ?_;refine tkx 7 rfl hS1 ?_;refine tkx 8 rfl hS1 ?_;refine tkx 9 rfl hS1 ?_;refine D8 (i:=10) (by kernel_rfl) rfl (λK hK=>?_);go_simp
     refine hK.out _ _ (λ_=>hS1) ?_;clear hK K;refine tkx 11 rfl hS1 ?_;refine D8 (i:=12) (by kernel_rfl) rfl (λK hK=>?_);have q41:=hS1.2;go_simp
     refine hK.out _ _ (λh=>absurd rfl h) ?_;clear hK K;refine F0 (by kernel_rfl) ?_ _;have hg8:X1.grownBy (X1.setCell ⟨g,k*6+4,none⟩ (.int .i64 (x0.si+1))) (Value.slice (some ⟨g,0,none⟩) h.bs.length q3).ownBlock:=(B3 hr1 _ _).2;have HT:Hid (tickB x0={x0 with si:=x0.si+1}):=by show _=_;unfold tickB;rw[if_pos hsi]
     have HH8:HW (X1.setCell ⟨g,k*6+4,none⟩ (.int .i64 (x0.si+1))) w2.heap.size (tickK h (k+1)) (.slice p1 h.sh.things.length q1) (.slice p2 h.sh.bs.length q2) (.slice (some ⟨g,0,none⟩) h.bs.length q3) (.slice p4 h.ds.length q4):=(hH1.since Hxk.out (x0.si+1)).as rfl (by rw[← AeK Hx0.out,HT.out]) rfl;have kX8:=E2 hX1 hg8 (E5 hX1 hr1 (by decide));have kR8:=E2 hR1 hg8 (E5 hR1 hr1 (by decide));have hB8:Below w.heap.size w (X1.setCell ⟨g,k*6+4,none⟩ (.int .i64 (x0.si+1))):=hB1.setCell (p:=⟨g,k*6+4,none⟩) (by have:=(hr1.lt g rfl).1;show _<=g;omega) _;clear hS1 hX1 hR1 hr1 hH1 hB1 f41 q41 hg8 kX kR HH hB hrow;go_wp2_with fail
     go_roundw
     case rel=>exact⟨k+1,by omega,by go_num,kX8,kR8,HH8,hB8⟩
     case measure=>simp[intOf];omega
    ·have HT:Hid (tickK h (k+1)=tickK h k):=Akg Hx0.out hsi
     go_wp2_with fail
     go_roundw
     case rel=>exact⟨k+1,by omega,by go_num,kX,kR,by rw[HT.out];exact HH,hB⟩
     case measure=>simp[intOf];omega
   ·obtain rfl:k=h.bs.length:=by omega
    rw[Ama] at HH;obtain⟨e0,e1,e2,e3,e4,e5⟩:=(D9 kX).c6;have hlen:(tickH h).bs.length=h.bs.length:=by simp[tickH]
    have hz:=hB.size;have hx3:w3.heap.size<wr.heap.size:=(kX.lt w3.heap.size rfl).2;have hwr:w2.heap.size<=wr.heap.size:=by omega
    have hlate:=Akf (tickH h) _ _ _ _ w2.heap.size wr HH hwr hty (Anm HK.out) (by rw[hlen];omega) hd20;rw[hlen] at hlate;obtain⟨hl1,hl2,hl3,hl4⟩:=Akh (h:=tickH h) (k:=h.bs.length) (by rw[hlen];exact A3 _);rw[hlen] at hl4;have HTI:Hid (∀h',AsksTo (lateTo (tickH h) h.bs.length) (lateTo (tickH h) h.bs.length).bs.length h'->TickIs h 0 h'):=λh' ha=>.inr (.inr ⟨HK.out,by omega,rfl,ha⟩);generalize lateTo (tickH h) h.bs.length=L at *;have hl1:L.now=h.now+1:=hl1;have hl2:L.last=h.last:=hl2;have hl5:L.ds.length<=20:=hl3 hd20
    have HAsk:Hid (∀(w5:World) (t5 b5 x5 d5:Value),HW w5 w2.heap.size L t5 b5 x5 d5->w2.heap.size<=w5.heap.size->Tiny L.sh->Calls Tryz.prog 16 #[.agg #[.int .i64 (h.now+1),.int .i64 h.last,t5,b5,x5,d5]] w5 λe w'=>(∃h' tu bu,e=.returned (.agg #[.int .i64 (h.now+1),.int .i64 h.last,tu,bu,x5,d5])/\AsksTo L L.bs.length h'/\Tiny h'.sh/\HW w' w2.heap.size h' tu bu x5 d5)/\w5.grownBy w' x5.ownBlock):=λw5 t5 b5 x5 d5 h1 h2 h3=>by
     have:=AjS L t5 b5 x5 d5 w2.heap.size w5 h1 h2 h3;rw[hl1,hl2] at this;exact this
    have HCop:Hid (∀(w6:World) (h':House) (t5 b5 x5 d5:Value),HV w6 h' t5 b5 x5 d5->AsksTo L L.bs.length h'->Tiny h'.sh->Few h'/\Calls Tryz.prog 15 #[.agg #[.int .i64 (h.now+1),.int .i64 h.last,t5,b5,x5,d5]] w6 λe w'=>(∃tu bu xu du,e=.returned (.agg #[.int .i64 h'.now,.int .i64 h'.last,tu,bu,xu,du])/\HW w' w6.heap.size h' tu bu xu du)/\Below w6.heap.size w6 w'):=λw6 h' t5 b5 x5 d5 h1 h2 h3=>by
     obtain⟨s1,s2,s3,s4⟩:=h2.same;have hd:h'.ds.length<=20:=by rw[s3];exact hl5
     refine⟨⟨h3,by omega,by omega⟩,?_⟩;have:=AeC h' t5 b5 x5 d5 w6 h1 (by have:=h3.1;omega) (by have:=h3.2.1;omega) (λy hy=>by have:=h3.2.2 y hy;omega) (by omega) (by omega);rw[s1,s2,hl1,hl2] at this;rw[s1,s2,hl1,hl2];exact this
    obtain⟨ps,hW,-⟩:=HH.x;have Hrow:Hid (wr.ownsRow w2.heap.size 52 6 (.slice p3 h.bs.length q3) ps.length (rowsF rowR ps)):=hW.1;have Hd:Hid (DnsW wr w2.heap.size (.slice p4 h.ds.length q4) (tickH h).ds):=HH.d;have Hxb:Hid _:=HH.xb;have Hdb:Hid _:=HH.db;clear hW hl1 hl2 hl3 hl4 hl5
    go_wp2_with (first
     | (go_at_call 17;refine hlate.mono ?_;rintro e w5 ⟨⟨t5,b5,x5,d5,rfl,hT5,H5,-,-⟩,hG5⟩;have kR5:=Ahm kR hG5 Hrow.out Hd.out (by decide) (by decide);have hB5:=hB.trans (hG5.below hz (λk e=>by have:=Hxb.out k e;omega) (λk e=>by have:=Hdb.out k e;omega));have hz5:=hG5.size)
     | (go_at_call 16;refine (HAsk.out w5 t5 b5 x5 d5 H5 (B1 hwr hz5) hT5).mono ?_;rintro e w6 ⟨⟨h6,t6,b6,rfl,ha6,hT6,H6⟩,hG6⟩;obtain⟨ps5,hW5,-⟩:=H5.x;have kR6:=E2 kR5 hG6 (E5 kR5 hW5.1 (by decide));have hB6:=hB5.trans (Ano hG6 (B1 hz hz5) (λk e=>by have:=H5.xb k e;omega)))
     | (go_at_call 15;obtain⟨hfew,hc6⟩:=HCop.out w6 h6 t6 b6 x5 d5 H6.v ha6 hT6;refine hc6.mono ?_;rintro e w7 ⟨⟨t7,b7,x7,d7,rfl,H7⟩,hb7⟩;have kR7:=E1 kR6 hb7;have hB7:=D6 hB6 hb7;obtain⟨u1,v1,u2,v2,u3,v3,u4,v4,rfl,rfl,rfl,rfl⟩:=H7.v.shapes;obtain⟨y0,y1,y2,y3,y4,y5⟩:=(D9 kR7).c6;obtain⟨f0,f1,f2,f3,f4,f5⟩:=(D9 kR7).f6))
    refine R8 Tryz.results5 Tryz.underlying37 rfl J7 (D9 kR7) rfl rfl ?_;have hg9:=J2 w7 (w.heap.size+1) (.int .i64 h6.now) (.int .i64 h6.last) (.slice u1 h6.sh.things.length v1) (.slice u2 h6.sh.bs.length v2) (.slice u3 h6.bs.length v3) (.slice u4 h6.ds.length v4);exact⟨⟨h6,_,_,_,_,0,rfl,HTI.out h6 ha6,hfew,HX.low (.inl (H7.box kR7 hg9)) hB6.size⟩,L0 hB7 (by omega) _ _ _ _ _ _⟩
end Go.Proofs.YtebfdccbmmpceaaGreatDoor
