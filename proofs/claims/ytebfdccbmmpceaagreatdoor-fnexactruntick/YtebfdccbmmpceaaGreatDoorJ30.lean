/- The specification's l23Asks (chapter 23): each that waits asks, in order. -/
import Derived.Test.YtebfdccbmmpceaaGreatDoorJ28
import Derived.Test.YtebfdccbmmpceaaGreatDoorJ29
import Derived.Test.YtebfdccbmmpceaaGreatDoorJ8
import Derived.Test.YtebfdccbmmpceaaGreatDoorJ26
import Derived.Test.YtebfdccbmmpceaaGreatDoorJ27
import Derived.Test.YtebfdccbmmpceaaGreatDoorJ17
import Derived.Test.YtebfdccbmmpceaaGreatDoorKr3
set_option maxRecDepth 20000
set_option maxHeartbeats 8000000
namespace Go.Proofs.YtebfdccbmmpceaaGreatDoor
open Go.RowKit
theorem D9 {w:World} {base e k y:Nat} {cs:List Value} (h:w.ownsRow base e k (.slice (some ⟨y,0,none⟩) 1 1) 1 cs):CB w y cs:=by
 have hl:cs.length=1*k:=h.1;refine⟨λj v hv=>?_,λj hj=>?_,(h.lt y rfl).2⟩
 ·have hj:j<cs.length:=(A2.1 hv).1
  rw[Nat.zero_add,h.cellAt j (by omega)];exact hv
 ·rw[Nat.zero_add]
  refine⟨?_,h.frozenAt j⟩;rw[h.cellAt j (by omega),A0 hj];rfl
theorem HW.box {w w':World} {base b2 n:Nat} {h:House} {tv bv xv dv v:Value} {xs:List Value} (H:HW w base h tv bv xv dv) (hrow:w.ownsRow b2 37 6 v n xs) (hg:w.grownBy w' v.ownBlock):HW w' base h tv bv xv dv:=by
 obtain⟨ps,h1,h2⟩:=H.x;exact⟨H.k.step hrow (by decide) (by decide) hg,H.z,⟨ps,⟨E2 h1.1 hg (E5 h1.1 hrow (by decide)),λp hp=>(h1.2 p hp).step hrow (by decide) (by decide) hg⟩,h2⟩,H.d.step hrow (by decide) hg⟩
theorem J6 {w:World} {base y j:Nat} {cs:List Value} (h:w.ownsRow base 37 6 (.slice (some ⟨y,0,none⟩) 1 1) 1 cs) (u:Value):(w.setCell ⟨y,j,none⟩ u).ownsRow base 37 6 (.slice (some ⟨y,0,none⟩) 1 1) 1 (cs.set j u)/\w.grownBy (w.setCell ⟨y,j,none⟩ u) (Value.slice (some ⟨y,0,none⟩) 1 1).ownBlock:=B3 h j u
structure AS (W:World) (h:House) (x:Rb) (X:World) (k13:Option Value) (k14:Option (Value×Int×Bk)) (k18:Option Nat):Prop where
 B:Below W.heap.size W X
 s13:∀v,k13=some v->Txt X v (rbOwn x)
 s14:∀r,k14=some r->AskIs h.sh x.nm (rbOwn x) r.2.1 r.2.2/\BkW X W.heap.size r.1 r.2.2
 s18:∀y,k18=some y->X.ownsRow W.heap.size 33 2 (.slice (some ⟨y,0,none⟩) 1 1) 1 [.slice none 0 0,.slice none 0 0]
theorem AS.up {W X X':World} {h:House} {x:Rb} {k13:Option Value} {k14:Option (Value×Int×Bk)} {k18:Option Nat} (H:AS W h x X k13 k14 k18) (hb:Below X.heap.size X X'):AS W h x X' k13 k14 k18 :=
 ⟨D6 H.B hb,λv e=>(H.s13 v e).up hb,λr e=>⟨(H.s14 r e).1,(H.s14 r e).2.up hb⟩,λy e=>E1 (H.s18 y e) hb⟩
theorem Aoe (W:World) (h:House) (x:Rb):AS W h x W none none none:=⟨A4 _ _,λ_ h=>(by cases h),λ_ h=>(by cases h),λ_ h=>(by cases h)⟩
theorem AS.own {W X X':World} {h:House} {x:Rb} {k13:Option Value} {k14:Option (Value×Int×Bk)} {k18:Option Nat} {v:Value} (H:AS W h x X k13 k14 k18) (hb:Below X.heap.size X X') (hv:Txt X' v (rbOwn x)):AS W h x X' (some v) k14 k18 :=
 {H.up hb with s13:=λu e=>by cases e;exact hv}
theorem AS.ask {W X X':World} {h:House} {x:Rb} {k13:Option Value} {k14:Option (Value×Int×Bk)} {k18:Option Nat} {v:Value} {cd:Int} {b':Bk} (H:AS W h x X k13 k14 k18) (hb:Below X.heap.size X X') (ha:AskIs h.sh x.nm (rbOwn x) cd b') (hv:BkW X' X.heap.size v b'):AS W h x X' k13 (some (v,cd,b')) k18 :=
 {H.up hb with s14:=λu e=>by cases e;exact⟨ha,hv.low H.B.size⟩}
theorem AS.new {W X:World} {h:House} {x:Rb} {k13:Option Value} {k14:Option (Value×Int×Bk)} {k18:Option Nat} (H:AS W h x X k13 k14 k18):AS W h x (X.alloc (.cells #[.slice none 0 0,.slice none 0 0] 33)) k13 k14 (some X.heap.size) :=
 {H.up ((A4 _ _).alloc (A3 _) _) with s18:=λu e=>by cases e;exact B9 X _ 1 H.B.size (by unfold maxLen;omega) rfl}
theorem AS.fin {W X:World} {h:House} {x:Rb} {k13:Option Value} {tu bu:Value} {cd:Int} {b':Bk} {y:Nat} (H:AS W h x X k13 (some (.agg #[tu,bu],cd,b')) (some y)) :
  Below W.heap.size W ((X.setCell ⟨y,0,none⟩ tu).setCell ⟨y,1,none⟩ bu)/\AskIs h.sh x.nm (rbOwn x) cd b'/\BkW ((X.setCell ⟨y,0,none⟩ tu).setCell ⟨y,1,none⟩ bu) W.heap.size (.agg #[tu,bu]) b'/\CB ((X.setCell ⟨y,0,none⟩ tu).setCell ⟨y,1,none⟩ bu) y [tu,bu]:=by
 have h18:=H.s18 y rfl;have h1:=B3 h18 0 tu;have h2:=B3 h1.1 1 bu;have hg:X.grownBy ((X.setCell ⟨y,0,none⟩ tu).setCell ⟨y,1,none⟩ bu) (Value.slice (some ⟨y,0,none⟩) 1 1).ownBlock:=E3 h1.2 h2.2;exact⟨F1 H.B H.B.size h18 hg (A3 _),(H.s14 _ rfl).1,(H.s14 _ rfl).2.step h18 (by decide) (by decide) hg,D9 h2.1⟩
theorem HW.asked {w:World} {base g n cap k:Nat} {h:House} {tv bv tu bu dv:Value} {b':Bk} {x:Rb} (H:HW w base h tv bv (.slice (some ⟨g,0,none⟩) n cap) dv) (hx:h.bs[k]?=some x) (hb:BkW w base (.agg #[tu,bu]) b') (hz:Szb b') :
  HW (w.setCell ⟨g,k*6+4,none⟩ (.int .i64 0)) base {h with sh:=b',bs:=h.bs.set k {x with si:=0}} tu bu (.slice (some ⟨g,0,none⟩) n cap) dv:=by
 obtain⟨ps,h1,h2⟩:=H.x;have hx':=hx;rw[← h2,B0,B5] at hx';obtain⟨⟨y,ru,su⟩,hp,e⟩:=hx';obtain rfl:y=x:=e;have hg:w.grownBy (w.setCell ⟨g,k*6+4,none⟩ (.int .i64 0)) (Value.slice (some ⟨g,0,none⟩) n cap).ownBlock:=E0 (E4 _ _) _;exact⟨hb.step h1.1 (by decide) (by decide) hg,hz,⟨_,h1.put (y:={y with si:=0}) hp (by omega) rfl rfl rfl rfl,by rw[List.map_set,h2]⟩,H.d.step h1.1 (by decide) hg⟩
theorem Abp (w:World) (cs ds:List Value) (hc:cs.length=6) (hd:ds.length=6) :
  ((w.alloc (.cells cs.toArray 37)).alloc (.cells ds.toArray 37)).ownsRow w.heap.size 37 6 (.slice (some ⟨w.heap.size,0,none⟩) 1 1) 1 cs/\((w.alloc (.cells cs.toArray 37)).alloc (.cells ds.toArray 37)).ownsRow w.heap.size 37 6 (.slice (some ⟨w.heap.size+1,0,none⟩) 1 1) 1 ds/\Below w.heap.size w ((w.alloc (.cells cs.toArray 37)).alloc (.cells ds.toArray 37)):=by
 have h1:(w.alloc (.cells cs.toArray 37)).ownsRow w.heap.size 37 6 (.slice (some ⟨w.heap.size,0,none⟩) 1 1) 1 cs:=by simpa using B9 w cs.toArray 1 (A3 _) (by unfold maxLen;omega) (by simpa using hc)
 have hz:(w.alloc (.cells cs.toArray 37)).heap.size=w.heap.size+1:=by simp
 have h2:((w.alloc (.cells cs.toArray 37)).alloc (.cells ds.toArray 37)).ownsRow w.heap.size 37 6 (.slice (some ⟨(w.alloc (.cells cs.toArray 37)).heap.size,0,none⟩) 1 1) 1 ds:=by simpa using B9 (w.alloc (.cells cs.toArray 37)) ds.toArray 1 (by omega) (by unfold maxLen;omega) (by simpa using hd)
 rw[hz] at h2;exact⟨h1.alloc _,h2,((A4 _ _).alloc (A3 _) _).alloc (by omega) _⟩
theorem AjS (h:House) (tv bv xv dv:Value) (base:Nat) (w:World) (H:HW w base h tv bv xv dv) (hbase:base<=w.heap.size) (hT:Tiny h.sh) :
  Calls Tryz.prog 16 #[.agg #[.int .i64 h.now,.int .i64 h.last,tv,bv,xv,dv]] w λe w'=>(∃h' tu bu,e=.returned (.agg #[.int .i64 h.now,.int .i64 h.last,tu,bu,xv,dv])/\AsksTo h h.bs.length h'/\Tiny h'.sh/\HW w' base h' tu bu xv dv)/\w.grownBy w' xv.ownBlock:=by
 obtain⟨a1,c1,a2,c2,a3,c3,a4,c4,rfl,rfl,rfl,rfl⟩:=H.v.shapes;obtain⟨W1,hW1,kA,kR,hB1⟩:∃W1,(w.alloc (.cells #[.int .i64 h.now,.int .i64 h.last,.slice a1 h.sh.things.length c1,.slice a2 h.sh.bs.length c2,.slice a3 h.bs.length c3,.slice a4 h.ds.length c4] 37)).alloc (.cells #[.int .i64 0,.int .i64 0,.slice none 0 0,.slice none 0 0,.slice none 0 0,.slice none 0 0] 37)=W1/\W1.ownsRow w.heap.size 37 6 (.slice (some ⟨w.heap.size,0,none⟩) 1 1) 1 [.int .i64 h.now,.int .i64 h.last,.slice a1 h.sh.things.length c1,.slice a2 h.sh.bs.length c2,.slice a3 h.bs.length c3,.slice a4 h.ds.length c4]/\W1.ownsRow w.heap.size 37 6 (.slice (some ⟨w.heap.size+1,0,none⟩) 1 1) 1 [.int .i64 0,.int .i64 0,.slice none 0 0,.slice none 0 0,.slice none 0 0,.slice none 0 0]/\Below w.heap.size w W1:=⟨_,rfl,Abp w [.int .i64 h.now,.int .i64 h.last,.slice a1 h.sh.things.length c1,.slice a2 h.sh.bs.length c2,.slice a3 h.bs.length c3,.slice a4 h.ds.length c4] [.int .i64 0,.int .i64 0,.slice none 0 0,.slice none 0 0,.slice none 0 0,.slice none 0 0] rfl rfl⟩;go_enter Tryz.func16,Tryz.ntmps16
 go_upto_region 2 with fail
 try rw[hW1]
 clear hW1;have H1:=H.up hB1;have hG1:w.grownBy W1 (Value.slice a3 h.bs.length c3).ownBlock:=⟨hB1.os,hB1.tape,hB1.output,hB1.size,λk hk _=>hB1.block k hk⟩;have hz1:=hB1.size
 have hmx:h.bs.length<=9223372036854775807:=by
  obtain⟨ps,hw,he⟩:=H.x;have:=Aav hw.1;rw[← he,B4];unfold maxLen at this;omega
 go_loopw [3] (λi w'=>∃(k:Nat) (hk:House) (tu bu:Value),k<=h.bs.length/\i=.int .i64 k/\AsksTo h k hk/\Tiny hk.sh/\w'.ownsRow w.heap.size 37 6 (.slice (some ⟨w.heap.size,0,none⟩) 1 1) 1 [.int .i64 h.now,.int .i64 h.last,tu,bu,.slice a3 h.bs.length c3,.slice a4 h.ds.length c4]/\w'.ownsRow w.heap.size 37 6 (.slice (some ⟨w.heap.size+1,0,none⟩) 1 1) 1 [.int .i64 0,.int .i64 0,.slice none 0 0,.slice none 0 0,.slice none 0 0,.slice none 0 0]/\HW w' base hk tu bu (.slice a3 h.bs.length c3) (.slice a4 h.ds.length c4)/\w.grownBy w' (Value.slice a3 h.bs.length c3).ownBlock) (λi _=>h.bs.length-(intOf i).toNat)
 case atStart=>exact⟨0,h,_,_,by omega,rfl,rfl,hT,kA,kR,H1,hG1⟩
 case round =>
  clear kA kR H1 hG1 hB1 hz1 H hT;obtain⟨k,hk,tu,bu,hle,rfl,hA,hTk,kA,kR,HH,hG⟩:=hrel;have HA:Hid (AsksTo h k hk):=hA;obtain⟨z1,z2,z3,z4⟩:=hA.same;clear hA;have Hs:Hid (hk.now=h.now/\hk.last=h.last/\hk.ds=h.ds/\hk.bs.length=h.bs.length):=⟨z1,z2,z3,z4⟩;clear z1 z2 z3;have Hz4:Hid (hk.bs.length=h.bs.length):=z4;clear z4;obtain⟨e0,e1,e2,e3,e4,e5⟩:=(D9 kA).c6;by_cases hp:k<h.bs.length
  ·obtain⟨ps,hW,hm⟩:=HH.x
   have hpl:ps.length=h.bs.length:=by have:=congrArg List.length hm;rw[B4,Hz4.out] at this;exact this
   obtain⟨g,cap,eg⟩:=F4 hW.1 (by omega);simp only[Value.slice.injEq] at eg;obtain⟨rfl,-,rfl⟩:=eg;have hrow:=hW.1;rw[hpl] at hrow;obtain⟨⟨x0,ru,su⟩,hpk⟩:∃p,ps[k]?=some p:=⟨ps[k]'(by omega),A0 _⟩;have Hpk:Hid (ps[k]?=some (x0,ru,su)):=hpk;have Hx0:Hid (hk.bs[k]?=some x0):=by show _=_;rw[← hm,B0,hpk];rfl
   have hrc:=hW.2 _ (A6 hpk);have hnr:NN ru:=hrc.nr;have hns:NN su:=hrc.ns;obtain⟨g3,n3,m3,rfl⟩:=hnr;obtain⟨g4,n4,m4,rfl⟩:=hns;have hcl:=G8 G6 hrow hpk;have q0:World.cell? wr ⟨g,k*6,none⟩=some (.string x0.nm):=hcl 0 _ rfl;have q1:World.cell? wr ⟨g,k*6+1,none⟩=some (.slice (some ⟨g3,0,none⟩) n3 m3):=hcl 1 _ rfl;have q2:World.cell? wr ⟨g,k*6+2,none⟩=some (.slice (some ⟨g4,0,none⟩) n4 m4):=hcl 2 _ rfl;have q3:World.cell? wr ⟨g,k*6+3,none⟩=some (.string x0.ad):=hcl 3 _ rfl;have q4:World.cell? wr ⟨g,k*6+4,none⟩=some (.int .i64 x0.si):=hcl 4 _ rfl;have q5:World.cell? wr ⟨g,k*6+5,none⟩=some (.int .i64 x0.st):=hcl 5 _ rfl;have hv:RbV wr x0 (.slice (some ⟨g3,0,none⟩) n3 m3) (.slice (some ⟨g4,0,none⟩) n4 m4):=hrc.v;have hglt:g<wr.heap.size:=(hrow.lt g rfl).2;have hwlt:w.heap.size<wr.heap.size:=(kA.lt w.heap.size rfl).2;clear hcl hrc hm hpk hW hpl;by_cases hsi:0<=x0.si
   ·have HN:Hid (AsksTo h (k+1) hk):=⟨hk,HA.out,x0,Hx0.out,.inl ⟨hsi,rfl⟩⟩
    clear hv hrow q0 q1 q2 q3 q5;go_wp2_with fail
    go_roundw
    case rel=>exact⟨k+1,hk,tu,bu,by omega,by go_num,HN.out,hTk,kA,kR,HH,hG⟩
    case measure=>simp[intOf];omega
   ·have mk:∀w',Below wr.heap.size wr w'->Below wr.heap.size wr w'/\World.cell? w' ⟨w.heap.size,2,none⟩=some tu/\World.cell? w' ⟨w.heap.size,3,none⟩=some bu/\World.cell? w' ⟨w.heap.size,4,none⟩=some (.slice (some ⟨g,0,none⟩) h.bs.length c3)/\World.cell? w' ⟨g,k*6,none⟩=some (.string x0.nm)/\World.cell? w' ⟨g,k*6+1,none⟩=some (.slice (some ⟨g3,0,none⟩) n3 m3)/\World.cell? w' ⟨g,k*6+2,none⟩=some (.slice (some ⟨g4,0,none⟩) n4 m4)/\World.cell? w' ⟨g,k*6+3,none⟩=some (.string x0.ad)/\World.cell? w' ⟨g,k*6+4,none⟩=some (.int .i64 x0.si)/\World.cell? w' ⟨g,k*6+5,none⟩=some (.int .i64 x0.st):=λw' hb'=>⟨hb',(hb'.cell (p:=⟨w.heap.size,2,none⟩) hwlt).trans e2,(hb'.cell (p:=⟨w.heap.size,3,none⟩) hwlt).trans e3,(hb'.cell (p:=⟨w.heap.size,4,none⟩) hwlt).trans e4,(hb'.cell (p:=⟨g,k*6,none⟩) hglt).trans q0,(hb'.cell (p:=⟨g,k*6+1,none⟩) hglt).trans q1,(hb'.cell (p:=⟨g,k*6+2,none⟩) hglt).trans q2,(hb'.cell (p:=⟨g,k*6+3,none⟩) hglt).trans q3,(hb'.cell (p:=⟨g,k*6+4,none⟩) hglt).trans q4,(hb'.cell (p:=⟨g,k*6+5,none⟩) hglt).trans q5⟩
    have Mk:Hid (∀w',Below wr.heap.size wr w'->Below wr.heap.size wr w'/\World.cell? w' ⟨w.heap.size,2,none⟩=some tu/\World.cell? w' ⟨w.heap.size,3,none⟩=some bu/\World.cell? w' ⟨w.heap.size,4,none⟩=some (.slice (some ⟨g,0,none⟩) h.bs.length c3)/\World.cell? w' ⟨g,k*6,none⟩=some (.string x0.nm)/\World.cell? w' ⟨g,k*6+1,none⟩=some (.slice (some ⟨g3,0,none⟩) n3 m3)/\World.cell? w' ⟨g,k*6+2,none⟩=some (.slice (some ⟨g4,0,none⟩) n4 m4)/\World.cell? w' ⟨g,k*6+3,none⟩=some (.string x0.ad)/\World.cell? w' ⟨g,k*6+4,none⟩=some (.int .i64 x0.si)/\World.cell? w' ⟨g,k*6+5,none⟩=some (.int .i64 x0.st)):=mk;have HB:Hid (BkV wr (.agg #[tu,bu]) hk.sh):=HH.v.book;clear mk q0 q1 q2 q3 q5;go_upto_region 5 with fail
    clear q4 e0 e1 e2 e3 e4 e5;go_cut [4,5] (λv4 v5 wc=>∃(Y:Nat) (tw bw:Value) (cd:Int) (b':Bk),v4=.pointer (some ⟨Y,0,none⟩)/\v5=.int .i64 cd/\Below wr.heap.size wr wc/\AskIs hk.sh x0.nm (rbOwn x0) cd b'/\BkW wc wr.heap.size (.agg #[tw,bw]) b'/\CB wc Y [tw,bw])
    case first =>
     have hC:AS wr hk x0 wr.drew none none none:=(Aoe wr hk x0).up (A4 _ _).drew;refine F5 99 (λw'=>Below wr.heap.size wr w'/\World.cell? w' ⟨w.heap.size,2,none⟩=some tu/\World.cell? w' ⟨w.heap.size,3,none⟩=some bu/\World.cell? w' ⟨w.heap.size,4,none⟩=some (.slice (some ⟨g,0,none⟩) h.bs.length c3)/\World.cell? w' ⟨g,k*6,none⟩=some (.string x0.nm)/\World.cell? w' ⟨g,k*6+1,none⟩=some (.slice (some ⟨g3,0,none⟩) n3 m3)/\World.cell? w' ⟨g,k*6+2,none⟩=some (.slice (some ⟨g4,0,none⟩) n4 m4)/\World.cell? w' ⟨g,k*6+3,none⟩=some (.string x0.ad)/\World.cell? w' ⟨g,k*6+4,none⟩=some (.int .i64 x0.si)/\World.cell? w' ⟨g,k*6+5,none⟩=some (.int .i64 x0.st)) (by kernel_rfl) ?_;generalize wr.drew=X1 at hC ⊢
     have hS1:=Mk.out _ hC.B;refine tkx 0 rfl hS1 ?_;refine tkx 1 rfl hS1 ?_;refine tkx 2 rfl hS1 ?_;refine tkx 3 rfl hS1 ?_;refine tkx 4 rfl hS1 ?_;refine tkx 5 rfl hS1 ?_;refine tkx 6 rfl hS1 ?_;refine tkx 7 rfl hS1 ?_;refine tkx 8 rfl hS1 ?_;refine tkx 9 rfl hS1 ?_;refine tkx 10 rfl hS1 ?_;refine tkx 11 rfl hS1 ?_;refine tkx 12 rfl hS1 ?_;clear hS1;refine L2 (i:=13) (j:=18) (by kernel_rfl) rfl rfl (λK hK=>?_) (λK hK=>?_)
     ·(go_simp;go_wp2_with (go_at_call 45;refine (AdZ x0 _ _ _ (hv.up hC.B)).mono ?_;rintro e X2 ⟨⟨u,rfl,hu⟩,hb2⟩;replace hC:=hC.own hb2 hu;clear hb2;obtain⟨g9,c9,rfl,-⟩:=hu);refine hK.out _ _ (λ_=>(Mk.out _ hC.B)) ?_;clear hK K)
      refine L2 (i:=14) (j:=18) (by kernel_rfl) rfl rfl (λK hK=>?_) (λK hK=>?_)
      ·(go_simp;go_wp2_with (go_at_call 44;refine (AbM hk.sh _ _ x0.nm (rbOwn x0) _ (HB.out.up hC.B) ((Lst.ls (.inr (hC.s13 _ rfl))) (L8 hv)) (B1 (Adk x0) (by omega))).mono ?_;rintro e X3 ⟨⟨v8,cd,b',rfl,hask,hk8⟩,hb8⟩;replace hC:=hC.ask hb8 hask hk8;obtain⟨t1,d1,t2,d2,ps8,rfl,-⟩:=hk8.parts;clear hk8 hb8 hask);refine hK.out _ _ (λ_=>(Mk.out _ hC.B)) ?_;clear hK K;(refine tkx 15 rfl (Mk.out _ hC.B) ?_);(refine tkx 16 rfl (Mk.out _ hC.B) ?_);(refine tkx 17 rfl (Mk.out _ hC.B) ?_))
       refine D8 (i:=18) (by kernel_rfl) rfl (λK hK=>?_)
       (go_simp;replace hC:=hC.new;refine hK.out _ _ (λ_=>(Mk.out _ hC.B)) ?_;clear hK K;generalize World.alloc _ (.cells #[.slice none 0 0,.slice none 0 0] 33)=X4 at hC ⊢)
       (have kY:=D9 (hC.s18 _ rfl);obtain⟨⟨j0,j1⟩,m0,m1⟩:=kY.c2;have hF:=hC.fin;refine D8 (i:=19) (by kernel_rfl) rfl (λK hK=>?_);go_simp;refine hK.out _ _ (λ_=>Mk.out _ hF.1) ?_;clear hK K j0 j1 m0 m1 kY;(try simp only[Act.put,List.setIfInBounds_toArray,List.set_cons_zero,List.set_cons_succ]);refine D8 (i:=20) (by kernel_rfl) rfl (λK hK=>?_);go_simp;refine hK.out _ _ (λ_=>Mk.out _ hF.1) ?_;clear hK K;(try simp only[Act.put,List.setIfInBounds_toArray,List.set_cons_zero,List.set_cons_succ]);refine F0 (by kernel_rfl) ?_ _;go_wp2_with fail;go_meet;exact⟨_,_,_,_,_,rfl,rfl,hF⟩)
      ·(go_simp;replace hC:=hC.new;refine hK.out _ _ (λ_=>(Mk.out _ hC.B)) ?_;clear hK K;generalize World.alloc _ (.cells #[.slice none 0 0,.slice none 0 0] 33)=X4 at hC ⊢)
       refine D8 (i:=14) (by kernel_rfl) rfl (λK hK=>?_)
       (go_simp;go_wp2_with (go_at_call 44;refine (AbM hk.sh _ _ x0.nm (rbOwn x0) _ (HB.out.up hC.B) ((Lst.ls (.inr (hC.s13 _ rfl))) (L8 hv)) (B1 (Adk x0) (by omega))).mono ?_;rintro e X3 ⟨⟨v8,cd,b',rfl,hask,hk8⟩,hb8⟩;replace hC:=hC.ask hb8 hask hk8;obtain⟨t1,d1,t2,d2,ps8,rfl,-⟩:=hk8.parts;clear hk8 hb8 hask);refine hK.out _ _ (λ_=>(Mk.out _ hC.B)) ?_;clear hK K;(refine tkx 15 rfl (Mk.out _ hC.B) ?_);(refine tkx 16 rfl (Mk.out _ hC.B) ?_);(refine tkx 17 rfl (Mk.out _ hC.B) ?_))
       (have kY:=D9 (hC.s18 _ rfl);obtain⟨⟨j0,j1⟩,m0,m1⟩:=kY.c2;have hF:=hC.fin;refine D8 (i:=19) (by kernel_rfl) rfl (λK hK=>?_);go_simp;refine hK.out _ _ (λ_=>Mk.out _ hF.1) ?_;clear hK K j0 j1 m0 m1 kY;(try simp only[Act.put,List.setIfInBounds_toArray,List.set_cons_zero,List.set_cons_succ]);refine D8 (i:=20) (by kernel_rfl) rfl (λK hK=>?_);go_simp;refine hK.out _ _ (λ_=>Mk.out _ hF.1) ?_;clear hK K;(try simp only[Act.put,List.setIfInBounds_toArray,List.set_cons_zero,List.set_cons_succ]);refine F0 (by kernel_rfl) ?_ _;go_wp2_with fail;go_meet;exact⟨_,_,_,_,_,rfl,rfl,hF⟩)
     ·(go_simp;replace hC:=hC.new;refine hK.out _ _ (λ_=>(Mk.out _ hC.B)) ?_;clear hK K;generalize World.alloc _ (.cells #[.slice none 0 0,.slice none 0 0] 33)=X4 at hC ⊢)
      refine D8 (i:=13) (by kernel_rfl) rfl (λK hK=>?_)
      (go_simp;go_wp2_with (go_at_call 45;refine (AdZ x0 _ _ _ (hv.up hC.B)).mono ?_;rintro e X2 ⟨⟨u,rfl,hu⟩,hb2⟩;replace hC:=hC.own hb2 hu;clear hb2;obtain⟨g9,c9,rfl,-⟩:=hu);refine hK.out _ _ (λ_=>(Mk.out _ hC.B)) ?_;clear hK K)
      refine D8 (i:=14) (by kernel_rfl) rfl (λK hK=>?_)
      (go_simp;go_wp2_with (go_at_call 44;refine (AbM hk.sh _ _ x0.nm (rbOwn x0) _ (HB.out.up hC.B) ((Lst.ls (.inr (hC.s13 _ rfl))) (L8 hv)) (B1 (Adk x0) (by omega))).mono ?_;rintro e X3 ⟨⟨v8,cd,b',rfl,hask,hk8⟩,hb8⟩;replace hC:=hC.ask hb8 hask hk8;obtain⟨t1,d1,t2,d2,ps8,rfl,-⟩:=hk8.parts;clear hk8 hb8 hask);refine hK.out _ _ (λ_=>(Mk.out _ hC.B)) ?_;clear hK K;(refine tkx 15 rfl (Mk.out _ hC.B) ?_);(refine tkx 16 rfl (Mk.out _ hC.B) ?_);(refine tkx 17 rfl (Mk.out _ hC.B) ?_))
      (have kY:=D9 (hC.s18 _ rfl);obtain⟨⟨j0,j1⟩,m0,m1⟩:=kY.c2;have hF:=hC.fin;refine D8 (i:=19) (by kernel_rfl) rfl (λK hK=>?_);go_simp;refine hK.out _ _ (λ_=>Mk.out _ hF.1) ?_;clear hK K j0 j1 m0 m1 kY;(try simp only[Act.put,List.setIfInBounds_toArray,List.set_cons_zero,List.set_cons_succ]);refine D8 (i:=20) (by kernel_rfl) rfl (λK hK=>?_);go_simp;refine hK.out _ _ (λ_=>Mk.out _ hF.1) ?_;clear hK K;(try simp only[Act.put,List.setIfInBounds_toArray,List.set_cons_zero,List.set_cons_succ]);refine F0 (by kernel_rfl) ?_ _;go_wp2_with fail;go_meet;exact⟨_,_,_,_,_,rfl,rfl,hF⟩)
    case rest =>
     obtain⟨Y,tw,bw,cd,b',rfl,rfl,hBc,hask,hbk,kY⟩:=hcut;have HHc:=HH.up hBc;have kAc:=E1 kA hBc;have kRc:=E1 kR hBc;have hrowc:=E1 hrow hBc;have hGc:w.grownBy wc (Value.slice (some ⟨g,0,none⟩) h.bs.length c3).ownBlock:=⟨hBc.os.trans hG.os,hBc.tape.trans hG.tape,hBc.output.trans hG.output,B1 hG.size hBc.size,λi hi hne=>(hBc.block i (A1 hi hG.size)).trans (hG.block i hi hne)⟩;have Hdk:Hid (Szb b'/\Tiny b'):=ask_dk hask HH.z hTk (L8 hv);have Hask:Hid (AskIs hk.sh x0.nm (rbOwn x0) cd b'):=hask;have hbl:base<=wr.heap.size:=B1 hbase (Nat.le_of_lt hwlt);clear Mk HB hrow HH kA kR hG hv hask;by_cases hcd:cd=0
     ·subst hcd
      obtain⟨t1,d1,t2,d2,qs,e9,-⟩:=hbk.parts;simp only[Value.agg.injEq,Array.mk.injEq,List.cons.injEq,and_true] at e9;obtain⟨rfl,rfl⟩:=e9;obtain⟨v0,v1⟩:=kY.c2';obtain⟨e0,e1,e2,e3,e4,e5⟩:=(D9 kAc).c6;obtain⟨f0,f1,f2,f3,f4,f5⟩:=(D9 kAc).f6;have b1:=J6 (j:=2) kAc (.slice t1 b'.things.length d1);have b2:=J6 (j:=3) b1.1 (.slice t2 b'.bs.length d2);have hg2:wc.grownBy ((wc.setCell ⟨w.heap.size,2,none⟩ (.slice t1 b'.things.length d1)).setCell ⟨w.heap.size,3,none⟩ (.slice t2 b'.bs.length d2)) (Value.slice (some ⟨w.heap.size,0,none⟩) 1 1).ownBlock:=E3 b1.2 b2.2
      obtain⟨W7,hW7,kA7,kR7,hrow7,HH7,hbk7,hG7⟩:∃W7,(wc.setCell ⟨w.heap.size,2,none⟩ (.slice t1 b'.things.length d1)).setCell ⟨w.heap.size,3,none⟩ (.slice t2 b'.bs.length d2)=W7/\W7.ownsRow w.heap.size 37 6 (.slice (some ⟨w.heap.size,0,none⟩) 1 1) 1 [.int .i64 h.now,.int .i64 h.last,.slice t1 b'.things.length d1,.slice t2 b'.bs.length d2,.slice (some ⟨g,0,none⟩) h.bs.length c3,.slice a4 h.ds.length c4]/\W7.ownsRow w.heap.size 37 6 (.slice (some ⟨w.heap.size+1,0,none⟩) 1 1) 1 [.int .i64 0,.int .i64 0,.slice none 0 0,.slice none 0 0,.slice none 0 0,.slice none 0 0]/\W7.ownsRow base 52 6 (.slice (some ⟨g,0,none⟩) h.bs.length c3) h.bs.length (rowsF rowR ps)/\HW W7 base hk tu bu (.slice (some ⟨g,0,none⟩) h.bs.length c3) (.slice a4 h.ds.length c4)/\BkW W7 base (.agg #[.slice t1 b'.things.length d1,.slice t2 b'.bs.length d2]) b'/\w.grownBy W7 (Value.slice (some ⟨g,0,none⟩) h.bs.length c3).ownBlock :=
       ⟨_,rfl,b2.1,E2 kRc hg2 (by simp[Value.ownBlock]),E2 hrowc hg2 (E5 hrowc kAc (by decide)),HHc.box kAc hg2,(hbk.step kAc (by decide) (by decide) hg2).low hbl,S8 (S8 hGc (A3 _) _) (A3 _) _⟩
      go_upto_region 8 with fail
      try rw[hW7]
      clear hW7 e0 e1 e2 e3 e4 e5 f0 f1 f2 f3 f4 f5 v0 v1 b1 b2 hg2 kAc kRc hrowc HHc hbk hGc kY hBc;have e4:=(D9 kA7).c6.2.2.2.2.1;have q4:World.cell? W7 ⟨g,k*6+4,none⟩=(rowsF rowR ps)[k*6+4]?:=hrow7.cellAt (k*6+4) (by omega);rw[Y9 G6 ps k _ Hpk.out 4 (.int .i64 x0.si) rfl] at q4;have f4:=hrow7.frozenAt (k*6+4);have hg8:W7.grownBy (W7.setCell ⟨g,k*6+4,none⟩ (.int .i64 0)) (Value.slice (some ⟨g,0,none⟩) h.bs.length c3).ownBlock:=(B3 hrow7 _ _).2;have HH8:=HH7.asked Hx0.out hbk7 Hdk.out.1;have kA8:=E2 kA7 hg8 (E5 kA7 hrow7 (by decide));have kR8:=E2 kR7 hg8 (E5 kR7 hrow7 (by decide));have hG8:=E3 hG7 hg8;have HN:Hid (AsksTo h (k+1) {hk with sh:=b',bs:=hk.bs.set k {x0 with si:=0}}):=⟨hk,HA.out,x0,Hx0.out,.inr ⟨by omega,0,b',Hask.out,.inr ⟨rfl,rfl⟩⟩⟩;clear hrow7 HH7 hbk7 hG7 hg8 kA7 kR7;go_wp2_with fail
      go_roundw
      case rel=>exact⟨k+1,_,_,_,by omega,by go_num,HN.out,Hdk.out.2,kA8,kR8,HH8,hG8⟩
      case measure=>simp[intOf];omega
     ·have HN:Hid (AsksTo h (k+1) hk):=⟨hk,HA.out,x0,Hx0.out,.inr ⟨by omega,cd,b',Hask.out,.inl ⟨hcd,rfl⟩⟩⟩
      go_wp2_with fail
      go_roundw
      case rel=>exact⟨k+1,hk,tu,bu,by omega,by go_num,HN.out,hTk,kAc,kRc,HHc,hGc⟩
      case measure=>simp[intOf];omega
  ·obtain rfl:k=h.bs.length:=by omega
   obtain⟨y0,y1,y2,y3,y4,y5⟩:=(D9 kR).c6;obtain⟨f0,f1,f2,f3,f4,f5⟩:=(D9 kR).f6;obtain⟨t1,d1,t2,d2,qs,e9,-⟩:=HH.k.parts;simp only[Value.agg.injEq,Array.mk.injEq,List.cons.injEq,and_true] at e9;obtain⟨rfl,rfl⟩:=e9;go_wp2_with fail
   refine R4 Tryz.results16 Tryz.underlying37 rfl J7 (D9 kR) rfl ?_;have hg9:=J2 wr (w.heap.size+1) (.int .i64 h.now) (.int .i64 h.last) (.slice t1 hk.sh.things.length d1) (.slice t2 hk.sh.bs.length d2) (.slice a3 h.bs.length c3) (.slice a4 h.ds.length c4);refine⟨⟨hk,_,_,rfl,HA.out,hTk,HH.box kR hg9⟩,?_⟩;exact⟨hg9.os.trans hG.os,hg9.tape.trans hG.tape,hg9.output.trans hG.output,B1 hG.size hg9.size,λi hi hne=>(hg9.block i (A1 hi hG.size) (by simp;omega)).trans (hG.block i hi hne)⟩
theorem BkF.w {w:World} {base:Nat} {v:Value} {b:Bk} (h:BkF w base v b):BkW w base v b:=by
 obtain⟨a1,c1,a2,c2,ps,rfl,h1,h2,h3⟩:=h;exact⟨_,_,ps,rfl,h3.own _ List.mem_cons_self,h1,h2⟩
theorem BkF.bk {w:World} {base:Nat} {v:Value} {b:Bk} (h:BkF w base v b) (hz:Szb b):BkV w v b:=h.w.bk hz
theorem Al3 {b:Bk} {nm:ByteArray} (h:Szb b):Szb (leaveB b nm):=by
 cases hb:bookB b
 ·rw[(Ach hb).2];exact Aau
 ·cases hm:memS (nms b.bs) nm
  ·rw[(AaK hb hm).2];exact h
  ·rw[(Abz hb hm).2]
   refine⟨h.1,λx hx=>h.2 x ?_⟩;rcases D1.1 hx with k|k
   ·exact List.mem_of_mem_take k
   ·exact List.mem_of_mem_drop k
theorem BkF.step {w w':World} {base b2 e k n:Nat} {v u:Value} {b:Bk} {xs:List Value} (h:BkF w base v b) (hrow:w.ownsRow b2 e k u n xs) (h1:9≠e) (h2:128≠e) (hg:w.grownBy w' u.ownBlock):BkF w' base v b:=by
 obtain⟨a1,c1,a2,c2,ps,rfl,hB,hm,hF⟩:=h;exact⟨a1,c1,a2,c2,ps,rfl,⟨E2 hB.1 hg (E5 hB.1 hrow h2),λp hp=>⟨E2 (hB.2 p hp).1 hg (E5 (hB.2 p hp).1 hrow h1),E2 (hB.2 p hp).2.1 hg (E5 (hB.2 p hp).2.1 hrow h1),(hB.2 p hp).2.2⟩⟩,hm,hF.keep λf _ ho=>E2 ho hg (E5 ho hrow h1)⟩
def RbsP (w:World) (base:Nat) (v:Value) (ps:List Rv):Prop:=RbsW w base v ps/\(ps.map (·.2.1)).Pairwise Ap/\(ps.map (·.2.2)).Pairwise Ap
theorem RbsP.up {w w':World} {base:Nat} {v:Value} {ps:List Rv} (h:RbsP w base v ps) (hb:Below w.heap.size w w'):RbsP w' base v ps:=⟨h.1.up hb,h.2⟩
theorem RbsP.low {w:World} {base base':Nat} {v:Value} {ps:List Rv} (h:RbsP w base v ps) (hb:base'<=base):RbsP w base' v ps:=⟨h.1.low hb,h.2⟩
theorem RbsP.step {w w':World} {base b2 e k n:Nat} {v u:Value} {ps:List Rv} {xs:List Value} (h:RbsP w base v ps) (hrow:w.ownsRow b2 e k u n xs) (h1:52≠e) (h2:84≠e) (h3:169≠e) (hg:w.grownBy w' u.ownBlock):RbsP w' base v ps :=
 ⟨⟨E2 h.1.1 hg (E5 h.1.1 hrow h1),λp hp=>(h.1.2 p hp).step hrow h2 h3 hg⟩,h.2⟩
def DnsP (w:World) (base:Nat) (v:Value) (ds:List Done):Prop:=w.ownsRow base 90 3 v ds.length (rowsF Done.cells ds)/\∀d∈ds,d.nm.size<=maxLen
theorem DnsP.dns {w:World} {base:Nat} {v:Value} {ds:List Done} (h:DnsP w base v ds):Dns w v ds:=by
 obtain⟨a,c,rfl⟩:=F2 h.1;refine⟨a,c,rfl,Aav h.1,λhp=>?_⟩;obtain⟨g,cap,e⟩:=F4 h.1 hp;simp only[Value.slice.injEq] at e;obtain⟨rfl,-,rfl⟩:=e;exact⟨g,0,rfl,λi d hd=>⟨by rw[Nat.zero_add];exact G8 G7 h.1 hd,h.2 d (A6 hd)⟩,(h.1.lt g rfl).2⟩
structure HP (w:World) (base:Nat) (h:House) (tv bv xv dv:Value):Prop where
 k:BkF w base (.agg #[tv,bv]) h.sh
 z:Szb h.sh
 x:∃ps,RbsP w base xv ps/\ps.map (·.1)=h.bs
 d:DnsP w base dv h.ds
theorem HP.v {w:World} {base:Nat} {h:House} {tv bv xv dv:Value} (H:HP w base h tv bv xv dv):HV w h tv bv xv dv:=by
 obtain⟨ps,h1,h2⟩:=H.x;obtain⟨t,b,e,k1,k2⟩:=H.k.bk H.z;simp at e;obtain⟨rfl,rfl⟩:=e;exact⟨k1,k2,h1.1.rbs h2,H.d.dns⟩
theorem HP.up {w w':World} {base:Nat} {h:House} {tv bv xv dv:Value} (H:HP w base h tv bv xv dv) (hb:Below w.heap.size w w'):HP w' base h tv bv xv dv :=
 ⟨H.k.up hb,H.z,H.x.imp λ_ x=>⟨x.1.up hb,x.2⟩,⟨E1 H.d.1 hb,H.d.2⟩⟩
theorem HP.low {w:World} {base base':Nat} {h:House} {tv bv xv dv:Value} (H:HP w base h tv bv xv dv) (hb:base'<=base):HP w base' h tv bv xv dv :=
 ⟨H.k.low hb,H.z,H.x.imp λ_ x=>⟨x.1.low hb,x.2⟩,⟨G4 H.d.1 hb,H.d.2⟩⟩
theorem HP.box {w w':World} {base b2 n:Nat} {h:House} {tv bv xv dv v:Value} {xs:List Value} (H:HP w base h tv bv xv dv) (hrow:w.ownsRow b2 37 6 v n xs) (hg:w.grownBy w' v.ownBlock):HP w' base h tv bv xv dv :=
 ⟨H.k.step hrow (by decide) (by decide) hg,H.z,H.x.imp λ_ x=>⟨x.1.step hrow (by decide) (by decide) (by decide) hg,x.2⟩,⟨E2 H.d.1 hg (E5 H.d.1 hrow (by decide)),H.d.2⟩⟩
theorem BkF.gr {w w':World} {base r:Nat} {v:Value} {b:Bk} (h:BkF w base v b) (hg:w.grownBy w' (some r)) (hr:r<base):BkF w' base v b:=by
 obtain⟨a1,c1,a2,c2,ps,rfl,hB,hm,hF⟩:=h;exact⟨a1,c1,a2,c2,ps,rfl,⟨E9 hB.1 hg hr,λp hp=>⟨E9 (hB.2 p hp).1 hg hr,E9 (hB.2 p hp).2.1 hg hr,(hB.2 p hp).2.2⟩⟩,hm,hF.gr hg hr⟩
theorem HP.gr {w w':World} {base r:Nat} {h:House} {tv bv xv dv:Value} (H:HP w base h tv bv xv dv) (hg:w.grownBy w' (some r)) (hr:r<base):HP w' base h tv bv xv dv :=
 ⟨H.k.gr hg hr,H.z,H.x.imp λ_ x=>⟨⟨x.1.1.gr hg hr,x.1.2⟩,x.2⟩,⟨E9 H.d.1 hg hr,H.d.2⟩⟩
theorem AiS {vs:List Value} {u:Value} (h:vs.Pairwise Ap) (hu:∀v∈vs,Ap v u):(vs++[u]).Pairwise Ap :=
 List.pairwise_append.2 ⟨h,List.pairwise_singleton _ _,λv hv x hx=>by obtain rfl:=D2.1 hx;exact hu v hv⟩
theorem Al4 {w w':World} {base base' e e' s s' n n':Nat} {v u:Value} {xs xs':List Value} (h:w.ownsRow base e s v n xs) (h':w'.ownsRow base' e' s' u n' xs') (hb:w.heap.size<=base'):Ap v u:=λg hg hu=>by
 have h1:=(h.lt g hg).2;have h2:=(h'.lt g hu).1;omega
theorem Aof (l:List Ph) (a:Option Addr) (c:Nat) (w:World) (hn:l.length<=1048576) (h:0<l.length->∃b o,a=some ⟨b,o,none⟩/\∀(i:Nat) (x:Ph),l[i]?=some x->w.rangeAt b (o+i*8) (Ph.cells x)) :
  Calls Tryz.prog 164 #[.slice a l.length c] w λe w'=>(∃u,e=.returned u/\w'.ownsRow w.heap.size 84 8 u l.length (rowsF Ph.cells l))/\Below w.heap.size w w':=by
 obtain⟨ii,hi,iz0,iz1,iz2⟩:=info_parts AiP;have ho:w.ownsRow w.heap.size 84 8 (.slice none 0 0) 0 []:=B8 _ _ _ _
 have hnw:0<l.length->∃d:Addr,a=some d/\∀(j:Nat) (u:Value),(rowsF Ph.cells l)[j]?=some u->w.cell? (d.add j)=some u:=λhp=>by
  obtain⟨b,o,rfl,hr⟩:=h hp;exact⟨_,rfl,O8 (by decide) G9 hr⟩
 have hl:=G5 G9 l;have h1:=oneP l;generalize rowsF Ph.cells l=rs at *;clear h;go_enter Tryz.func164,Tryz.ntmps164
 go_wp2_with (at_builtin;refine N0 _ rfl _ _ 49 rfl w.heap.size 84 ii _ 8 104 Tryz.underlying49 hi iz0 iz1 iz2 rfl (by decide) (.slice none 0 0) _ _ rfl ho a l.length c rs rfl hl hnw h1 (by unfold maxLen;omega) (by omega) (A3 _) ?_)
 intro v1 W1 ho1 hgr _;have hB:=I3 (A4 _ _) ho hgr (A3 _);obtain⟨a1,c1,rfl⟩:=F2 ho1;go_wp2_with fail
 go_ret
 exact⟨⟨_,rfl,ho1⟩,hB⟩
theorem Aog (l:List Sl) (a:Option Addr) (c:Nat) (w:World) (hn:l.length<=1048576) (h:0<l.length->∃b o,a=some ⟨b,o,none⟩/\∀(i:Nat) (x:Sl),l[i]?=some x->w.rangeAt b (o+i*2) (Sl.cells x)) :
  Calls Tryz.prog 165 #[.slice a l.length c] w λe w'=>(∃u,e=.returned u/\w'.ownsRow w.heap.size 169 2 u l.length (rowsF Sl.cells l))/\Below w.heap.size w w':=by
 obtain⟨ii,hi,iz0,iz1,iz2⟩:=info_parts AiQ;have ho:w.ownsRow w.heap.size 169 2 (.slice none 0 0) 0 []:=B8 _ _ _ _
 have hnw:0<l.length->∃d:Addr,a=some d/\∀(j:Nat) (u:Value),(rowsF Sl.cells l)[j]?=some u->w.cell? (d.add j)=some u:=λhp=>by
  obtain⟨b,o,rfl,hr⟩:=h hp;exact⟨_,rfl,O8 (by decide) M9 hr⟩
 have hl:=G5 M9 l;have h1:=oneSl l;generalize rowsF Sl.cells l=rs at *;clear h;go_enter Tryz.func165,Tryz.ntmps165
 go_wp2_with (at_builtin;refine N0 _ rfl _ _ 50 rfl w.heap.size 169 ii _ 2 32 Tryz.underlying50 hi iz0 iz1 iz2 rfl (by decide) (.slice none 0 0) _ _ rfl ho a l.length c rs rfl hl hnw h1 (by unfold maxLen;omega) (by omega) (A3 _) ?_)
 intro v1 W1 ho1 hgr _;have hB:=I3 (A4 _ _) ho hgr (A3 _);obtain⟨a1,c1,rfl⟩:=F2 ho1;go_wp2_with fail
 go_ret
 exact⟨⟨_,rfl,ho1⟩,hB⟩
theorem Afd (l:List Done) (a:Option Addr) (c:Nat) (w:World) (hn:l.length<=1048576) (h:0<l.length->∃b o,a=some ⟨b,o,none⟩/\∀(i:Nat) (x:Done),l[i]?=some x->w.rangeAt b (o+i*3) (Done.cells x)) :
  Calls Tryz.prog 135 #[.slice a l.length c] w λe w'=>(∃u,e=.returned u/\w'.ownsRow w.heap.size 90 3 u l.length (rowsF Done.cells l))/\Below w.heap.size w w':=by
 obtain⟨ii,hi,iz0,iz1,iz2⟩:=info_parts AbS;have ho:w.ownsRow w.heap.size 90 3 (.slice none 0 0) 0 []:=B8 _ _ _ _
 have hnw:0<l.length->∃d:Addr,a=some d/\∀(j:Nat) (u:Value),(rowsF Done.cells l)[j]?=some u->w.cell? (d.add j)=some u:=λhp=>by
  obtain⟨b,o,rfl,hr⟩:=h hp;exact⟨_,rfl,O8 (by decide) G7 hr⟩
 have hl:=G5 G7 l;have h1:=Aa2 l;generalize rowsF Done.cells l=rs at *;clear h;go_enter Tryz.func135,Tryz.ntmps135
 go_wp2_with (at_builtin;refine N0 _ rfl _ _ 35 rfl w.heap.size 90 ii _ 3 32 Tryz.underlying35 hi iz0 iz1 iz2 rfl (by decide) (.slice none 0 0) _ _ rfl ho a l.length c rs rfl hl hnw h1 (by unfold maxLen;omega) (by omega) (A3 _) ?_)
 intro v1 W1 ho1 hgr _;have hB:=I3 (A4 _ _) ho hgr (A3 _);obtain⟨a1,c1,rfl⟩:=F2 ho1;go_wp2_with fail
 go_ret
 exact⟨⟨_,rfl,ho1⟩,hB⟩
theorem Al5 (x:Rb) (rv sv:Value) (w:World) (H:RbV w x rv sv) (hp:0<x.ps.length) (hs:0<x.sl.length) :
  Calls Tryz.prog 136 #[.agg #[.string x.nm,rv,sv,.string x.ad,.int .i64 x.si,.int .i64 x.st]] w λe w'=>(∃ru su,e=.returned (.agg #[.string x.nm,ru,su,.string x.ad,.int .i64 x.si,.int .i64 x.st])/\RcW w' w.heap.size (x,ru,su))/\Below w.heap.size w w':=by
 have hnp:=H.np;have hns:=H.ns;have Hz:Hid (Sized x.ps/\(∀y∈x.sl,y.s.size<=maxLen/\y.t.size<=maxLen)/\x.nm.size<=maxLen):=⟨H.zp,H.zs,H.zn⟩;obtain⟨b,o,c,rfl,hr,hb,-,-⟩:=H.r;obtain⟨g,q,d,rfl,hsl,hg⟩:=H.s;clear H;obtain⟨W1,hW1,kA,kR,hB1,hs1⟩:=L1 w [.string x.nm,.slice (some ⟨b,o,none⟩) x.ps.length c,.slice (some ⟨g,q,none⟩) x.sl.length d,.string x.ad,.int .i64 x.si,.int .i64 x.st] 52 [.string ⟨#[]⟩,.slice none 0 0,.slice none 0 0,.string ⟨#[]⟩,.int .i64 0,.int .i64 0] 52;have hr1:=hr.up hB1 hb;have hsl1:=hsl.up hB1 hg;clear hr hsl;go_enter Tryz.func136,Tryz.ntmps136
 go_upto_region 1 with fail
 try rw[hW1]
 clear hW1;obtain⟨-,e1,-,-,-,-⟩:=kA.c6;go_upto_region 2 with (go_at_call 164;refine (Aof x.ps _ c W1 hnp (λ_=>⟨b,o,rfl,hr1⟩)).mono ?_;rintro e w2 ⟨⟨u1,rfl,ho1⟩,hb2⟩;obtain⟨g1,m1,rfl⟩:=F4 ho1 hp;have kA2:=kA.up hb2 kA.2.2;clear e1;obtain⟨-,e1,-,-,-,-⟩:=kA2.c6;obtain⟨-,f1,-,-,-,-⟩:=kA2.f6)
 clear e1 f1 hr1;have hz2:=hb2.size;have hgA:w2.grownBy (w2.setCell ⟨w.heap.size,1,none⟩ (.slice (some ⟨g1,0,none⟩) x.ps.length m1)) (some w.heap.size):=E0 (E4 _ _) _;have kA3:CB (w2.setCell ⟨w.heap.size,1,none⟩ (.slice (some ⟨g1,0,none⟩) x.ps.length m1)) w.heap.size [.string x.nm,.slice (some ⟨g1,0,none⟩) x.ps.length m1,.slice (some ⟨g,q,none⟩) x.sl.length d,.string x.ad,.int .i64 x.si,.int .i64 x.st]:=kA2.set (j:=1) (by simp);have kR3:=(kR.up hb2 kR.2.2).kept hgA (by simp);have ho3:=E9 ho1 hgA (by omega);have hB3:Below w.heap.size w (w2.setCell ⟨w.heap.size,1,none⟩ (.slice (some ⟨g1,0,none⟩) x.ps.length m1)):=(D6 hB1 hb2).setCell (A3 _) _;have hsl3:SlAt (w2.setCell ⟨w.heap.size,1,none⟩ (.slice (some ⟨g1,0,none⟩) x.ps.length m1)) g q x.sl:=λi y hy j v hv=>hgA.cell ((hsl1.up hb2 (by omega)) i y hy j v hv) (by simp;omega);clear kA kR kA2 ho1 hb2 hB1 hgA hsl1;generalize w2.setCell ⟨w.heap.size,1,none⟩ (.slice (some ⟨g1,0,none⟩) x.ps.length m1)=W3 at *;obtain⟨-,-,e2,-,-,-⟩:=kA3.c6;go_upto_region 3 with (go_at_call 165;refine (Aog x.sl _ d W3 hns (λ_=>⟨g,q,rfl,hsl3⟩)).mono ?_;rintro e w4 ⟨⟨u2,rfl,ho2⟩,hb4⟩;obtain⟨g2,m2,rfl⟩:=F4 ho2 hs;have kA4:=kA3.up hb4 kA3.2.2;clear e2;obtain⟨-,-,e2,-,-,-⟩:=kA4.c6;obtain⟨-,-,f2,-,-,-⟩:=kA4.f6)
 clear e2 f2 hsl3;have hz3:=kR3.2.2;have hz4:=hb4.size;have hgA:w4.grownBy (w4.setCell ⟨w.heap.size,2,none⟩ (.slice (some ⟨g2,0,none⟩) x.sl.length m2)) (some w.heap.size):=E0 (E4 _ _) _;have kA5:CB (w4.setCell ⟨w.heap.size,2,none⟩ (.slice (some ⟨g2,0,none⟩) x.sl.length m2)) w.heap.size [.string x.nm,.slice (some ⟨g1,0,none⟩) x.ps.length m1,.slice (some ⟨g2,0,none⟩) x.sl.length m2,.string x.ad,.int .i64 x.si,.int .i64 x.st]:=kA4.set (j:=2) (by simp);have kR5:=(kR3.up hb4 kR3.2.2).kept hgA (by simp);have ho5:=E9 (E1 ho3 hb4) hgA (by omega);have ho6:=E9 ho2 hgA (by omega);have hB5:Below w.heap.size w (w4.setCell ⟨w.heap.size,2,none⟩ (.slice (some ⟨g2,0,none⟩) x.sl.length m2)):=(D6 hB3 hb4).setCell (A3 _) _;clear kA3 kR3 kA4 ho3 ho2 hb4 hB3 hgA;generalize w4.setCell ⟨w.heap.size,2,none⟩ (.slice (some ⟨g2,0,none⟩) x.sl.length m2)=W5 at *;obtain⟨e0,e1,e2,e3,e4,e5⟩:=kA5.c6;obtain⟨y0,y1,y2,y3,y4,y5⟩:=kR5.c6;obtain⟨f0,f1,f2,f3,f4,f5⟩:=kR5.f6;go_wp2_with fail
 refine R4 Tryz.results136 Tryz.underlying52 rfl AiR kR5 rfl ?_;have hg9:=J2 W5 (w.heap.size+1) (.string x.nm) (.slice (some ⟨g1,0,none⟩) x.ps.length m1) (.slice (some ⟨g2,0,none⟩) x.sl.length m2) (.string x.ad) (.int .i64 x.si) (.int .i64 x.st);exact⟨⟨_,_,rfl,⟨G4 (E9 ho5 hg9 (by omega)) (by omega),G4 (E9 ho6 hg9 (by omega)) (by omega),⟨_,_,_,rfl⟩,⟨_,_,_,rfl⟩,Hz.out.1,Hz.out.2.1,Hz.out.2.2,hnp,hns⟩⟩,L0 hB5 (by omega) _ _ _ _ _ _⟩
structure CP (W1:World) (h:House) (X:World) (k6 k9:Option Value) (k11:Option Nat):Prop where
 B:Below W1.heap.size W1 X
 s6:∀v,k6=some v->BkF X W1.heap.size v h.sh
 s9:∀v,k9=some v->X.ownsRow W1.heap.size 90 3 v h.ds.length (rowsF Done.cells h.ds)
 s11:∀y,k11=some y->X.ownsRow W1.heap.size 37 6 (.slice (some ⟨y,0,none⟩) 1 1) 1 [.int .i64 0,.int .i64 0,.slice none 0 0,.slice none 0 0,.slice none 0 0,.slice none 0 0]
theorem cp_nil (W1:World) (h:House):CP W1 h W1 none none none:=⟨A4 _ _,λ_ h=>(by cases h),λ_ h=>(by cases h),λ_ h=>(by cases h)⟩
theorem CP.up {W1 X X':World} {h:House} {k6 k9:Option Value} {k11:Option Nat} (H:CP W1 h X k6 k9 k11) (hb:Below X.heap.size X X'):CP W1 h X' k6 k9 k11 :=
 ⟨D6 H.B hb,λv e=>(H.s6 v e).up hb,λv e=>E1 (H.s9 v e) hb,λy e=>E1 (H.s11 y e) hb⟩
theorem CP.call {W1 X X':World} {h:House} {k6 k9:Option Value} {k11:Option Nat} {v:Value} (H:CP W1 h X k6 k9 k11) (hb:Below X.heap.size X X') (hv:BkF X' X.heap.size v h.sh):CP W1 h X' (some v) k9 k11 :=
 {H.up hb with s6:=λu e=>by cases e;exact hv.low H.B.size}
theorem CP.list {W1 X X':World} {h:House} {k6 k9:Option Value} {k11:Option Nat} {v:Value} (H:CP W1 h X k6 k9 k11) (hb:Below X.heap.size X X') (hv:X'.ownsRow X.heap.size 90 3 v h.ds.length (rowsF Done.cells h.ds)):CP W1 h X' k6 (some v) k11 :=
 {H.up hb with s9:=λu e=>by cases e;exact G4 hv H.B.size}
theorem CP.new {W1 X:World} {h:House} {k6 k9:Option Value} {k11:Option Nat} (H:CP W1 h X k6 k9 k11):CP W1 h (X.alloc (.cells #[.int .i64 0,.int .i64 0,.slice none 0 0,.slice none 0 0,.slice none 0 0,.slice none 0 0] 37)) k6 k9 (some X.heap.size) :=
 {H.up ((A4 _ _).alloc (A3 _) _) with s11:=λu e=>by cases e;exact B9 X _ 1 H.B.size (by unfold maxLen;omega) rfl}
structure CY (W1:World) (h:House) (X:World) (y:Nat) (tu bu xu du:Value):Prop where
 B:Below W1.heap.size W1 X
 k:BkF X W1.heap.size (.agg #[tu,bu]) h.sh
 d:X.ownsRow W1.heap.size 90 3 du h.ds.length (rowsF Done.cells h.ds)
 y:X.ownsRow W1.heap.size 37 6 (.slice (some ⟨y,0,none⟩) 1 1) 1 [.int .i64 h.now,.int .i64 h.last,tu,bu,xu,du]
theorem CY.up {W1 X X':World} {h:House} {y:Nat} {tu bu xu du:Value} (H:CY W1 h X y tu bu xu du) (hb:Below X.heap.size X X'):CY W1 h X' y tu bu xu du :=
 ⟨D6 H.B hb,H.k.up hb,E1 H.d hb,E1 H.y hb⟩
theorem CY.row {W1 X X':World} {h:House} {y n:Nat} {tu bu xu du v:Value} {xs:List Value} (H:CY W1 h X y tu bu xu du) (hrow:X.ownsRow W1.heap.size 52 6 v n xs) (hg:X.grownBy X' v.ownBlock):CY W1 h X' y tu bu xu du :=
 ⟨F1 H.B H.B.size hrow hg (A3 _),H.k.step hrow (by decide) (by decide) hg,E2 H.d hg (E5 H.d hrow (by decide)),E2 H.y hg (E5 H.y hrow (by decide))⟩
theorem CY.put {W1 X:World} {h:House} {y:Nat} {tu bu xu du:Value} (H:CY W1 h X y tu bu xu du) (u:Value):CY W1 h (X.setCell ⟨y,4,none⟩ u) y tu bu u du:=by
 obtain⟨h1,h2⟩:=B3 H.y 4 u;have hg:X.grownBy (X.setCell ⟨y,4,none⟩ u) (Value.slice (some ⟨y,0,none⟩) 1 1).ownBlock:=h2;exact⟨F1 H.B H.B.size H.y hg (A3 _),H.k.step H.y (by decide) (by decide) hg,E2 H.d hg (E5 H.d H.y (by decide)),h1⟩
theorem RbsP.off {W1 X:World} {h:House} {y base j:Nat} {tu bu xu du v u:Value} {ps:List Rv} (H:CY W1 h X y tu bu xu du) (hr:RbsP X base v ps):RbsP (X.setCell ⟨y,j,none⟩ u) base v ps:=by
 have hg:X.grownBy (X.setCell ⟨y,j,none⟩ u) (Value.slice (some ⟨y,0,none⟩) 1 1).ownBlock:=(B3 H.y j u).2;exact hr.step H.y (by decide) (by decide) (by decide) hg
theorem CP.fin {W1 X:World} {h:House} {y:Nat} {tu bu du:Value} (H:CP W1 h X (some (.agg #[tu,bu])) (some du) (some y)):CY W1 h ((((((X.setCell ⟨y,0,none⟩ (.int .i64 h.now)).setCell ⟨y,1,none⟩ (.int .i64 h.last)).setCell ⟨y,2,none⟩ tu).setCell ⟨y,3,none⟩ bu).setCell ⟨y,4,none⟩ (.slice none 0 0)).setCell ⟨y,5,none⟩ du) y tu bu (.slice none 0 0) du:=by
 have h12:=H.s11 y rfl;have h1:=B3 h12 0 (.int .i64 h.now);have h2:=B3 h1.1 1 (.int .i64 h.last);have h3:=B3 h2.1 2 tu;have h4:=B3 h3.1 3 bu;have h5:=B3 h4.1 4 (.slice none 0 0);have h6:=B3 h5.1 5 du;have hg:X.grownBy ((((((X.setCell ⟨y,0,none⟩ (.int .i64 h.now)).setCell ⟨y,1,none⟩ (.int .i64 h.last)).setCell ⟨y,2,none⟩ tu).setCell ⟨y,3,none⟩ bu).setCell ⟨y,4,none⟩ (.slice none 0 0)).setCell ⟨y,5,none⟩ du) (Value.slice (some ⟨y,0,none⟩) 1 1).ownBlock:=E3 (E3 (E3 (E3 (E3 h1.2 h2.2) h3.2) h4.2) h5.2) h6.2;exact⟨F1 H.B H.B.size h12 hg (A3 _),(H.s6 _ rfl).step h12 (by decide) (by decide) hg,E2 (H.s9 _ rfl) hg (E5 (H.s9 _ rfl) h12 (by decide)),h6.1⟩
theorem AjT {w w':World} {a4:Option Addr} {ds:List Done} (h:0<ds.length->∃b o,a4=some ⟨b,o,none⟩/\DnsAt w b o ds/\b<w.heap.size) (hb:Below w.heap.size w w') (hp:0<ds.length):∃b o,a4=some ⟨b,o,none⟩/\∀(i:Nat) (d:Done),ds[i]?=some d->w'.rangeAt b (o+i*3) (Done.cells d):=by
 obtain⟨b,o,rfl,hD,hlt⟩:=h hp;refine⟨b,o,rfl,λi d hd j u hu=>?_⟩;rw[hb.cell (p:=⟨b,o+i*3+j,none⟩) hlt];exact (hD i d hd).1 j u hu
theorem Al6 (h:House) (tv bv xv dv:Value) (w:World) (H:HV w h tv bv xv dv) (hz1:h.sh.things.length<=100) (hz2:h.sh.bs.length<=100) (hz3:∀y∈h.sh.bs,y.has.length<=100/\y.needs.length<=100) (hnb:h.bs.length<=1048576) (hnd:h.ds.length<=1048576) (hpos:∀x∈h.bs,0<x.ps.length/\0<x.sl.length) :
  Calls Tryz.prog 98 #[.agg #[.int .i64 h.now,.int .i64 h.last,tv,bv,xv,dv]] w λe w'=>(∃tu bu xu du,e=.returned (.agg #[.int .i64 h.now,.int .i64 h.last,tu,bu,xu,du])/\HP w' w.heap.size h tu bu xu du)/\Below w.heap.size w w':=by
 have Hsz:=H.book.szb;obtain⟨a1,c1,a2,c2,a3,c3,a4,c4,rfl,rfl,rfl,rfl⟩:=H.shapes;obtain⟨W1,hW1,kA,kR,hB1,hs1⟩:=L1 w [.int .i64 h.now,.int .i64 h.last,.slice a1 h.sh.things.length c1,.slice a2 h.sh.bs.length c2,.slice a3 h.bs.length c3,.slice a4 h.ds.length c4] 37 [.int .i64 0,.int .i64 0,.slice none 0 0,.slice none 0 0,.slice none 0 0,.slice none 0 0] 37;go_enter Tryz.func98,Tryz.ntmps98
 go_upto_region 1 with fail
 try rw[hW1]
 clear hW1;have hA0:w.heap.size<W1.heap.size:=by omega
 have hR0:w.heap.size+1<W1.heap.size:=by omega
 have hLW:w.heap.size<=W1.heap.size:=by omega
 clear hs1;have H1:=H.up hB1;have HB:Hid (BkV W1 (.agg #[.slice a1 h.sh.things.length c1,.slice a2 h.sh.bs.length c2]) h.sh):=H1.book
 have hpd:Hid (0<h.ds.length->∃b o,a4=some ⟨b,o,none⟩/\DnsAt W1 b o h.ds/\b<W1.heap.size):=by
  obtain⟨a,c,e,-,h2⟩:=H1.d;simp only[Value.slice.injEq] at e;obtain⟨rfl,-,-⟩:=e;exact h2
 have mk:∀w',Below W1.heap.size W1 w'->Below W1.heap.size W1 w'/\World.cell? w' ⟨w.heap.size,0,none⟩=some (.int .i64 h.now)/\World.cell? w' ⟨w.heap.size,1,none⟩=some (.int .i64 h.last)/\World.cell? w' ⟨w.heap.size,2,none⟩=some (.slice a1 h.sh.things.length c1)/\World.cell? w' ⟨w.heap.size,3,none⟩=some (.slice a2 h.sh.bs.length c2)/\World.cell? w' ⟨w.heap.size,4,none⟩=some (.slice a3 h.bs.length c3)/\World.cell? w' ⟨w.heap.size,5,none⟩=some (.slice a4 h.ds.length c4):=λw' hb'=>by
  obtain⟨e0,e1,e2,e3,e4,e5⟩:=(kA.up hb' hA0).c6;exact⟨hb',e0,e1,e2,e3,e4,e5⟩
 have Mk:Hid (∀w',Below W1.heap.size W1 w'->Below W1.heap.size W1 w'/\World.cell? w' ⟨w.heap.size,0,none⟩=some (.int .i64 h.now)/\World.cell? w' ⟨w.heap.size,1,none⟩=some (.int .i64 h.last)/\World.cell? w' ⟨w.heap.size,2,none⟩=some (.slice a1 h.sh.things.length c1)/\World.cell? w' ⟨w.heap.size,3,none⟩=some (.slice a2 h.sh.bs.length c2)/\World.cell? w' ⟨w.heap.size,4,none⟩=some (.slice a3 h.bs.length c3)/\World.cell? w' ⟨w.heap.size,5,none⟩=some (.slice a4 h.ds.length c4)):=mk;clear mk;go_cut [3] (λv3 wc=>∃(Y:Nat) (tu bu du:Value),v3=.pointer (some ⟨Y,0,none⟩)/\CY W1 h wc Y tu bu (.slice none 0 0) du)
 case first =>
  have hC:CP W1 h W1.drew none none none:=(cp_nil W1 h).up (A4 _ _).drew;refine F5 99 (λw'=>Below W1.heap.size W1 w'/\World.cell? w' ⟨w.heap.size,0,none⟩=some (.int .i64 h.now)/\World.cell? w' ⟨w.heap.size,1,none⟩=some (.int .i64 h.last)/\World.cell? w' ⟨w.heap.size,2,none⟩=some (.slice a1 h.sh.things.length c1)/\World.cell? w' ⟨w.heap.size,3,none⟩=some (.slice a2 h.sh.bs.length c2)/\World.cell? w' ⟨w.heap.size,4,none⟩=some (.slice a3 h.bs.length c3)/\World.cell? w' ⟨w.heap.size,5,none⟩=some (.slice a4 h.ds.length c4)) (by kernel_rfl) ?_;generalize W1.drew=X1 at hC ⊢
  have hS1:=Mk.out _ hC.B;refine tkx 0 rfl hS1 ?_;refine tkx 1 rfl hS1 ?_;refine tkx 2 rfl hS1 ?_;refine tkx 3 rfl hS1 ?_;refine tkx 4 rfl hS1 ?_;refine tkx 5 rfl hS1 ?_;refine tkx 7 rfl hS1 ?_;refine tkx 8 rfl hS1 ?_;refine L2 (i:=6) (j:=11) (by kernel_rfl) rfl rfl (λK hK=>?_) (λK hK=>?_)
  ·(go_simp;go_wp2_with (go_at_call 134;refine (Z1 h.sh _ _ (HB.out.up hC.B) hz1 hz2 hz3).mono ?_;rintro e X2 ⟨⟨t1,d1,t2,d2,ps8,rfl,hB8,hm8,hF8⟩,hb8⟩;replace hC:=hC.call hb8 ⟨t1,d1,t2,d2,ps8,rfl,hB8,hm8,hF8⟩;clear hB8 hm8 hF8 hb8);refine hK.out _ _ (λ_=>(Mk.out _ hC.B)) ?_;clear hK K)
   refine L2 (i:=9) (j:=11) (by kernel_rfl) rfl rfl (λK hK=>?_) (λK hK=>?_)
   ·(go_simp;go_wp2_with (go_at_call 135;refine (Afd h.ds a4 c4 _ hnd (λhp=>AjT hpd.out hC.B hp)).mono ?_;rintro e X3 ⟨⟨v9,rfl,ho9⟩,hb9⟩;replace hC:=hC.list hb9 ho9;obtain⟨a9,c9,rfl⟩:=F2 ho9;clear ho9 hb9);refine hK.out _ _ (λ_=>(Mk.out _ hC.B)) ?_;clear hK K)
    refine tkx 10 rfl (Mk.out _ hC.B) ?_;refine D8 (i:=11) (by kernel_rfl) rfl (λK hK=>?_)
    (go_simp;replace hC:=hC.new;refine hK.out _ _ (λ_=>(Mk.out _ hC.B)) ?_;clear hK K;generalize World.alloc _ (.cells #[.int .i64 0,.int .i64 0,.slice none 0 0,.slice none 0 0,.slice none 0 0,.slice none 0 0] 37)=X4 at hC ⊢)
    (have kY:=I5 (hC.s11 _ rfl);obtain⟨j0,j1,j2,j3,j4,j5⟩:=kY.c6;obtain⟨m0,m1,m2,m3,m4,m5⟩:=kY.f6;replace hC:=hC.fin;refine D8 (i:=12) (by kernel_rfl) rfl (λK hK=>?_);go_simp;refine hK.out _ _ (λ_=>Mk.out _ hC.B) ?_;clear hK K j0 j1 j2 j3 j4 j5 m0 m1 m2 m3 m4 m5 kY;refine F0 (by kernel_rfl) ?_ _;go_wp2_with fail;go_meet;exact⟨_,_,_,_,rfl,hC⟩)
   ·(go_simp;replace hC:=hC.new;refine hK.out _ _ (λ_=>(Mk.out _ hC.B)) ?_;clear hK K;generalize World.alloc _ (.cells #[.int .i64 0,.int .i64 0,.slice none 0 0,.slice none 0 0,.slice none 0 0,.slice none 0 0] 37)=X4 at hC ⊢)
    refine D8 (i:=9) (by kernel_rfl) rfl (λK hK=>?_)
    (go_simp;go_wp2_with (go_at_call 135;refine (Afd h.ds a4 c4 _ hnd (λhp=>AjT hpd.out hC.B hp)).mono ?_;rintro e X3 ⟨⟨v9,rfl,ho9⟩,hb9⟩;replace hC:=hC.list hb9 ho9;obtain⟨a9,c9,rfl⟩:=F2 ho9;clear ho9 hb9);refine hK.out _ _ (λ_=>(Mk.out _ hC.B)) ?_;clear hK K)
    refine tkx 10 rfl (Mk.out _ hC.B) ?_
    (have kY:=I5 (hC.s11 _ rfl);obtain⟨j0,j1,j2,j3,j4,j5⟩:=kY.c6;obtain⟨m0,m1,m2,m3,m4,m5⟩:=kY.f6;replace hC:=hC.fin;refine D8 (i:=12) (by kernel_rfl) rfl (λK hK=>?_);go_simp;refine hK.out _ _ (λ_=>Mk.out _ hC.B) ?_;clear hK K j0 j1 j2 j3 j4 j5 m0 m1 m2 m3 m4 m5 kY;refine F0 (by kernel_rfl) ?_ _;go_wp2_with fail;go_meet;exact⟨_,_,_,_,rfl,hC⟩)
  ·(go_simp;replace hC:=hC.new;refine hK.out _ _ (λ_=>(Mk.out _ hC.B)) ?_;clear hK K;generalize World.alloc _ (.cells #[.int .i64 0,.int .i64 0,.slice none 0 0,.slice none 0 0,.slice none 0 0,.slice none 0 0] 37)=X4 at hC ⊢)
   refine D8 (i:=6) (by kernel_rfl) rfl (λK hK=>?_)
   (go_simp;go_wp2_with (go_at_call 134;refine (Z1 h.sh _ _ (HB.out.up hC.B) hz1 hz2 hz3).mono ?_;rintro e X2 ⟨⟨t1,d1,t2,d2,ps8,rfl,hB8,hm8,hF8⟩,hb8⟩;replace hC:=hC.call hb8 ⟨t1,d1,t2,d2,ps8,rfl,hB8,hm8,hF8⟩;clear hB8 hm8 hF8 hb8);refine hK.out _ _ (λ_=>(Mk.out _ hC.B)) ?_;clear hK K)
   refine D8 (i:=9) (by kernel_rfl) rfl (λK hK=>?_)
   (go_simp;go_wp2_with (go_at_call 135;refine (Afd h.ds a4 c4 _ hnd (λhp=>AjT hpd.out hC.B hp)).mono ?_;rintro e X3 ⟨⟨v9,rfl,ho9⟩,hb9⟩;replace hC:=hC.list hb9 ho9;obtain⟨a9,c9,rfl⟩:=F2 ho9;clear ho9 hb9);refine hK.out _ _ (λ_=>(Mk.out _ hC.B)) ?_;clear hK K)
   refine tkx 10 rfl (Mk.out _ hC.B) ?_
   (have kY:=I5 (hC.s11 _ rfl);obtain⟨j0,j1,j2,j3,j4,j5⟩:=kY.c6;obtain⟨m0,m1,m2,m3,m4,m5⟩:=kY.f6;replace hC:=hC.fin;refine D8 (i:=12) (by kernel_rfl) rfl (λK hK=>?_);go_simp;refine hK.out _ _ (λ_=>Mk.out _ hC.B) ?_;clear hK K j0 j1 j2 j3 j4 j5 m0 m1 m2 m3 m4 m5 kY;refine F0 (by kernel_rfl) ?_ _;go_wp2_with fail;go_meet;exact⟨_,_,_,_,rfl,hC⟩)
 case rest =>
  obtain⟨Y,tu,bu,du,rfl,hX⟩:=hcut;clear Mk HB hpd
  have hxp:Hid (0<h.bs.length->∃b o,a3=some ⟨b,o,none⟩/\RbsAt W1 b o h.bs/\b<W1.heap.size):=by
   obtain⟨a,c,e,-,h2⟩:=H1.x;simp only[Value.slice.injEq] at e;obtain⟨rfl,-,-⟩:=e;exact h2
  have Hz:Hid (Szb h.sh):=Hsz;have Hpos:Hid (∀x∈h.bs,0<x.ps.length/\0<x.sl.length):=hpos;have Hdz:Hid (∀d∈h.ds,d.nm.size<=maxLen):=H1.d.sized;clear H H1 Hsz hnd hz1 hz2 hz3 hpos;obtain⟨irb,hirb,r0,r1,r2⟩:=info_parts Ad0;obtain⟨e0,e1,e2,e3,e4,e5⟩:=(kA.up hX.B hA0).c6;go_upto_region 3 with fail
  clear e0 e1 e2 e3 e4 e5;go_loopw [20] (λi w'=>∃(k:Nat) (ps:List Rv) (xu:Value),k<=h.bs.length/\i=.int .i64 k/\ps.map (·.1)=h.bs.take k/\CY W1 h w' Y tu bu xu du/\RbsP w' W1.heap.size xu ps) (λi _=>h.bs.length-(intOf i).toNat)
  case atStart=>exact⟨0,[],.slice none 0 0,by omega,rfl,by simp,hX,⟨B8 _ _ _ _,λp hp=>by simp at hp⟩,by simp,by simp⟩
  case round =>
   clear hX;obtain⟨k,ps,xu,hk,rfl,hps,hX,hW⟩:=hrel;have Hps:Hid (ps.map (·.1)=h.bs.take k):=hps;have hpl:ps.length=k:=by have:=congrArg List.length hps;simp at this;omega
   clear hps;by_cases hp:k<h.bs.length
   ·obtain⟨bb,o,rfl,hS,hb⟩:=hxp.out (by omega)
    obtain⟨p,q,c,g,r,d,⟨q0,q1,q2,q3,q4,q5⟩,hv⟩:=((hS.at hp).up hX.B hb).open;have HX:Hid (h.bs.take (k+1)=h.bs.take k++[h.bs[k]]):=A7 hp;have hpx:=Hpos.out _ (List.getElem_mem hp);have hzx:=hX.B.size;generalize h.bs[k]=x0 at *;have HltN:Hid (∀g,xu.ownBlock=some g->g<wr.heap.size):=λg e=>(hW.1.1.lt g e).2;go_upto_region 5 with fail
    clear q0 q1 q2 q3 q4 q5;obtain⟨V,hV,kB,hbV⟩:∃V,wr.alloc (.cells #[.string x0.nm,.slice (some ⟨p,q,none⟩) x0.ps.length c,.slice (some ⟨g,r,none⟩) x0.sl.length d,.string x0.ad,.int .i64 x0.si,.int .i64 x0.st] 52)=V/\CB V wr.heap.size [.string x0.nm,.slice (some ⟨p,q,none⟩) x0.ps.length c,.slice (some ⟨g,r,none⟩) x0.sl.length d,.string x0.ad,.int .i64 x0.si,.int .i64 x0.st]/\Below wr.heap.size wr V:=⟨_,rfl,E7 wr _ _,(A4 _ _).alloc (A3 _) _⟩;try rw[hV]
    have hX1:=hX.up hbV;have hW1':=hW.up hbV;have hv1:=hv.up hbV;clear hV hX hW hv;generalize hN:wr.heap.size=N at *;have hNV:N<V.heap.size:=kB.2.2;have hX2:CY W1 h V.drew Y tu bu xu du:=hX1.up (A4 _ _).drew;have hW2:=hW1'.up (A4 _ _).drew;have hv2:=hv1.up (A4 _ _).drew;have kB2:=kB.up (A4 _ _).drew kB.2.2;have hS2:World.cell? V.drew ⟨N,0,none⟩=some (.string x0.nm)/\World.cell? V.drew ⟨N,1,none⟩=some (.slice (some ⟨p,q,none⟩) x0.ps.length c)/\World.cell? V.drew ⟨N,2,none⟩=some (.slice (some ⟨g,r,none⟩) x0.sl.length d)/\World.cell? V.drew ⟨N,3,none⟩=some (.string x0.ad)/\World.cell? V.drew ⟨N,4,none⟩=some (.int .i64 x0.si)/\World.cell? V.drew ⟨N,5,none⟩=some (.int .i64 x0.st)/\World.cell? V.drew ⟨Y,4,none⟩=some xu:=⟨kB2.c6.1,kB2.c6.2.1,kB2.c6.2.2.1,kB2.c6.2.2.2.1,kB2.c6.2.2.2.2.1,kB2.c6.2.2.2.2.2,(I5 hX2.y).c6.2.2.2.2.1⟩;refine F5 7 (λw'=>World.cell? w' ⟨N,0,none⟩=some (.string x0.nm)/\World.cell? w' ⟨N,1,none⟩=some (.slice (some ⟨p,q,none⟩) x0.ps.length c)/\World.cell? w' ⟨N,2,none⟩=some (.slice (some ⟨g,r,none⟩) x0.sl.length d)/\World.cell? w' ⟨N,3,none⟩=some (.string x0.ad)/\World.cell? w' ⟨N,4,none⟩=some (.int .i64 x0.si)/\World.cell? w' ⟨N,5,none⟩=some (.int .i64 x0.st)/\World.cell? w' ⟨Y,4,none⟩=some xu) (by kernel_rfl) ?_;clear hX1 hW1' hv1 kB;generalize V.drew=X1 at hX2 hW2 hv2 kB2 hS2 ⊢
    refine tkx 0 rfl hS2 ?_;refine tkx 1 rfl hS2 ?_;refine tkx 2 rfl hS2 ?_;refine D8 (i:=3) (by kernel_rfl) rfl (λK hK=>?_);go_simp
    go_wp2_with (go_at_call 136;refine (Al5 x0 _ _ _ hv2 hpx.1 hpx.2).mono ?_;rintro e X3 ⟨⟨ru,su,rfl,hrc⟩,hb3⟩)
    have hX3:=hX2.up hb3;have hW3:=hW2.up hb3;have kB3:=kB2.up hb3 kB2.2.2;have hS3:World.cell? X3 ⟨N,0,none⟩=some (.string x0.nm)/\World.cell? X3 ⟨N,1,none⟩=some (.slice (some ⟨p,q,none⟩) x0.ps.length c)/\World.cell? X3 ⟨N,2,none⟩=some (.slice (some ⟨g,r,none⟩) x0.sl.length d)/\World.cell? X3 ⟨N,3,none⟩=some (.string x0.ad)/\World.cell? X3 ⟨N,4,none⟩=some (.int .i64 x0.si)/\World.cell? X3 ⟨N,5,none⟩=some (.int .i64 x0.st)/\World.cell? X3 ⟨Y,4,none⟩=some xu:=⟨kB3.c6.1,kB3.c6.2.1,kB3.c6.2.2.1,kB3.c6.2.2.2.1,kB3.c6.2.2.2.2.1,kB3.c6.2.2.2.2.2,(I5 hX3.y).c6.2.2.2.2.1⟩;have hrc3:=hrc.low hX2.B.size
    have Hap1:Hid (∀v∈ps.map (·.2.1),Ap v ru):=λv hv=>by
     obtain⟨y,hy,rfl⟩:=List.mem_map.1 hv;exact Al4 (hW2.1.2 y hy).r hrc.r (A3 _)
    have Hap2:Hid (∀v∈ps.map (·.2.2),Ap v su):=λv hv=>by
     obtain⟨y,hy,rfl⟩:=List.mem_map.1 hv;exact Al4 (hW2.1.2 y hy).s hrc.s (A3 _)
    obtain⟨g3,n3,m3,ee⟩:NN ru:=hrc.nr;obtain⟨g4,n4,m4,ef⟩:NN su:=hrc.ns;subst ee ef;clear hX2 hW2 hv2 kB2 hS2 hrc;refine hK.out _ _ (λ_=>hS3) ?_;clear hK K;have hnb9:Below X3.heap.size X3 (X3.alloc (.cells #[.string x0.nm,.slice (some ⟨g3,0,none⟩) n3 m3,.slice (some ⟨g4,0,none⟩) n4 m4,.string x0.ad,.int .i64 x0.si,.int .i64 x0.st] 52)):=(A4 _ _).alloc (A3 _) _;have hX4:=hX3.up hnb9;have hW4:=hW3.up hnb9;have hrc4:=hrc3.up hnb9;have kB4:=kB3.up hnb9 kB3.2.2;have hS4:World.cell? (X3.alloc (.cells #[.string x0.nm,.slice (some ⟨g3,0,none⟩) n3 m3,.slice (some ⟨g4,0,none⟩) n4 m4,.string x0.ad,.int .i64 x0.si,.int .i64 x0.st] 52)) ⟨N,0,none⟩=some (.string x0.nm)/\World.cell? (X3.alloc (.cells #[.string x0.nm,.slice (some ⟨g3,0,none⟩) n3 m3,.slice (some ⟨g4,0,none⟩) n4 m4,.string x0.ad,.int .i64 x0.si,.int .i64 x0.st] 52)) ⟨N,1,none⟩=some (.slice (some ⟨p,q,none⟩) x0.ps.length c)/\World.cell? (X3.alloc (.cells #[.string x0.nm,.slice (some ⟨g3,0,none⟩) n3 m3,.slice (some ⟨g4,0,none⟩) n4 m4,.string x0.ad,.int .i64 x0.si,.int .i64 x0.st] 52)) ⟨N,2,none⟩=some (.slice (some ⟨g,r,none⟩) x0.sl.length d)/\World.cell? (X3.alloc (.cells #[.string x0.nm,.slice (some ⟨g3,0,none⟩) n3 m3,.slice (some ⟨g4,0,none⟩) n4 m4,.string x0.ad,.int .i64 x0.si,.int .i64 x0.st] 52)) ⟨N,3,none⟩=some (.string x0.ad)/\World.cell? (X3.alloc (.cells #[.string x0.nm,.slice (some ⟨g3,0,none⟩) n3 m3,.slice (some ⟨g4,0,none⟩) n4 m4,.string x0.ad,.int .i64 x0.si,.int .i64 x0.st] 52)) ⟨N,4,none⟩=some (.int .i64 x0.si)/\World.cell? (X3.alloc (.cells #[.string x0.nm,.slice (some ⟨g3,0,none⟩) n3 m3,.slice (some ⟨g4,0,none⟩) n4 m4,.string x0.ad,.int .i64 x0.si,.int .i64 x0.st] 52)) ⟨N,5,none⟩=some (.int .i64 x0.st)/\World.cell? (X3.alloc (.cells #[.string x0.nm,.slice (some ⟨g3,0,none⟩) n3 m3,.slice (some ⟨g4,0,none⟩) n4 m4,.string x0.ad,.int .i64 x0.si,.int .i64 x0.st] 52)) ⟨Y,4,none⟩=some xu:=⟨kB4.c6.1,kB4.c6.2.1,kB4.c6.2.2.1,kB4.c6.2.2.2.1,kB4.c6.2.2.2.2.1,kB4.c6.2.2.2.2.2,(I5 hX4.y).c6.2.2.2.2.1⟩;have hnews:∀(j:Nat) (u:Value),(rowR (x0,.slice (some ⟨g3,0,none⟩) n3 m3,.slice (some ⟨g4,0,none⟩) n4 m4))[j]?=some u->(X3.alloc (.cells #[.string x0.nm,.slice (some ⟨g3,0,none⟩) n3 m3,.slice (some ⟨g4,0,none⟩) n4 m4,.string x0.ad,.int .i64 x0.si,.int .i64 x0.st] 52)).cell? ((⟨X3.heap.size,0,none⟩:Addr).add j)=some u:=λj u hj=>hnew6 _ _ _ _ _ _ _ _ hj;clear hX3 hW3 hrc3 hS3 kB3;refine D8 (i:=4) (by kernel_rfl) rfl (λK hK=>?_);go_simp
    refine hK.out _ _ (λ_=>hS4) ?_;clear hK K;clear hnb9;generalize X3.alloc (.cells #[.string x0.nm,.slice (some ⟨g3,0,none⟩) n3 m3,.slice (some ⟨g4,0,none⟩) n4 m4,.string x0.ad,.int .i64 x0.si,.int .i64 x0.st] 52)=X4 at hX4 hW4 hrc4 hS4 hnews kB4 ⊢
    refine D8 (i:=5) (by kernel_rfl) rfl (λK hK=>?_);refine F6 rfl _ _ 34 rfl W1.heap.size 52 irb _ 6 96 Tryz.underlying34 hirb r0 r1 r2 rfl (by decide) xu _ _ rfl hW4.1.1 ⟨X3.heap.size,0,none⟩ 1 1 (rowR (x0,.slice (some ⟨g3,0,none⟩) n3 m3,.slice (some ⟨g4,0,none⟩) n4 m4)) rfl rfl hnews (Ac6 hrc4) (by unfold maxLen;omega) (by omega) hX4.B.size ?_;intro v5 X5 hown5 hgr5;have hX5:=hX4.row hW4.1.1 hgr5;have hW5:RbsP X5 W1.heap.size v5 (ps++[(x0,.slice (some ⟨g3,0,none⟩) n3 m3,.slice (some ⟨g4,0,none⟩) n4 m4)]):=⟨hW4.1.app hrc4 hgr5 hown5,by rw[List.map_append];exact AiS hW4.2.1 Hap1.out,by rw[List.map_append];exact AiS hW4.2.2 Hap2.out⟩;have kB5:=kB4.kept hgr5 (λe=>by have:=HltN.out N e.symm;omega);have hS5:World.cell? X5 ⟨N,0,none⟩=some (.string x0.nm)/\World.cell? X5 ⟨N,1,none⟩=some (.slice (some ⟨p,q,none⟩) x0.ps.length c)/\World.cell? X5 ⟨N,2,none⟩=some (.slice (some ⟨g,r,none⟩) x0.sl.length d)/\World.cell? X5 ⟨N,3,none⟩=some (.string x0.ad)/\World.cell? X5 ⟨N,4,none⟩=some (.int .i64 x0.si)/\World.cell? X5 ⟨N,5,none⟩=some (.int .i64 x0.st)/\World.cell? X5 ⟨Y,4,none⟩=some xu:=⟨kB5.c6.1,kB5.c6.2.1,kB5.c6.2.2.1,kB5.c6.2.2.2.1,kB5.c6.2.2.2.2.1,kB5.c6.2.2.2.2.2,(I5 hX5.y).c6.2.2.2.2.1⟩;obtain⟨gg,cc,rfl⟩:=F4 hown5 (by omega);clear hown5 hgr5 hX4 hW4 hrc4 hS4 hnews kB4 kB5;refine hK.out _ _ (λ_=>hS5) ?_;clear hK K;refine tkx 6 rfl hS5 ?_;have hX6:=hX5.put (.slice (some ⟨gg,0,none⟩) (ps.length+1) cc);have hW6:=RbsP.off (j:=4) (u:=.slice (some ⟨gg,0,none⟩) (ps.length+1) cc) hX5 hW5;have kY:=I5 hX5.y;obtain⟨j0,j1,j2,j3,j4,j5⟩:=kY.c6;obtain⟨l0,l1,l2,l3,l4,l5⟩:=kY.f6;refine D8 (i:=7) (by kernel_rfl) rfl (λK hK=>?_);go_simp
    refine hK.out _ _ (λh=>absurd rfl h) ?_;clear hK K;refine F0 (by kernel_rfl) ?_ _
    have HM:Hid ((ps++[((x0,.slice (some ⟨g3,0,none⟩) n3 m3,.slice (some ⟨g4,0,none⟩) n4 m4):Rv)]).map (·.1)=h.bs.take (k+1)):=by
     show _=_
     rw[HX.out,List.map_append,Hps.out];rfl
    clear hX5 hW5 hS5 kY j0 j1 j2 j3 j4 j5 l0 l1 l2 l3 l4 l5 hS hb3;go_wp2_with fail
    go_roundw
    case rel =>
     rw[hpl] at hX6 hW6;exact⟨k+1,_,_,by omega,by go_num,HM.out,hX6,hW6⟩
    case measure=>simp[intOf];omega
   ·obtain rfl:k=h.bs.length:=by omega
    have kR9:=kR.up hX.B hR0;obtain⟨y0,y1,y2,y3,y4,y5⟩:=kR9.c6;obtain⟨f0,f1,f2,f3,f4,f5⟩:=kR9.f6;have kY:=I5 hX.y;obtain⟨j0,j1,j2,j3,j4,j5⟩:=kY.c6;have Hps2:Hid (ps.map (·.1)=h.bs):=by show _=_;rw[Hps.out,List.take_length]
    have hBB:=D6 hB1 (hX.B.mono (A3 _));obtain⟨t1,d1,t2,d2,e9⟩:=hX.k.shape;simp only[Value.agg.injEq,Array.mk.injEq,List.cons.injEq,and_true] at e9;obtain⟨rfl,rfl⟩:=e9;obtain⟨ax,cx,rfl⟩:=F2 hW.1.1;obtain⟨ad,cd,rfl⟩:=F2 hX.d;clear hpl;go_wp2_with fail
    refine R4 Tryz.results98 Tryz.underlying37 rfl J7 kR9 rfl ?_;have hg9:=J2 wr (w.heap.size+1) (.int .i64 h.now) (.int .i64 h.last) (.slice t1 h.sh.things.length d1) (.slice t2 h.sh.bs.length d2) (.slice ax ps.length cx) (.slice ad h.ds.length cd);refine⟨⟨_,_,_,_,rfl,?_⟩,L0 hBB (by omega) _ _ _ _ _ _⟩;exact ((⟨hX.k,Hz.out,⟨ps,hW,Hps2.out⟩,hX.d,Hdz.out⟩:HP wr W1.heap.size h _ _ _ _).gr hg9 hR0).low hLW
end Go.Proofs.YtebfdccbmmpceaaGreatDoor
