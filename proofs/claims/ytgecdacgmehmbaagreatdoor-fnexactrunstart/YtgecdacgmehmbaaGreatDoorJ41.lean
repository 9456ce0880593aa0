/- The laws' copies of lists of batches. -/
import Derived.Test.YtgecdacgmehmbaaGreatDoorJ36
import Derived.Test.YtgecdacgmehmbaaGreatDoorC3
import Derived.Test.YtgecdacgmehmbaaGreatDoorJ38
import Derived.Test.YtgecdacgmehmbaaGreatDoorJ2
import Derived.Test.YtgecdacgmehmbaaGreatDoorJ28
set_option maxRecDepth 20000
set_option maxHeartbeats 8000000
namespace Go.Proofs.YtgecdacgmehmbaaGreatDoor
open Go.RowKit
theorem infoRb:(Tryz.prog.info? 71).map (λi=>(i.zero,i.size,i.bytes))=some (some (.agg #[.string ⟨#[]⟩,.slice none 0 0,.slice none 0 0,.string ⟨#[]⟩,.int .i64 0,.int .i64 0]),6,96):=by kernel_rfl
theorem AhM (n:Nat) (hn:n<=1048576):∃C:Array Value,C.size=n*6/\∀w,(Instr.makeSlice 38 (.int .i64 (n:Int)) (.int .i64 (n:Int))).run Tryz.prog w=.ok (.slice (some ⟨w.heap.size,0,none⟩) n n) (w.alloc (.cells C 71)):=by
 obtain⟨i,hi,hz⟩:=B4.1 infoRb;simp only[Prod.mk.injEq] at hz;obtain⟨hz,hs,hb⟩:=hz;refine⟨madeCells (Value.agg #[.string ⟨#[]⟩,.slice none 0 0,.slice none 0 0,.string ⟨#[]⟩,.int .i64 0,.int .i64 0]).cells (n*6),size_madeCells _ _,λw=>?_⟩;have:=run_make (P:=Tryz.prog) w 38 71 i _ Tryz.underlying38 hi hz .i64 .i64 (n:Int) (n:Int) (by omega) (by omega) (by rw[hb];omega) (by omega);simp only[Int.toNat_natCast,hs] at this;exact this
def rbCells (x:Rb) (b1 b2:Nat):List Value:=[.string x.nm,.slice (some ⟨b1,0,none⟩) x.ps.length x.ps.length,.slice (some ⟨b2,0,none⟩) x.sl.length x.sl.length,.string x.ad,.int .i64 x.si,.int .i64 x.st]
def RsO (w:World) (b:Nat) (bs:List Rb):Prop:=∀(i:Nat) (x:Rb),bs[i]?=some x->∃b1 b2,w.rangeAt b (i*6) (rbCells x b1 b2)/\RbO w (b+1) x b1 b2
theorem RsO.up {w w':World} {b:Nat} {bs:List Rb} (h:RsO w b bs) (hb:Below w.heap.size w w') (hB:b<w.heap.size):RsO w' b bs:=λi x hx=>by
 obtain⟨b1,b2,h1,h2⟩:=h i x hx;exact⟨b1,b2,AaQ h1 hb hB,h2.up hb⟩
theorem RbO.setCells {base b1 b2 r:Nat} {x:Rb} (hr:r<base):∀(vs:List Value) (o:Nat) {w:World},RbO w base x b1 b2->RbO (w.setCells r o vs) base x b1 b2
 | [],_,_,h=>h
 | _::vs,o,_,h=>RbO.setCells hr vs (o+1) (h.set hr)
theorem Alj {w1:World} {b k b1 b2:Nat} {bs:List Rb} (hk:k<bs.length) (h:RsO w1 b (bs.take k)) (ht:w1.there b 0 (bs.length*6)) (ho:RbO w1 (b+1) bs[k] b1 b2):RsO (w1.setCells b (k*6) (rbCells bs[k] b1 b2)) b (bs.take (k+1)):=by
 intro i p hp;by_cases hi:i<k
 ·obtain⟨x1,x2,h1,h2⟩:=h i p (by
   rw[List.getElem?_take] at hp ⊢;rw[if_pos (by omega)] at hp;rw[if_pos hi];exact hp)
  exact⟨x1,x2,World.rangeAt_setCells_apart h1 b (k*6) _ (.inr (.inl (by simp[rbCells];omega))),RbO.setCells (by omega) _ _ h2⟩
 ·have hik:i=k:=by
   rw[List.getElem?_take] at hp;split at hp
   ·omega
   ·cases hp
  subst hik;rw[List.getElem?_take,if_pos (by omega),A0 hk] at hp;obtain rfl:=A5 hp;refine⟨b1,b2,World.rangeAt_setCells_same _ _ _ _ (λj hj=>?_),RbO.setCells (by omega) _ _ ho⟩;have:=ht (i*6+j) (by simp[rbCells] at hj;omega);simpa using this
theorem Alk (bs:List Rb) (v:Value) (w:World) (h:RsSrc w v bs) (hn:bs.length<=1048576) (hsm:RsSmall bs bs.length) :
  Calls Tryz.prog 34 #[v] w λe w'=>(∃b,e=.returned (.slice (some ⟨b,0,none⟩) bs.length bs.length)/\RsO w' b bs/\w.heap.size<=b/\b<w'.heap.size/\w'.there b 0 (bs.length*6))/\Below w.heap.size w w':=by
 obtain⟨a,c,rfl,hmax,hpos⟩:=h;obtain⟨C,hC,hmk⟩:=AhM bs.length hn;have HC:Hid (C.size=bs.length*6):=hC;have Hsm:Hid (RsSmall bs bs.length):=hsm;clear hC hsm;go_enter Tryz.func34,Tryz.ntmps34
 go_wp2
 go_loopw [4] (λi w'=>∃k:Nat,k<=bs.length/\i=.int .i64 k/\RsO w' w.heap.size (bs.take k)/\w'.there w.heap.size 0 (bs.length*6)/\w.heap.size<w'.heap.size/\Below w.heap.size w w') (λi _=>bs.length-(intOf i).toNat)
 case atStart=>exact⟨0,by omega,rfl,λi p hp=>by simp at hp,by rw[← HC.out];exact S2 _ _ _,by simp,by go_grown⟩
 case round =>
  obtain⟨k,hk,rfl,hra,hth,hlt,hB⟩:=hrel;have Hra:Hid (RsO wr w.heap.size (bs.take k)):=hra;have Hth:Hid (wr.there w.heap.size 0 (bs.length*6)):=hth;clear hra hth;by_cases hp:k<bs.length
  ·obtain⟨b,o,ha,hr,hb⟩:=hpos (by omega)
   subst ha;obtain⟨a1,c1,a2,c2,⟨e0,e1,e2,e3,e4,e5⟩,hv⟩:=(hr.up hB hb).open hp;obtain⟨np,ns⟩:=Hsm.out k _ hp (A0 hp);have Hst:Hid (∀w1 b1 b2,Below wr.heap.size wr w1->RbO w1 (w.heap.size+1) bs[k] b1 b2->RsO (w1.setCells w.heap.size (k*6) (rbCells bs[k] b1 b2)) w.heap.size (bs.take (k+1))):=λw1 b1 b2 hb1 ho=>Alj hp (Hra.out.up hb1 hlt) (I3 Hth.out hb1 hlt) ho;generalize bs[k]=x0 at *;clear hr;go_wp2_with fail
   refine (Amg x0 _ _ _ hv np ns).mono ?_;rintro e' w1 ⟨⟨b1,b2,rfl,ho⟩,hb1⟩;have ho':=ho.low (base':=w.heap.size+1) (by omega);clear e0 e1 e2 e3 e4 e5
   go_wp2_with (refine wpList_store_mid rfl 71 _ _ rfl w.heap.size (k*6) _ rfl rfl (λj hj=>by
     have:=I3 Hth.out hb1 hlt (k*6+j) (by simp at hj;omega);simpa using this) AkT (by simp[Value.oneCell']) ?_)
   go_roundw
   case rel=>exact⟨k+1,by omega,by go_num,Hst.out w1 b1 b2 hb1 ho',World.there_setCells (I3 Hth.out hb1 hlt) _ _ _,A1 (A1 hlt hb1.size) (R8 _ _ _ _),M0 _ _ _ _ _ _ (D5 hB hb1) (A3 _)⟩
   case measure=>simp[intOf];omega
  ·have HD:Hid (RsO wr w.heap.size bs):=by have:=Hra.out;rwa [D2 (by omega)] at this
   go_wp2_with fail
   go_ret
   exact⟨⟨_,rfl,HD.out,A3 _,hlt,Hth.out⟩,hB⟩
theorem D8 {w:World} {base e k y:Nat} {cs:List Value} (h:w.ownsRow base e k (.slice (some ⟨y,0,none⟩) 1 1) 1 cs):CB w y cs:=by
 have hl:cs.length=1*k:=h.1;refine⟨λj v hv=>?_,λj hj=>?_,(h.lt y rfl).2⟩
 ·have hj:j<cs.length:=(A2.1 hv).1
  rw[Nat.zero_add,h.cellAt j (by omega)];exact hv
 ·rw[Nat.zero_add]
  refine⟨?_,h.frozenAt j⟩;rw[h.cellAt j (by omega),A0 hj];rfl
theorem HW.box {w w':World} {base b2 n:Nat} {h:House} {tv bv xv dv v:Value} {xs:List Value} (H:HW w base h tv bv xv dv) (hrow:w.ownsRow b2 41 6 v n xs) (hg:w.grownBy w' v.ownBlock):HW w' base h tv bv xv dv:=by
 obtain⟨ps,h1,h2⟩:=H.x;exact⟨H.k.step hrow (by decide) (by decide) hg,H.z,⟨ps,⟨E4 h1.1 hg (E5 h1.1 hrow (by decide)),λp hp=>(h1.2 p hp).step hrow (by decide) (by decide) hg⟩,h2⟩,H.d.step hrow (by decide) hg⟩
theorem Y9 {w:World} {base y j:Nat} {cs:List Value} (h:w.ownsRow base 41 6 (.slice (some ⟨y,0,none⟩) 1 1) 1 cs) (u:Value):(w.setCell ⟨y,j,none⟩ u).ownsRow base 41 6 (.slice (some ⟨y,0,none⟩) 1 1) 1 (cs.set j u)/\w.grownBy (w.setCell ⟨y,j,none⟩ u) (Value.slice (some ⟨y,0,none⟩) 1 1).ownBlock:=B2 h j u
structure AS (W:World) (h:House) (x:Rb) (X:World) (k13:Option Value) (k14:Option (Value×Int×Bk)) (k18:Option Nat):Prop where
 B:Below W.heap.size W X
 s13:∀v,k13=some v->Txt X v (rbOwn x)
 s14:∀r,k14=some r->AskIs h.sh x.nm (rbOwn x) r.2.1 r.2.2/\BkW X W.heap.size r.1 r.2.2
 s18:∀y,k18=some y->X.ownsRow W.heap.size 37 2 (.slice (some ⟨y,0,none⟩) 1 1) 1 [.slice none 0 0,.slice none 0 0]
theorem AS.up {W X X':World} {h:House} {x:Rb} {k13:Option Value} {k14:Option (Value×Int×Bk)} {k18:Option Nat} (H:AS W h x X k13 k14 k18) (hb:Below X.heap.size X X'):AS W h x X' k13 k14 k18 :=
 ⟨D5 H.B hb,λv e=>(H.s13 v e).up hb,λr e=>⟨(H.s14 r e).1,(H.s14 r e).2.up hb⟩,λy e=>E0 (H.s18 y e) hb⟩
theorem Ann (W:World) (h:House) (x:Rb):AS W h x W none none none:=⟨A4 _ _,λ_ h=>(by cases h),λ_ h=>(by cases h),λ_ h=>(by cases h)⟩
theorem AS.own {W X X':World} {h:House} {x:Rb} {k13:Option Value} {k14:Option (Value×Int×Bk)} {k18:Option Nat} {v:Value} (H:AS W h x X k13 k14 k18) (hb:Below X.heap.size X X') (hv:Txt X' v (rbOwn x)):AS W h x X' (some v) k14 k18 :=
 {H.up hb with s13:=λu e=>by cases e;exact hv}
theorem AS.ask {W X X':World} {h:House} {x:Rb} {k13:Option Value} {k14:Option (Value×Int×Bk)} {k18:Option Nat} {v:Value} {cd:Int} {b':Bk} (H:AS W h x X k13 k14 k18) (hb:Below X.heap.size X X') (ha:AskIs h.sh x.nm (rbOwn x) cd b') (hv:BkW X' X.heap.size v b'):AS W h x X' k13 (some (v,cd,b')) k18 :=
 {H.up hb with s14:=λu e=>by cases e;exact⟨ha,hv.low H.B.size⟩}
theorem AS.new {W X:World} {h:House} {x:Rb} {k13:Option Value} {k14:Option (Value×Int×Bk)} {k18:Option Nat} (H:AS W h x X k13 k14 k18):AS W h x (X.alloc (.cells #[.slice none 0 0,.slice none 0 0] 37)) k13 k14 (some X.heap.size) :=
 {H.up ((A4 _ _).alloc (A3 _) _) with s18:=λu e=>by cases e;exact B8 X _ 1 H.B.size (by unfold maxLen;omega) rfl}
theorem AS.fin {W X:World} {h:House} {x:Rb} {k13:Option Value} {tu bu:Value} {cd:Int} {b':Bk} {y:Nat} (H:AS W h x X k13 (some (.agg #[tu,bu],cd,b')) (some y)) :
  Below W.heap.size W ((X.setCell ⟨y,0,none⟩ tu).setCell ⟨y,1,none⟩ bu)/\AskIs h.sh x.nm (rbOwn x) cd b'/\BkW ((X.setCell ⟨y,0,none⟩ tu).setCell ⟨y,1,none⟩ bu) W.heap.size (.agg #[tu,bu]) b'/\CB ((X.setCell ⟨y,0,none⟩ tu).setCell ⟨y,1,none⟩ bu) y [tu,bu]:=by
 have h18:=H.s18 y rfl;have h1:=B2 h18 0 tu;have h2:=B2 h1.1 1 bu;have hg:X.grownBy ((X.setCell ⟨y,0,none⟩ tu).setCell ⟨y,1,none⟩ bu) (Value.slice (some ⟨y,0,none⟩) 1 1).ownBlock:=E3 h1.2 h2.2;exact⟨F5 H.B H.B.size h18 hg (A3 _),(H.s14 _ rfl).1,(H.s14 _ rfl).2.step h18 (by decide) (by decide) hg,D8 h2.1⟩
theorem HW.asked {w:World} {base g n cap k:Nat} {h:House} {tv bv tu bu dv:Value} {b':Bk} {x:Rb} (H:HW w base h tv bv (.slice (some ⟨g,0,none⟩) n cap) dv) (hx:h.bs[k]?=some x) (hb:BkW w base (.agg #[tu,bu]) b') (hz:Szb b') :
  HW (w.setCell ⟨g,k*6+4,none⟩ (.int .i64 0)) base {h with sh:=b',bs:=h.bs.set k {x with si:=0}} tu bu (.slice (some ⟨g,0,none⟩) n cap) dv:=by
 obtain⟨ps,h1,h2⟩:=H.x;have hx':=hx;rw[← h2,B0,B4] at hx';obtain⟨⟨y,ru,su⟩,hp,e⟩:=hx';obtain rfl:y=x:=e;have hg:w.grownBy (w.setCell ⟨g,k*6+4,none⟩ (.int .i64 0)) (Value.slice (some ⟨g,0,none⟩) n cap).ownBlock:=D9 (E1 _ _) _;exact⟨hb.step h1.1 (by decide) (by decide) hg,hz,⟨_,h1.put (y:={y with si:=0}) hp (by omega) rfl rfl rfl rfl,by rw[List.map_set,h2]⟩,H.d.step h1.1 (by decide) hg⟩
theorem AgN (w:World) (cs ds:List Value) (hc:cs.length=6) (hd:ds.length=6) :
  ((w.alloc (.cells cs.toArray 41)).alloc (.cells ds.toArray 41)).ownsRow w.heap.size 41 6 (.slice (some ⟨w.heap.size,0,none⟩) 1 1) 1 cs/\((w.alloc (.cells cs.toArray 41)).alloc (.cells ds.toArray 41)).ownsRow w.heap.size 41 6 (.slice (some ⟨w.heap.size+1,0,none⟩) 1 1) 1 ds/\Below w.heap.size w ((w.alloc (.cells cs.toArray 41)).alloc (.cells ds.toArray 41)):=by
 have h1:(w.alloc (.cells cs.toArray 41)).ownsRow w.heap.size 41 6 (.slice (some ⟨w.heap.size,0,none⟩) 1 1) 1 cs:=by simpa using B8 w cs.toArray 1 (A3 _) (by unfold maxLen;omega) (by simpa using hc)
 have hz:(w.alloc (.cells cs.toArray 41)).heap.size=w.heap.size+1:=by simp
 have h2:((w.alloc (.cells cs.toArray 41)).alloc (.cells ds.toArray 41)).ownsRow w.heap.size 41 6 (.slice (some ⟨(w.alloc (.cells cs.toArray 41)).heap.size,0,none⟩) 1 1) 1 ds:=by simpa using B8 (w.alloc (.cells cs.toArray 41)) ds.toArray 1 (by omega) (by unfold maxLen;omega) (by simpa using hd)
 rw[hz] at h2;exact⟨h1.alloc _,h2,((A4 _ _).alloc (A3 _) _).alloc (by omega) _⟩
theorem Aj9 (h:House) (tv bv xv dv:Value) (base:Nat) (w:World) (H:HW w base h tv bv xv dv) (hbase:base<=w.heap.size) (hT:Tiny h.sh) :
  Calls Tryz.prog 32 #[.agg #[.int .i64 h.now,.int .i64 h.last,tv,bv,xv,dv]] w λe w'=>(∃h' tu bu,e=.returned (.agg #[.int .i64 h.now,.int .i64 h.last,tu,bu,xv,dv])/\AsksTo h h.bs.length h'/\Tiny h'.sh/\HW w' base h' tu bu xv dv)/\w.grownBy w' xv.ownBlock:=by
 obtain⟨a1,c1,a2,c2,a3,c3,a4,c4,rfl,rfl,rfl,rfl⟩:=H.v.shapes;obtain⟨W1,hW1,kA,kR,hB1⟩:∃W1,(w.alloc (.cells #[.int .i64 h.now,.int .i64 h.last,.slice a1 h.sh.things.length c1,.slice a2 h.sh.bs.length c2,.slice a3 h.bs.length c3,.slice a4 h.ds.length c4] 41)).alloc (.cells #[.int .i64 0,.int .i64 0,.slice none 0 0,.slice none 0 0,.slice none 0 0,.slice none 0 0] 41)=W1/\W1.ownsRow w.heap.size 41 6 (.slice (some ⟨w.heap.size,0,none⟩) 1 1) 1 [.int .i64 h.now,.int .i64 h.last,.slice a1 h.sh.things.length c1,.slice a2 h.sh.bs.length c2,.slice a3 h.bs.length c3,.slice a4 h.ds.length c4]/\W1.ownsRow w.heap.size 41 6 (.slice (some ⟨w.heap.size+1,0,none⟩) 1 1) 1 [.int .i64 0,.int .i64 0,.slice none 0 0,.slice none 0 0,.slice none 0 0,.slice none 0 0]/\Below w.heap.size w W1:=⟨_,rfl,AgN w [.int .i64 h.now,.int .i64 h.last,.slice a1 h.sh.things.length c1,.slice a2 h.sh.bs.length c2,.slice a3 h.bs.length c3,.slice a4 h.ds.length c4] [.int .i64 0,.int .i64 0,.slice none 0 0,.slice none 0 0,.slice none 0 0,.slice none 0 0] rfl rfl⟩;go_enter Tryz.func32,Tryz.ntmps32
 go_upto_region 2 with fail
 try rw[hW1]
 clear hW1;have H1:=H.up hB1;have hG1:w.grownBy W1 (Value.slice a3 h.bs.length c3).ownBlock:=⟨hB1.os,hB1.tape,hB1.output,hB1.size,λk hk _=>hB1.block k hk⟩;have hz1:=hB1.size
 have hmx:h.bs.length<=9223372036854775807:=by
  obtain⟨ps,hw,he⟩:=H.x;have:=AaI hw.1;rw[← he,B3];unfold maxLen at this;omega
 go_loopw [3] (λi w'=>∃(k:Nat) (hk:House) (tu bu:Value),k<=h.bs.length/\i=.int .i64 k/\AsksTo h k hk/\Tiny hk.sh/\w'.ownsRow w.heap.size 41 6 (.slice (some ⟨w.heap.size,0,none⟩) 1 1) 1 [.int .i64 h.now,.int .i64 h.last,tu,bu,.slice a3 h.bs.length c3,.slice a4 h.ds.length c4]/\w'.ownsRow w.heap.size 41 6 (.slice (some ⟨w.heap.size+1,0,none⟩) 1 1) 1 [.int .i64 0,.int .i64 0,.slice none 0 0,.slice none 0 0,.slice none 0 0,.slice none 0 0]/\HW w' base hk tu bu (.slice a3 h.bs.length c3) (.slice a4 h.ds.length c4)/\w.grownBy w' (Value.slice a3 h.bs.length c3).ownBlock) (λi _=>h.bs.length-(intOf i).toNat)
 case atStart=>exact⟨0,h,_,_,by omega,rfl,rfl,hT,kA,kR,H1,hG1⟩
 case round =>
  clear kA kR H1 hG1 hB1 hz1 H hT;obtain⟨k,hk,tu,bu,hle,rfl,hA,hTk,kA,kR,HH,hG⟩:=hrel;have HA:Hid (AsksTo h k hk):=hA;obtain⟨z1,z2,z3,z4⟩:=hA.same;clear hA;have Hs:Hid (hk.now=h.now/\hk.last=h.last/\hk.ds=h.ds/\hk.bs.length=h.bs.length):=⟨z1,z2,z3,z4⟩;clear z1 z2 z3;have Hz4:Hid (hk.bs.length=h.bs.length):=z4;clear z4;obtain⟨e0,e1,e2,e3,e4,e5⟩:=(D8 kA).c6;by_cases hp:k<h.bs.length
  ·obtain⟨ps,hW,hm⟩:=HH.x
   have hpl:ps.length=h.bs.length:=by have:=congrArg List.length hm;rw[B3,Hz4.out] at this;exact this
   obtain⟨g,cap,eg⟩:=F2 hW.1 (by omega);simp only[Value.slice.injEq] at eg;obtain⟨rfl,-,rfl⟩:=eg;have hrow:=hW.1;rw[hpl] at hrow;obtain⟨⟨x0,ru,su⟩,hpk⟩:∃p,ps[k]?=some p:=⟨ps[k]'(by omega),A0 _⟩;have Hpk:Hid (ps[k]?=some (x0,ru,su)):=hpk;have Hx0:Hid (hk.bs[k]?=some x0):=by show _=_;rw[← hm,B0,hpk];rfl
   have hrc:=hW.2 _ (A6 hpk);have hnr:NN ru:=hrc.nr;have hns:NN su:=hrc.ns;obtain⟨g3,n3,m3,rfl⟩:=hnr;obtain⟨g4,n4,m4,rfl⟩:=hns;have hcl:=J6 K7 hrow hpk;have q0:World.cell? wr ⟨g,k*6,none⟩=some (.string x0.nm):=hcl 0 _ rfl;have q1:World.cell? wr ⟨g,k*6+1,none⟩=some (.slice (some ⟨g3,0,none⟩) n3 m3):=hcl 1 _ rfl;have q2:World.cell? wr ⟨g,k*6+2,none⟩=some (.slice (some ⟨g4,0,none⟩) n4 m4):=hcl 2 _ rfl;have q3:World.cell? wr ⟨g,k*6+3,none⟩=some (.string x0.ad):=hcl 3 _ rfl;have q4:World.cell? wr ⟨g,k*6+4,none⟩=some (.int .i64 x0.si):=hcl 4 _ rfl;have q5:World.cell? wr ⟨g,k*6+5,none⟩=some (.int .i64 x0.st):=hcl 5 _ rfl;have hv:RbV wr x0 (.slice (some ⟨g3,0,none⟩) n3 m3) (.slice (some ⟨g4,0,none⟩) n4 m4):=hrc.v;have hglt:g<wr.heap.size:=(hrow.lt g rfl).2;have hwlt:w.heap.size<wr.heap.size:=(kA.lt w.heap.size rfl).2;clear hcl hrc hm hpk hW hpl;by_cases hsi:0<=x0.si
   ·have HN:Hid (AsksTo h (k+1) hk):=⟨hk,HA.out,x0,Hx0.out,.inl ⟨hsi,rfl⟩⟩
    clear hv hrow q0 q1 q2 q3 q5;go_wp2_with fail
    go_roundw
    case rel=>exact⟨k+1,hk,tu,bu,by omega,by go_num,HN.out,hTk,kA,kR,HH,hG⟩
    case measure=>simp[intOf];omega
   ·have mk:∀w',Below wr.heap.size wr w'->Below wr.heap.size wr w'/\World.cell? w' ⟨w.heap.size,2,none⟩=some tu/\World.cell? w' ⟨w.heap.size,3,none⟩=some bu/\World.cell? w' ⟨w.heap.size,4,none⟩=some (.slice (some ⟨g,0,none⟩) h.bs.length c3)/\World.cell? w' ⟨g,k*6,none⟩=some (.string x0.nm)/\World.cell? w' ⟨g,k*6+1,none⟩=some (.slice (some ⟨g3,0,none⟩) n3 m3)/\World.cell? w' ⟨g,k*6+2,none⟩=some (.slice (some ⟨g4,0,none⟩) n4 m4)/\World.cell? w' ⟨g,k*6+3,none⟩=some (.string x0.ad)/\World.cell? w' ⟨g,k*6+4,none⟩=some (.int .i64 x0.si)/\World.cell? w' ⟨g,k*6+5,none⟩=some (.int .i64 x0.st):=λw' hb'=>⟨hb',(hb'.cell (p:=⟨w.heap.size,2,none⟩) hwlt).trans e2,(hb'.cell (p:=⟨w.heap.size,3,none⟩) hwlt).trans e3,(hb'.cell (p:=⟨w.heap.size,4,none⟩) hwlt).trans e4,(hb'.cell (p:=⟨g,k*6,none⟩) hglt).trans q0,(hb'.cell (p:=⟨g,k*6+1,none⟩) hglt).trans q1,(hb'.cell (p:=⟨g,k*6+2,none⟩) hglt).trans q2,(hb'.cell (p:=⟨g,k*6+3,none⟩) hglt).trans q3,(hb'.cell (p:=⟨g,k*6+4,none⟩) hglt).trans q4,(hb'.cell (p:=⟨g,k*6+5,none⟩) hglt).trans q5⟩
    have Mk:Hid (∀w',Below wr.heap.size wr w'->Below wr.heap.size wr w'/\World.cell? w' ⟨w.heap.size,2,none⟩=some tu/\World.cell? w' ⟨w.heap.size,3,none⟩=some bu/\World.cell? w' ⟨w.heap.size,4,none⟩=some (.slice (some ⟨g,0,none⟩) h.bs.length c3)/\World.cell? w' ⟨g,k*6,none⟩=some (.string x0.nm)/\World.cell? w' ⟨g,k*6+1,none⟩=some (.slice (some ⟨g3,0,none⟩) n3 m3)/\World.cell? w' ⟨g,k*6+2,none⟩=some (.slice (some ⟨g4,0,none⟩) n4 m4)/\World.cell? w' ⟨g,k*6+3,none⟩=some (.string x0.ad)/\World.cell? w' ⟨g,k*6+4,none⟩=some (.int .i64 x0.si)/\World.cell? w' ⟨g,k*6+5,none⟩=some (.int .i64 x0.st)):=mk;have HB:Hid (BkV wr (.agg #[tu,bu]) hk.sh):=HH.v.book;clear mk q0 q1 q2 q3 q5;go_upto_region 5 with fail
    clear q4 e0 e1 e2 e3 e4 e5;go_cut [4,5] (λv4 v5 wc=>∃(Y:Nat) (tw bw:Value) (cd:Int) (b':Bk),v4=.pointer (some ⟨Y,0,none⟩)/\v5=.int .i64 cd/\Below wr.heap.size wr wc/\AskIs hk.sh x0.nm (rbOwn x0) cd b'/\BkW wc wr.heap.size (.agg #[tw,bw]) b'/\CB wc Y [tw,bw])
    case first =>
     have hC:AS wr hk x0 wr.drew none none none:=(Ann wr hk x0).up (A4 _ _).drew;refine F6 99 (λw'=>Below wr.heap.size wr w'/\World.cell? w' ⟨w.heap.size,2,none⟩=some tu/\World.cell? w' ⟨w.heap.size,3,none⟩=some bu/\World.cell? w' ⟨w.heap.size,4,none⟩=some (.slice (some ⟨g,0,none⟩) h.bs.length c3)/\World.cell? w' ⟨g,k*6,none⟩=some (.string x0.nm)/\World.cell? w' ⟨g,k*6+1,none⟩=some (.slice (some ⟨g3,0,none⟩) n3 m3)/\World.cell? w' ⟨g,k*6+2,none⟩=some (.slice (some ⟨g4,0,none⟩) n4 m4)/\World.cell? w' ⟨g,k*6+3,none⟩=some (.string x0.ad)/\World.cell? w' ⟨g,k*6+4,none⟩=some (.int .i64 x0.si)/\World.cell? w' ⟨g,k*6+5,none⟩=some (.int .i64 x0.st)) (by kernel_rfl) ?_;generalize wr.drew=X1 at hC ⊢
     have hS1:=Mk.out _ hC.B;refine tkx 0 rfl hS1 ?_;refine tkx 1 rfl hS1 ?_;refine tkx 2 rfl hS1 ?_;refine tkx 3 rfl hS1 ?_;refine tkx 4 rfl hS1 ?_;refine tkx 5 rfl hS1 ?_;refine tkx 6 rfl hS1 ?_;refine tkx 7 rfl hS1 ?_;refine tkx 8 rfl hS1 ?_;refine tkx 9 rfl hS1 ?_;refine tkx 10 rfl hS1 ?_;refine tkx 11 rfl hS1 ?_;refine tkx 12 rfl hS1 ?_;clear hS1;refine J9 (i:=13) (j:=18) (by kernel_rfl) rfl rfl (λK hK=>?_) (λK hK=>?_)
     ·(go_simp;go_wp2_with (go_at_call 75;refine (AdG x0 _ _ _ (hv.up hC.B)).mono ?_;rintro e X2 ⟨⟨u,rfl,hu⟩,hb2⟩;replace hC:=hC.own hb2 hu;clear hb2;obtain⟨g9,c9,rfl,-⟩:=hu);refine hK.out _ _ (λ_=>(Mk.out _ hC.B)) ?_;clear hK K)
      refine J9 (i:=14) (j:=18) (by kernel_rfl) rfl rfl (λK hK=>?_) (λK hK=>?_)
      ·(go_simp;go_wp2_with (go_at_call 74;refine (Abv hk.sh _ _ x0.nm (rbOwn x0) _ (HB.out.up hC.B) ((Lst.ls (.inr (hC.s13 _ rfl))) (L3 hv)) (B1 (AcM x0) (by omega))).mono ?_;rintro e X3 ⟨⟨v8,cd,b',rfl,hask,hk8⟩,hb8⟩;replace hC:=hC.ask hb8 hask hk8;obtain⟨t1,d1,t2,d2,ps8,rfl,-⟩:=hk8.parts;clear hk8 hb8 hask);refine hK.out _ _ (λ_=>(Mk.out _ hC.B)) ?_;clear hK K;(refine tkx 15 rfl (Mk.out _ hC.B) ?_);(refine tkx 16 rfl (Mk.out _ hC.B) ?_);(refine tkx 17 rfl (Mk.out _ hC.B) ?_))
       refine D7 (i:=18) (by kernel_rfl) rfl (λK hK=>?_)
       (go_simp;replace hC:=hC.new;refine hK.out _ _ (λ_=>(Mk.out _ hC.B)) ?_;clear hK K;generalize World.alloc _ (.cells #[.slice none 0 0,.slice none 0 0] 37)=X4 at hC ⊢)
       (have kY:=D8 (hC.s18 _ rfl);obtain⟨⟨j0,j1⟩,m0,m1⟩:=kY.c2;have hF:=hC.fin;refine D7 (i:=19) (by kernel_rfl) rfl (λK hK=>?_);go_simp;refine hK.out _ _ (λ_=>Mk.out _ hF.1) ?_;clear hK K j0 j1 m0 m1 kY;(try simp only[Act.put,List.setIfInBounds_toArray,List.set_cons_zero,List.set_cons_succ]);refine D7 (i:=20) (by kernel_rfl) rfl (λK hK=>?_);go_simp;refine hK.out _ _ (λ_=>Mk.out _ hF.1) ?_;clear hK K;(try simp only[Act.put,List.setIfInBounds_toArray,List.set_cons_zero,List.set_cons_succ]);refine F0 (by kernel_rfl) ?_ _;go_wp2_with fail;go_meet;exact⟨_,_,_,_,_,rfl,rfl,hF⟩)
      ·(go_simp;replace hC:=hC.new;refine hK.out _ _ (λ_=>(Mk.out _ hC.B)) ?_;clear hK K;generalize World.alloc _ (.cells #[.slice none 0 0,.slice none 0 0] 37)=X4 at hC ⊢)
       refine D7 (i:=14) (by kernel_rfl) rfl (λK hK=>?_)
       (go_simp;go_wp2_with (go_at_call 74;refine (Abv hk.sh _ _ x0.nm (rbOwn x0) _ (HB.out.up hC.B) ((Lst.ls (.inr (hC.s13 _ rfl))) (L3 hv)) (B1 (AcM x0) (by omega))).mono ?_;rintro e X3 ⟨⟨v8,cd,b',rfl,hask,hk8⟩,hb8⟩;replace hC:=hC.ask hb8 hask hk8;obtain⟨t1,d1,t2,d2,ps8,rfl,-⟩:=hk8.parts;clear hk8 hb8 hask);refine hK.out _ _ (λ_=>(Mk.out _ hC.B)) ?_;clear hK K;(refine tkx 15 rfl (Mk.out _ hC.B) ?_);(refine tkx 16 rfl (Mk.out _ hC.B) ?_);(refine tkx 17 rfl (Mk.out _ hC.B) ?_))
       (have kY:=D8 (hC.s18 _ rfl);obtain⟨⟨j0,j1⟩,m0,m1⟩:=kY.c2;have hF:=hC.fin;refine D7 (i:=19) (by kernel_rfl) rfl (λK hK=>?_);go_simp;refine hK.out _ _ (λ_=>Mk.out _ hF.1) ?_;clear hK K j0 j1 m0 m1 kY;(try simp only[Act.put,List.setIfInBounds_toArray,List.set_cons_zero,List.set_cons_succ]);refine D7 (i:=20) (by kernel_rfl) rfl (λK hK=>?_);go_simp;refine hK.out _ _ (λ_=>Mk.out _ hF.1) ?_;clear hK K;(try simp only[Act.put,List.setIfInBounds_toArray,List.set_cons_zero,List.set_cons_succ]);refine F0 (by kernel_rfl) ?_ _;go_wp2_with fail;go_meet;exact⟨_,_,_,_,_,rfl,rfl,hF⟩)
     ·(go_simp;replace hC:=hC.new;refine hK.out _ _ (λ_=>(Mk.out _ hC.B)) ?_;clear hK K;generalize World.alloc _ (.cells #[.slice none 0 0,.slice none 0 0] 37)=X4 at hC ⊢)
      refine D7 (i:=13) (by kernel_rfl) rfl (λK hK=>?_)
      (go_simp;go_wp2_with (go_at_call 75;refine (AdG x0 _ _ _ (hv.up hC.B)).mono ?_;rintro e X2 ⟨⟨u,rfl,hu⟩,hb2⟩;replace hC:=hC.own hb2 hu;clear hb2;obtain⟨g9,c9,rfl,-⟩:=hu);refine hK.out _ _ (λ_=>(Mk.out _ hC.B)) ?_;clear hK K)
      refine D7 (i:=14) (by kernel_rfl) rfl (λK hK=>?_)
      (go_simp;go_wp2_with (go_at_call 74;refine (Abv hk.sh _ _ x0.nm (rbOwn x0) _ (HB.out.up hC.B) ((Lst.ls (.inr (hC.s13 _ rfl))) (L3 hv)) (B1 (AcM x0) (by omega))).mono ?_;rintro e X3 ⟨⟨v8,cd,b',rfl,hask,hk8⟩,hb8⟩;replace hC:=hC.ask hb8 hask hk8;obtain⟨t1,d1,t2,d2,ps8,rfl,-⟩:=hk8.parts;clear hk8 hb8 hask);refine hK.out _ _ (λ_=>(Mk.out _ hC.B)) ?_;clear hK K;(refine tkx 15 rfl (Mk.out _ hC.B) ?_);(refine tkx 16 rfl (Mk.out _ hC.B) ?_);(refine tkx 17 rfl (Mk.out _ hC.B) ?_))
      (have kY:=D8 (hC.s18 _ rfl);obtain⟨⟨j0,j1⟩,m0,m1⟩:=kY.c2;have hF:=hC.fin;refine D7 (i:=19) (by kernel_rfl) rfl (λK hK=>?_);go_simp;refine hK.out _ _ (λ_=>Mk.out _ hF.1) ?_;clear hK K j0 j1 m0 m1 kY;(try simp only[Act.put,List.setIfInBounds_toArray,List.set_cons_zero,List.set_cons_succ]);refine D7 (i:=20) (by kernel_rfl) rfl (λK hK=>?_);go_simp;refine hK.out _ _ (λ_=>Mk.out _ hF.1) ?_;clear hK K;(try simp only[Act.put,List.setIfInBounds_toArray,List.set_cons_zero,List.set_cons_succ]);refine F0 (by kernel_rfl) ?_ _;go_wp2_with fail;go_meet;exact⟨_,_,_,_,_,rfl,rfl,hF⟩)
    case rest =>
     obtain⟨Y,tw,bw,cd,b',rfl,rfl,hBc,hask,hbk,kY⟩:=hcut;have HHc:=HH.up hBc;have kAc:=E0 kA hBc;have kRc:=E0 kR hBc;have hrowc:=E0 hrow hBc;have hGc:w.grownBy wc (Value.slice (some ⟨g,0,none⟩) h.bs.length c3).ownBlock:=⟨hBc.os.trans hG.os,hBc.tape.trans hG.tape,hBc.output.trans hG.output,B1 hG.size hBc.size,λi hi hne=>(hBc.block i (A1 hi hG.size)).trans (hG.block i hi hne)⟩;have Hdk:Hid (Szb b'/\Tiny b'):=ask_dk hask HH.z hTk (L3 hv);have Hask:Hid (AskIs hk.sh x0.nm (rbOwn x0) cd b'):=hask;have hbl:base<=wr.heap.size:=B1 hbase (Nat.le_of_lt hwlt);clear Mk HB hrow HH kA kR hG hv hask;by_cases hcd:cd=0
     ·subst hcd
      obtain⟨t1,d1,t2,d2,qs,e9,-⟩:=hbk.parts;simp only[Value.agg.injEq,Array.mk.injEq,List.cons.injEq,and_true] at e9;obtain⟨rfl,rfl⟩:=e9;obtain⟨v0,v1⟩:=kY.c2';obtain⟨e0,e1,e2,e3,e4,e5⟩:=(D8 kAc).c6;obtain⟨f0,f1,f2,f3,f4,f5⟩:=(D8 kAc).f6;have b1:=Y9 (j:=2) kAc (.slice t1 b'.things.length d1);have b2:=Y9 (j:=3) b1.1 (.slice t2 b'.bs.length d2);have hg2:wc.grownBy ((wc.setCell ⟨w.heap.size,2,none⟩ (.slice t1 b'.things.length d1)).setCell ⟨w.heap.size,3,none⟩ (.slice t2 b'.bs.length d2)) (Value.slice (some ⟨w.heap.size,0,none⟩) 1 1).ownBlock:=E3 b1.2 b2.2
      obtain⟨W7,hW7,kA7,kR7,hrow7,HH7,hbk7,hG7⟩:∃W7,(wc.setCell ⟨w.heap.size,2,none⟩ (.slice t1 b'.things.length d1)).setCell ⟨w.heap.size,3,none⟩ (.slice t2 b'.bs.length d2)=W7/\W7.ownsRow w.heap.size 41 6 (.slice (some ⟨w.heap.size,0,none⟩) 1 1) 1 [.int .i64 h.now,.int .i64 h.last,.slice t1 b'.things.length d1,.slice t2 b'.bs.length d2,.slice (some ⟨g,0,none⟩) h.bs.length c3,.slice a4 h.ds.length c4]/\W7.ownsRow w.heap.size 41 6 (.slice (some ⟨w.heap.size+1,0,none⟩) 1 1) 1 [.int .i64 0,.int .i64 0,.slice none 0 0,.slice none 0 0,.slice none 0 0,.slice none 0 0]/\W7.ownsRow base 71 6 (.slice (some ⟨g,0,none⟩) h.bs.length c3) h.bs.length (rowsF rowR ps)/\HW W7 base hk tu bu (.slice (some ⟨g,0,none⟩) h.bs.length c3) (.slice a4 h.ds.length c4)/\BkW W7 base (.agg #[.slice t1 b'.things.length d1,.slice t2 b'.bs.length d2]) b'/\w.grownBy W7 (Value.slice (some ⟨g,0,none⟩) h.bs.length c3).ownBlock :=
       ⟨_,rfl,b2.1,E4 kRc hg2 (by simp[Value.ownBlock]),E4 hrowc hg2 (E5 hrowc kAc (by decide)),HHc.box kAc hg2,(hbk.step kAc (by decide) (by decide) hg2).low hbl,Acx (Acx hGc (A3 _) _) (A3 _) _⟩
      go_upto_region 8 with fail
      try rw[hW7]
      clear hW7 e0 e1 e2 e3 e4 e5 f0 f1 f2 f3 f4 f5 v0 v1 b1 b2 hg2 kAc kRc hrowc HHc hbk hGc kY hBc;have e4:=(D8 kA7).c6.2.2.2.2.1;have q4:World.cell? W7 ⟨g,k*6+4,none⟩=(rowsF rowR ps)[k*6+4]?:=hrow7.cellAt (k*6+4) (by omega);rw[Aar K7 ps k _ Hpk.out 4 (.int .i64 x0.si) rfl] at q4;have f4:=hrow7.frozenAt (k*6+4);have hg8:W7.grownBy (W7.setCell ⟨g,k*6+4,none⟩ (.int .i64 0)) (Value.slice (some ⟨g,0,none⟩) h.bs.length c3).ownBlock:=(B2 hrow7 _ _).2;have HH8:=HH7.asked Hx0.out hbk7 Hdk.out.1;have kA8:=E4 kA7 hg8 (E5 kA7 hrow7 (by decide));have kR8:=E4 kR7 hg8 (E5 kR7 hrow7 (by decide));have hG8:=E3 hG7 hg8;have HN:Hid (AsksTo h (k+1) {hk with sh:=b',bs:=hk.bs.set k {x0 with si:=0}}):=⟨hk,HA.out,x0,Hx0.out,.inr ⟨by omega,0,b',Hask.out,.inr ⟨rfl,rfl⟩⟩⟩;clear hrow7 HH7 hbk7 hG7 hg8 kA7 kR7;go_wp2_with fail
      go_roundw
      case rel=>exact⟨k+1,_,_,_,by omega,by go_num,HN.out,Hdk.out.2,kA8,kR8,HH8,hG8⟩
      case measure=>simp[intOf];omega
     ·have HN:Hid (AsksTo h (k+1) hk):=⟨hk,HA.out,x0,Hx0.out,.inr ⟨by omega,cd,b',Hask.out,.inl ⟨hcd,rfl⟩⟩⟩
      go_wp2_with fail
      go_roundw
      case rel=>exact⟨k+1,hk,tu,bu,by omega,by go_num,HN.out,hTk,kAc,kRc,HHc,hGc⟩
      case measure=>simp[intOf];omega
  ·obtain rfl:k=h.bs.length:=by omega
   obtain⟨y0,y1,y2,y3,y4,y5⟩:=(D8 kR).c6;obtain⟨f0,f1,f2,f3,f4,f5⟩:=(D8 kR).f6;obtain⟨t1,d1,t2,d2,qs,e9,-⟩:=HH.k.parts;simp only[Value.agg.injEq,Array.mk.injEq,List.cons.injEq,and_true] at e9;obtain⟨rfl,rfl⟩:=e9;go_wp2_with fail
   refine Aaq Tryz.results32 Tryz.underlying41 rfl J7 (D8 kR) rfl ?_;have hg9:=L0 wr (w.heap.size+1) (.int .i64 h.now) (.int .i64 h.last) (.slice t1 hk.sh.things.length d1) (.slice t2 hk.sh.bs.length d2) (.slice a3 h.bs.length c3) (.slice a4 h.ds.length c4);refine⟨⟨hk,_,_,rfl,HA.out,hTk,HH.box kR hg9⟩,?_⟩;exact⟨hg9.os.trans hG.os,hg9.tape.trans hG.tape,hg9.output.trans hG.output,B1 hG.size hg9.size,λi hi hne=>(hg9.block i (A1 hi hG.size) (by simp;omega)).trans (hG.block i hi hne)⟩
def noHouse:House:=⟨0,0,nobody,[],[]⟩
theorem Ai0 (w:World):HV w noHouse (.slice none 0 0) (.slice none 0 0) (.slice none 0 0) (.slice none 0 0) :=
 ⟨⟨none,0,rfl,by simp[noHouse,nobody],λs hs=>(by simp[noHouse,nobody] at hs),λh=>(by simp[noHouse,nobody] at h)⟩,⟨none,0,rfl,by simp[noHouse,nobody],λh=>(by simp[noHouse,nobody] at h)⟩,⟨none,0,rfl,by simp[noHouse],λh=>(by simp[noHouse] at h)⟩,⟨none,0,rfl,by simp[noHouse],λh=>(by simp[noHouse] at h)⟩⟩
theorem HouseOk.tiny {h:House} (H:HouseOk h):Tiny h.sh/\h.bs.length<=5/\h.ds.length<=20:=by
 obtain⟨-,h2,h3,h4,-⟩:=H;obtain⟨s1,s2,s3⟩:=M1 h3.book;exact⟨⟨by omega,by omega,λx hx=>by have:=s3 x hx;omega⟩,by rw[h4.1];exact s2,h2.1⟩
theorem HouseOk.batch {h:House} (H:HouseOk h) {i:Nat} {x:Rb} (hx:h.bs[i]?=some x):RbOk x:=(H.2.2.2.2.1 i x (A2.1 hx).1 hx).1
def HX (w:World) (base:Nat) (h:House) (tv bv xv dv:Value):Prop:=HW w base h tv bv xv dv∨(h=noHouse/\tv=.slice none 0 0/\bv=.slice none 0 0/\xv=.slice none 0 0/\dv=.slice none 0 0)
theorem Ano (w:World) (base:Nat):HX w base noHouse (.slice none 0 0) (.slice none 0 0) (.slice none 0 0) (.slice none 0 0):=.inr ⟨rfl,rfl,rfl,rfl,rfl⟩
theorem HX.v {w:World} {base:Nat} {h:House} {tv bv xv dv:Value} (H:HX w base h tv bv xv dv):HV w h tv bv xv dv:=by
 rcases H with H|⟨rfl,rfl,rfl,rfl,rfl⟩
 ·exact H.v
 ·exact Ai0 w
def Few (h:House):Prop:=Tiny h.sh/\h.bs.length<=1000/\h.ds.length<=1000
theorem Amy:Few noHouse:=⟨AcL,by simp[noHouse],by simp[noHouse]⟩
theorem HW.xb {w:World} {base:Nat} {h:House} {tv bv xv dv:Value} (H:HW w base h tv bv xv dv):∀k,xv.ownBlock=some k->base<=k:=λk e=>by
 obtain⟨ps,h1,-⟩:=H.x;exact (h1.1.lt k e).1
theorem Aco {w w':World} {p:Option Nat} {B:Nat} (h:w.grownBy w' p) (hB:B<=w.heap.size) (hp:∀k,p=some k->B<=k):Below B w w' :=
 ⟨h.os,h.tape,h.output,h.size,λk hk=>h.block k (A1 hk hB) (λe=>by have:=hp k e.symm;omega)⟩
def newB (h:House) (nm:ByteArray) (ps:List Ph) (sl:List Sl):Rb:=⟨nm,ps,sl,fstN ps,-1,h.last+1⟩
def CanBegin (nm:ByteArray) (ps:List Ph) (sl:List Sl):Prop:=recB ps=true/\SlotsOk ps sl/\nameB nm=true
noncomputable def startC (h:House) (nm:ByteArray) (ps:List Ph) (sl:List Sl):Int:=enterC h.sh nm (rbThings (newB h nm ps sl) (fstN ps))
noncomputable def startH (h:House) (nm:ByteArray) (ps:List Ph) (sl:List Sl):House:={h with last:=h.last+1,sh:=enterB h.sh nm (rbThings (newB h nm ps sl) (fstN ps)),bs:=h.bs++[newB h nm ps sl]}
def StartIs (h:House) (nm:ByteArray) (ps:List Ph) (sl:List Sl) (cd:Int) (h':House):Prop :=
 (¬HouseOk h/\cd=1/\h'=noHouse)∨(HouseOk h/\¬CanBegin nm ps sl/\cd=2/\h'=h)∨
 (HouseOk h/\CanBegin nm ps sl/\startC h nm ps sl≠0/\cd=startC h nm ps sl/\h'=h)∨
 (HouseOk h/\CanBegin nm ps sl/\startC h nm ps sl=0/\1000000<=h.last/\cd=4/\h'=h)∨
 (HouseOk h/\CanBegin nm ps sl/\startC h nm ps sl=0/\¬1000000<=h.last/\cd=0/\AsksTo (startH h nm ps sl) (startH h nm ps sl).bs.length h')
theorem wi_pos {ps:List Ph} (h:recB ps=true):∀p∈ps,1<=p.wi/\p.wi<=1000:=by
 obtain⟨_,_,ha⟩:=(I4 ps).1 h;intro p hp;obtain⟨i,hi,rfl⟩:=B5 hp;have hs:=ha i ps[i] hi (by simp[hi]);simp only[stepI,Bool.and_eq_true,Ph.okB,phaseB,inB,decide_eq_true_eq] at hs;exact hs.1.1.1.1.1.1.2
end Go.Proofs.YtgecdacgmehmbaaGreatDoor
namespace Go.Proofs.YtgecdacgmehmbaaGreatDoor
open Go.Maps
theorem Amz {ps:List Ph} (hok:recB ps=true) {k:Nat} (hk:k<ps.length) {nm:ByteArray} (ha:atI ps nm=(k:Int)) :
  (∀x∈keys (ofL ps[k]),x∈keys (slE ps nm))/\(∀x∈keys (slE ps (ps[k]).t),x∈keys (slE ps nm))/\∀x∈keys (slE ps (ps[k]).e),x∈keys (slE ps nm):=by
 have e:slE ps nm=bothL (bothL (ofL ps[k]) (slE ps (ps[k]).t)) (slE ps (ps[k]).e):=AfZ hok _ _ _ nm hk ha;refine⟨λx hx=>?_,λx hx=>?_,λx hx=>?_⟩
 ·rw[e];exact ((O7 _ _).1 x).2 (.inl (((O7 _ _).1 x).2 (.inl hx)))
 ·rw[e];exact ((O7 _ _).1 x).2 (.inl (((O7 _ _).1 x).2 (.inr hx)))
 ·rw[e];exact ((O7 _ _).1 x).2 (.inr hx)
theorem Am0 {ps:List Ph} (hok:recB ps=true) {k:Nat} (hk:k<ps.length) {nm:ByteArray} (he:((ps[k]).nm.toList==nm.toList)=true):atI ps nm=(k:Int):=by
 obtain rfl:=N0 (beq_iff_eq.1 he);have hs:=((Ac3 ps).1 hok).2.2 k ps[k] hk (by simp[hk]);simp only[stepS,Bool.and_eq_true,beq_iff_eq] at hs;exact hs.1.1.2
theorem Anp (p:Ph):p.a.toList∈keys (ofL p):=by
 unfold ofL;split
 ·exact ((Ad6 _ _).1 _).2 (.inl (by simp[keys]))
 ·simp[keys]
end Go.Proofs.YtgecdacgmehmbaaGreatDoor
