/- The laws' marks over books. -/
import Derived.Test.YtebfdccbmmpceaaGreatDoorJ25
import Derived.Test.YtebfdccbmmpceaaGreatDoorJ17
import Derived.Test.YtebfdccbmmpceaaGreatDoorJ16
import Derived.Test.YtebfdccbmmpceaaGreatDoorJ24
import Derived.Test.YtebfdccbmmpceaaGreatDoorKf
import Derived.Test.YtebfdccbmmpceaaGreatDoorJ2
import Derived.Test.YtebfdccbmmpceaaGreatDoorJ19
import Derived.Test.YtebfdccbmmpceaaGreatDoorJ4
set_option maxRecDepth 20000
set_option maxHeartbeats 8000000
namespace Go.Proofs.YtebfdccbmmpceaaGreatDoor
open Go.RowKit
def Out (lo hi:Nat) (w w':World):Prop:=w'.os=w.os/\w'.tape=w.tape/\w'.output=w.output/\w.heap.size<=w'.heap.size/\∀i,i<w.heap.size->(i<lo∨hi<=i)->w'.heap[i]?=w.heap[i]?
theorem Out.refl (lo hi:Nat) (w:World):Out lo hi w w:=⟨rfl,rfl,rfl,A3 _,λ_ _ _=>rfl⟩
theorem Out.grown {lo hi:Nat} {a b c:World} {q:Nat} (h:Out lo hi a b) (hg:b.grownBy c (some q)) (hq:lo<=q/\q<hi):Out lo hi a c :=
 ⟨hg.os.trans h.1,hg.tape.trans h.2.1,hg.output.trans h.2.2.1,B1 h.2.2.2.1 hg.size,λi hi hr=>(hg.block i (A1 hi h.2.2.2.1) (by simp;omega)).trans (h.2.2.2.2 i hi hr)⟩
theorem Out.up {lo hi:Nat} {a b c:World} (h:Out lo hi a b) (hb:Below b.heap.size b c):Out lo hi a c :=
 ⟨hb.os.trans h.1,hb.tape.trans h.2.1,hb.output.trans h.2.2.1,B1 h.2.2.2.1 hb.size,λi hi hr=>(hb.block i (A1 hi h.2.2.2.1)).trans (h.2.2.2.2 i hi hr)⟩
theorem Out.blk {lo hi:Nat} {a b:World} (h:Out lo hi a b) {i:Nat} (h1:i<a.heap.size) (h2:i<lo∨hi<=i):b.heap[i]?=a.heap[i]?:=h.2.2.2.2 i h1 h2
def LsR (w:World) (lo hi:Nat) (v:Value) (N:Nat):Prop:=∃bb,v=.slice (some ⟨bb,0,none⟩) N N/\w.there bb 0 N/\lo<=bb/\bb<hi/\hi<=w.heap.size
theorem LsR.thr {w w':World} {lo hi:Nat} {v:Value} {N:Nat} (h:LsR w lo hi v N) (ht:Thr w w') (hz:w.heap.size<=w'.heap.size):LsR w' lo hi v N:=by
 obtain⟨bb,rfl,h1,h2,h3,h4⟩:=h;exact⟨bb,rfl,ht bb N (by omega) h1,h2,h3,by omega⟩
theorem LsO.lsR {w:World} {lo base:Nat} {v:Value} {ss:List ByteArray} (h:LsO w base v ss) (hb:lo<=base):LsR w lo w.heap.size v ss.length:=by
 obtain⟨b,rfl,-,ht,h0,h2,-⟩:=h;exact⟨b,rfl,ht,by omega,h2,A3 _⟩
def BaR (w:World) (hi b0 o:Nat) (x:Ba):Prop:=∃hv nv,w.cell? ⟨b0,o+1,none⟩=some hv/\w.cell? ⟨b0,o+2,none⟩=some nv/\LsR w (b0+1) hi hv x.has.length/\LsR w (b0+1) hi nv x.needs.length
def BsR (w:World) (lo hi b0:Nat) (bs:List Ba):Prop:=w.there b0 0 (bs.length*3)/\lo<=b0/\b0<hi/\hi<=w.heap.size/\∀(i:Nat) (x:Ba),bs[i]?=some x->BaR w hi b0 (i*3) x
theorem BaR.keep {w w':World} {hi b0 o:Nat} {x:Ba} (h:BaR w hi b0 o x) (ht:Thr w w') (hz:w.heap.size<=w'.heap.size) (h1:w'.cell? ⟨b0,o+1,none⟩=w.cell? ⟨b0,o+1,none⟩) (h2:w'.cell? ⟨b0,o+2,none⟩=w.cell? ⟨b0,o+2,none⟩):BaR w' hi b0 o x:=by
 obtain⟨hv,nv,c1,c2,l1,l2⟩:=h;exact⟨hv,nv,h1.trans c1,h2.trans c2,l1.thr ht hz,l2.thr ht hz⟩
theorem BsR.other {w w':World} {lo hi b0 q:Nat} {bs:List Ba} (h:BsR w lo hi b0 bs) (hg:w.grownBy w' (some q)) (ht:Thr w w') (hq:q≠b0):BsR w' lo hi b0 bs:=by
 obtain⟨h1,h2,h3,h4,h5⟩:=h;have hk:=hg.block b0 (by omega) (by simp;omega);exact⟨ht _ _ (by omega) h1,h2,h3,B1 h4 hg.size,λi x hx=>(h5 i x hx).keep ht hg.size (C3 (w:=w) hk) (C3 (w:=w) hk)⟩
theorem BsR.up {w w':World} {lo hi b0:Nat} {bs:List Ba} (h:BsR w lo hi b0 bs) (hb:Below w.heap.size w w'):BsR w' lo hi b0 bs:=by
 obtain⟨h1,h2,h3,h4,h5⟩:=h;have hk:=hb.block b0 (by omega);exact⟨I8 h1 hb (by omega),h2,h3,B1 h4 hb.size,λi x hx=>(h5 i x hx).keep (AeA hb) hb.size (C3 (w:=w) hk) (C3 (w:=w) hk)⟩
theorem BsR.name {w:World} {lo hi b0 k:Nat} {bs:List Ba} (h:BsR w lo hi b0 bs) (u:Value):BsR (w.setCell ⟨b0,k*3,none⟩ u) lo hi b0 bs:=by
 obtain⟨h1,h2,h3,h4,h5⟩:=h;refine⟨S5 _ _ (by omega) h1,h2,h3,by simpa using h4,λi x hx=>(h5 i x hx).keep S5 (by simp) ?_ ?_⟩
 ·exact C0 _ _ _ _ (by simp<;>omega)
 ·exact C0 _ _ _ _ (by simp<;>omega)
theorem BsO.bsR {w:World} {base lo:Nat} {v:Value} {bs:List Ba} (h:BsO w base v bs) (hb:lo<=base):∃b0,v=.slice (some ⟨b0,0,none⟩) bs.length bs.length/\BsR w lo w.heap.size b0 bs:=by
 obtain⟨b0,rfl,h1,ht,h0,h2,-⟩:=h;refine⟨b0,rfl,ht,by omega,h2,A3 _,λi x hx=>?_⟩;obtain⟨hv,nv,hr,l1,l2,-⟩:=h1 i x hx;exact⟨hv,nv,hr 1 _ rfl,hr 2 _ rfl,l1.lsR (A3 _),l2.lsR (A3 _)⟩
theorem AmN (bs:List Ba) (lo hi b0:Nat) (m:Int) (w:World) (h:BsR w lo hi b0 bs) (hn:bs.length<=1048576) (hsm:∀x∈bs,x.has.length<=1048576/\x.needs.length<=1048576) (hm:1<=m) (hm9:m<=2000000) :
  Calls Tryz.prog 64 #[.slice (some ⟨b0,0,none⟩) bs.length bs.length,.int .i64 m] w λe w'=>(∃k:Int,e=.returned (.int .i64 k)/\1<=k/\k<=3000000000000)/\Out lo hi w w':=by
 go_enter Tryz.func64,Tryz.ntmps64
 go_wp2
 go_loopw [1,5] (λkk i w'=>∃(k:Nat) (y:Int),k<=bs.length/\i=.int .i64 k/\kk=.int .i64 y/\1<=y/\y<=2000000+2097153*(k:Int)/\BsR w' lo hi b0 bs/\Out lo hi w w') (λ_ i _=>bs.length-(intOf i).toNat)
 case atStart=>exact⟨0,m,by omega,rfl,rfl,hm,by omega,h,Out.refl _ _ _⟩
 case round =>
  clear h;obtain⟨k,y,hk,rfl,rfl,hy,hy9,hR,hO⟩:=hrel;by_cases hp:k<bs.length
  ·obtain⟨s1,s2⟩:=hsm bs[k] (by simp)
   have Hx:Hid (bs[k]?=some bs[k]):=A0 hp;generalize bs[k]=x0 at *;go_wp2_with fail
   refine (F7 y wr (by omega)).mono ?_;rintro e w1 ⟨rfl,hB1⟩;have hR1:=hR.up hB1;have hO1:=hO.up hB1;obtain⟨ht,hlo,hhi,hsz,-⟩:=id hR1;have hc:=ht (k*3) (by omega);rw[Nat.zero_add] at hc;obtain⟨z0,c0⟩:=Option.isSome_iff_exists.1 hc.1;have f0:=hc.2;have hR2:=hR1.name (k:=k) (.string (mkB y));have hO2:=hO1.grown (E0 (off:=k*3) (E4 w1 (some b0)) (.string (mkB y))) ⟨hlo,hhi⟩;clear hR hO hB1 hR1 hO1 hc ht;generalize mkB y=mb at *;go_upto_region 6 with fail
   clear c0 f0;generalize w1.setCell ⟨b0,k*3,none⟩ (.string mb)=W2 at *;obtain⟨hv,nv,c1,c2,⟨bh,rfl,th,hl1,hl2,hl3⟩,-⟩:=hR2.2.2.2.2 k x0 Hx.out;go_wp2_with fail
   refine (Aef x0.has.length bh (y+1) _ th (by omega) s1 (by omega) (by omega)).mono ?_;rintro e w3 ⟨rfl,hg3,ht3⟩;have hR3:=hR2.other hg3 ht3 (by omega);have hO3:=hO2.grown hg3 ⟨by omega,hl2⟩;clear hR2 hO2 c1 c2 th hg3 ht3;obtain⟨hv,nv,c1,c2,-,⟨bn,rfl,tn,hn1,hn2,hn3⟩⟩:=hR3.2.2.2.2 k x0 Hx.out;go_wp2_with fail
   refine (Aef x0.needs.length bn (y+1+x0.has.length) _ tn (by omega) s2 (by omega) (by omega)).mono ?_;rintro e w4 ⟨rfl,hg4,ht4⟩;have hR4:=hR3.other hg4 ht4 (by omega);have hO4:=hO3.grown hg4 ⟨by omega,hn2⟩;clear hR3 hO3 c1 c2 tn hg4 ht4;go_wp2_with fail
   go_roundw
   case rel=>exact⟨k+1,_,by omega,by go_num,rfl,by omega,by omega,hR4,hO4⟩
   case measure=>simp[intOf];omega
  ·go_wp2_with fail
   go_ret
   exact⟨⟨_,rfl,hy,by omega⟩,hO⟩
theorem CB.blk {w w':World} {b:Nat} {cs:List Value} (h:CB w b cs) (hb:w'.heap[b]?=w.heap[b]?) (hz:w.heap.size<=w'.heap.size):CB w' b cs:=by
 refine⟨λj v hv=>?_,λj hj=>?_,A1 h.2.2 hz⟩
 ·rw[C3 (w:=w) (a:=⟨b,0+j,none⟩) hb];exact h.1 j v hv
 ·rw[C3 (w:=w) (a:=⟨b,0+j,none⟩) hb,World.frozen?_of_block (w:=w) (a:=⟨b,0+j,none⟩) hb];exact h.2.1 j hj
def BkR (w:World) (lo hi:Nat) (v:Value) (b:Bk):Prop:=∃bt b0 mid,v=.agg #[.slice (some ⟨bt,0,none⟩) b.things.length b.things.length,.slice (some ⟨b0,0,none⟩) b.bs.length b.bs.length]/\w.there bt 0 b.things.length/\lo<=bt/\bt<hi/\bt<mid/\lo<=mid/\hi<=w.heap.size/\BsR w mid hi b0 b.bs
theorem BkO.bkR {w:World} {base:Nat} {v:Value} {b:Bk} (h:BkO w base v b):BkR w base w.heap.size v b:=by
 obtain⟨tv,bv,mid,rfl,h1,h2,hmid,hown⟩:=h;obtain⟨bt,rfl,tt,hb1,hb2,hb3⟩:=h1.lsR (A3 _);have hbm:=hown bt rfl;obtain⟨b0,rfl,hR⟩:=h2.bsR (A3 _);exact⟨bt,b0,mid,rfl,tt,hb1,hb2,hbm,hmid,A3 _,hR⟩
theorem BkR.up {w w':World} {lo hi:Nat} {v:Value} {b:Bk} (h:BkR w lo hi v b) (hb:Below w.heap.size w w'):BkR w' lo hi v b:=by
 obtain⟨bt,b0,mid,rfl,h1,h2,h3,h4,h5,h6,h7⟩:=h;exact⟨bt,b0,mid,rfl,I8 h1 hb (by omega),h2,h3,h4,h5,B1 h6 hb.size,h7.up hb⟩
theorem AjK (b:Bk) (lo hi:Nat) (v:Value) (w:World) (h:BkR w lo hi v b) (hs:Small b) :
  Calls Tryz.prog 26 #[v,.int .i64 1] w λe w'=>(∃k:Int,e=.returned (.int .i64 k)/\1<=k/\k<=3000000000000)/\Out lo hi w w':=by
 obtain⟨bt,b0,mid,rfl,tt,hb1,hb2,hbm,hmid,hb3,hR⟩:=h;obtain⟨g1,g2,g3⟩:=hs;have hb0:=hR.2.1;obtain⟨W1,hW1,kA,hB1,hs1⟩:=K9 w [.slice (some ⟨bt,0,none⟩) b.things.length b.things.length,.slice (some ⟨b0,0,none⟩) b.bs.length b.bs.length] 33;have hR1:=hR.up hB1;have tt1:=I8 tt hB1 (by omega);have hO1:=(Out.refl lo hi w).up hB1;go_enter Tryz.func26,Tryz.ntmps26
 go_upto_region 1 with fail
 try rw[hW1]
 clear hW1 hR tt;obtain⟨p0,p1⟩:=kA.c2';go_wp2_with fail
 refine (Aef b.things.length bt 1 _ tt1 (by omega) g1 (by omega) (by omega)).mono ?_;rintro e w2 ⟨rfl,hg2,ht2⟩;have hR2:=hR1.other hg2 ht2 (by omega);have hO2:=hO1.grown hg2 ⟨hb1,hb2⟩;have kA2:=kA.kept hg2 (by simp;omega);clear p0 p1 kA hR1 hO1 hg2 ht2 tt1;obtain⟨p0,p1⟩:=kA2.c2';go_wp2_with fail
 refine (AmN b.bs mid hi b0 (1+b.things.length) _ hR2 g2 g3 (by omega) (by omega)).mono ?_;rintro e w3 ⟨⟨k,rfl,hk1⟩,hO3⟩;have hO4:Out lo hi w w3:=⟨hO3.1.trans hO2.1,hO3.2.1.trans hO2.2.1,hO3.2.2.1.trans hO2.2.2.1,B1 hO2.2.2.2.1 hO3.2.2.2.1,λi hi hr=>(hO3.2.2.2.2 i (A1 hi hO2.2.2.2.1) (by omega)).trans (hO2.2.2.2.2 i hi hr)⟩;clear p0 p1;go_wp2_with fail
 go_ret
 exact⟨⟨_,rfl,hk1⟩,hO4⟩
theorem I9 {w:World} {b n j:Nat} (h:w.there b 0 n) (hj:j<n):(∃x,w.cell? ⟨b,j,none⟩=some x)/\w.frozen? ⟨b,j,none⟩=false:=by
 have:=h j hj;rw[Nat.zero_add] at this;exact⟨Option.isSome_iff_exists.1 this.1,this.2⟩
def MkR (w0 w:World) (b N:Nat):Prop:=w.there b 0 N/\b<w.heap.size/\w0.grownBy w (some b)/\Thr w0 w
theorem MkR.set {w0 w:World} {b N:Nat} (h:MkR w0 w b N) (off:Nat) (u:Value):MkR w0 (w.setCell ⟨b,off,none⟩ u) b N :=
 ⟨S5 b N h.2.1 h.1,by simpa using h.2.1,E0 h.2.2.1 u,h.2.2.2.trans h.2.2.1.size S5⟩
theorem MkR.below {w0 w w':World} {b N:Nat} (h:MkR w0 w b N) (hB:Below w.heap.size w w'):MkR w0 w' b N :=
 ⟨I8 h.1 hB h.2.1,A1 h.2.1 hB.size,E3 h.2.2.1 (L3 hB),h.2.2.2.trans h.2.2.1.size (AeA hB)⟩
theorem AjL (N b c:Nat) (m:Int) (w:World) (ht:w.there b 0 (N*8)) (hb:b<w.heap.size) (hN:N<=1048576) (hm:1<=m) (hm9:m<=8000000000000000000) :
  Calls Tryz.prog 66 #[.slice (some ⟨b,0,none⟩) N c,.int .i64 m] w λe w'=>e=.returned (.int .i64 (m+8*N))/\w.grownBy w' (some b)/\Thr w w':=by
 go_enter Tryz.func66,Tryz.ntmps66
 go_wp2
 go_loopw [1,5] (λkk i w'=>∃k:Nat,k<=N/\i=.int .i64 k/\kk=.int .i64 (m+8*(k:Int))/\MkR w w' b (N*8)) (λ_ i _=>N-(intOf i).toNat)
 case atStart=>exact⟨0,by omega,rfl,by simp,ht,hb,E4 _ _,λ_ _ _ h=>h⟩
 case round =>
  clear ht;obtain⟨k,hk,rfl,rfl,hS0⟩:=hrel;by_cases hp:k<N
  ·have hk9:k*8+8<=N*8:=by omega
   go_wp2_with fail
   refine (F7 _ _ (by omega)).mono ?_;rintro e w1 ⟨rfl,hB1⟩;have hS1:=hS0.below hB1;clear hB1 hS0;obtain⟨⟨x0,c0⟩,f0⟩:=I9 hS1.1 (j:=k*8) (by omega);obtain⟨⟨x1,c1⟩,f1⟩:=I9 hS1.1 (j:=k*8+1) (by omega);generalize mkB _=s1 at *;have hT1:=(hS1.set (k*8) (.string s1)).set (k*8+1) (.int .i64 (m+8*(k:Int)+1));go_wp2_with fail
   refine (F7 _ _ (by omega)).mono ?_;rintro e w2 ⟨rfl,hB2⟩;have hS2:=hT1.below hB2;clear hB2 hT1;obtain⟨⟨x2,c2⟩,f2⟩:=I9 hS2.1 (j:=k*8+2) (by omega);generalize mkB _=s2 at *;have hT2:=hS2.set (k*8+2) (.string s2);go_wp2_with fail
   refine (F7 _ _ (by omega)).mono ?_;rintro e w3 ⟨rfl,hB3⟩;have hS3:=hT2.below hB3;clear hB3 hT2;obtain⟨⟨x3,c3⟩,f3⟩:=I9 hS3.1 (j:=k*8+3) (by omega);obtain⟨⟨x4,c4⟩,f4⟩:=I9 hS3.1 (j:=k*8+4) (by omega);obtain⟨⟨x5,c5⟩,f5⟩:=I9 hS3.1 (j:=k*8+5) (by omega);generalize mkB _=s3 at *;have hT3:=((hS3.set (k*8+3) (.string s3)).set (k*8+4) (.int .i64 (m+8*(k:Int)+1+1+1+1))).set (k*8+5) (.int .i64 (m+8*(k:Int)+1+1+1+1+1));go_wp2_with fail
   refine (F7 _ _ (by omega)).mono ?_;rintro e w4 ⟨rfl,hB4⟩;have hS4:=hT3.below hB4;clear hB4 hT3;obtain⟨⟨x6,c6⟩,f6⟩:=I9 hS4.1 (j:=k*8+6) (by omega);generalize mkB _=s4 at *;have hT4:=hS4.set (k*8+6) (.string s4);go_wp2_with fail
   refine (F7 _ _ (by omega)).mono ?_;rintro e w5 ⟨rfl,hB5⟩;have hS5:=hT4.below hB5;clear hB5 hT4;obtain⟨⟨x7,c7⟩,f7⟩:=I9 hS5.1 (j:=k*8+7) (by omega);generalize mkB _=s5 at *;have hT5:=hS5.set (k*8+7) (.string s5);go_wp2_with fail
   go_roundw
   case rel=>exact⟨k+1,by omega,by go_num,by go_num,hT5⟩
   case measure=>simp[intOf];omega
  ·obtain rfl:k=N:=by omega
   go_wp2_with fail
   go_ret
   exact⟨rfl,hS0.2.2.1,hS0.2.2.2⟩
theorem AjM (N b c:Nat) (m:Int) (w:World) (ht:w.there b 0 (N*2)) (hb:b<w.heap.size) (hN:N<=1048576) (hm:1<=m) (hm9:m<=8000000000000000000) :
  Calls Tryz.prog 67 #[.slice (some ⟨b,0,none⟩) N c,.int .i64 m] w λe w'=>e=.returned (.int .i64 (m+2*N))/\w.grownBy w' (some b)/\Thr w w':=by
 go_enter Tryz.func67,Tryz.ntmps67
 go_wp2
 go_loopw [1,5] (λkk i w'=>∃k:Nat,k<=N/\i=.int .i64 k/\kk=.int .i64 (m+2*(k:Int))/\MkR w w' b (N*2)) (λ_ i _=>N-(intOf i).toNat)
 case atStart=>exact⟨0,by omega,rfl,by simp,ht,hb,E4 _ _,λ_ _ _ h=>h⟩
 case round =>
  clear ht;obtain⟨k,hk,rfl,rfl,hS0⟩:=hrel;by_cases hp:k<N
  ·have hk9:k*2+2<=N*2:=by omega
   go_wp2_with fail
   refine (F7 _ _ (by omega)).mono ?_;rintro e w1 ⟨rfl,hB1⟩;have hS1:=hS0.below hB1;clear hB1 hS0;obtain⟨⟨x0,c0⟩,f0⟩:=I9 hS1.1 (j:=k*2) (by omega);generalize mkB _=s1 at *;have hT1:=hS1.set (k*2) (.string s1);go_wp2_with fail
   refine (F7 _ _ (by omega)).mono ?_;rintro e w2 ⟨rfl,hB2⟩;have hS2:=hT1.below hB2;clear hB2 hT1;obtain⟨⟨x1,c1⟩,f1⟩:=I9 hS2.1 (j:=k*2+1) (by omega);generalize mkB _=s2 at *;have hT2:=hS2.set (k*2+1) (.string s2);go_wp2_with fail
   go_roundw
   case rel=>exact⟨k+1,by omega,by go_num,by go_num,hT2⟩
   case measure=>simp[intOf];omega
  ·obtain rfl:k=N:=by omega
   go_wp2_with fail
   go_ret
   exact⟨rfl,hS0.2.2.1,hS0.2.2.2⟩
theorem AjN (N b c:Nat) (m:Int) (w:World) (ht:w.there b 0 (N*3)) (hb:b<w.heap.size) (hN:N<=1048576) (hm:1<=m) (hm9:m<=8000000000000000000) :
  Calls Tryz.prog 28 #[.slice (some ⟨b,0,none⟩) N c,.int .i64 m] w λe w'=>e=.returned (.int .i64 (m+3*N))/\w.grownBy w' (some b)/\Thr w w':=by
 go_enter Tryz.func28,Tryz.ntmps28
 go_wp2
 go_loopw [1,5] (λkk i w'=>∃k:Nat,k<=N/\i=.int .i64 k/\kk=.int .i64 (m+3*(k:Int))/\MkR w w' b (N*3)) (λ_ i _=>N-(intOf i).toNat)
 case atStart=>exact⟨0,by omega,rfl,by simp,ht,hb,E4 _ _,λ_ _ _ h=>h⟩
 case round =>
  clear ht;obtain⟨k,hk,rfl,rfl,hS0⟩:=hrel;by_cases hp:k<N
  ·have hk9:k*3+3<=N*3:=by omega
   go_wp2_with fail
   refine (F7 _ _ (by omega)).mono ?_;rintro e w1 ⟨rfl,hB1⟩;have hS1:=hS0.below hB1;clear hB1 hS0;obtain⟨⟨x0,c0⟩,f0⟩:=I9 hS1.1 (j:=k*3) (by omega);obtain⟨⟨x1,c1⟩,f1⟩:=I9 hS1.1 (j:=k*3+1) (by omega);obtain⟨⟨x2,c2⟩,f2⟩:=I9 hS1.1 (j:=k*3+2) (by omega);generalize mkB _=s1 at *;have hT1:=((hS1.set (k*3) (.string s1)).set (k*3+1) (.int .i64 (m+3*(k:Int)+1))).set (k*3+2) (.int .i64 (m+3*(k:Int)+1+1));go_wp2_with fail
   go_roundw
   case rel=>exact⟨k+1,by omega,by go_num,by go_num,hT1⟩
   case measure=>simp[intOf];omega
  ·obtain rfl:k=N:=by omega
   go_wp2_with fail
   go_ret
   exact⟨rfl,hS0.2.2.1,hS0.2.2.2⟩
def RsR (w:World) (lo hi b0:Nat) (bs:List Rb):Prop:=w.there b0 0 (bs.length*6)/\lo<=b0/\b0<hi/\hi<=w.heap.size/\∀(i:Nat) (x:Rb),bs[i]?=some x->∃b1 b2,w.cell? ⟨b0,i*6+1,none⟩=some (.slice (some ⟨b1,0,none⟩) x.ps.length x.ps.length)/\w.cell? ⟨b0,i*6+2,none⟩=some (.slice (some ⟨b2,0,none⟩) x.sl.length x.sl.length)/\w.there b1 0 (x.ps.length*8)/\w.there b2 0 (x.sl.length*2)/\b0<b1/\b1<hi/\b0<b2/\b2<hi
theorem RsR.keep {w w':World} {lo hi b0:Nat} {bs:List Rb} (h:RsR w lo hi b0 bs) (ht:Thr w w') (hz:w.heap.size<=w'.heap.size) (hc:∀i,w'.cell? ⟨b0,i*6+1,none⟩=w.cell? ⟨b0,i*6+1,none⟩/\w'.cell? ⟨b0,i*6+2,none⟩=w.cell? ⟨b0,i*6+2,none⟩):RsR w' lo hi b0 bs:=by
 obtain⟨h1,h2,h3,h4,h5⟩:=h;refine⟨ht _ _ (by omega) h1,h2,h3,B1 h4 hz,λi x hx=>?_⟩;obtain⟨b1,b2,e1,e2,t1,t2,l1,l2,l3,l4⟩:=h5 i x hx;exact⟨b1,b2,(hc i).1.trans e1,(hc i).2.trans e2,ht _ _ (by omega) t1,ht _ _ (by omega) t2,l1,l2,l3,l4⟩
theorem RsR.other {w w':World} {lo hi b0 q:Nat} {bs:List Rb} (h:RsR w lo hi b0 bs) (hg:w.grownBy w' (some q)) (ht:Thr w w') (hq:q≠b0):RsR w' lo hi b0 bs:=by
 have hk:=hg.block b0 (by have:=h.2.2.1;have:=h.2.2.2.1;omega) (by simp;omega);exact h.keep ht hg.size λi=>⟨C3 (w:=w) hk,C3 (w:=w) hk⟩
theorem RsR.up {w w':World} {lo hi b0:Nat} {bs:List Rb} (h:RsR w lo hi b0 bs) (hb:Below w.heap.size w w'):RsR w' lo hi b0 bs:=by
 have hk:=hb.block b0 (by have:=h.2.2.1;have:=h.2.2.2.1;omega);exact h.keep (AeA hb) hb.size λi=>⟨C3 (w:=w) hk,C3 (w:=w) hk⟩
theorem RsR.put {w:World} {lo hi b0 k j:Nat} {bs:List Rb} (h:RsR w lo hi b0 bs) (u:Value) (hj:j=0∨j=3∨j=4∨j=5):RsR (w.setCell ⟨b0,k*6+j,none⟩ u) lo hi b0 bs :=
 h.keep S5 (by simp) λi=>⟨C0 _ _ _ _ (by simp<;>omega),C0 _ _ _ _ (by simp<;>omega)⟩
theorem AaC {w w':World} {lo hi b n:Nat} (h:w.there b 0 n) (ho:Out lo hi w w') (h1:b<w.heap.size) (h2:b<lo∨hi<=b):w'.there b 0 n:=λj hj=>by
 have hk:=ho.blk h1 h2;rw[C3 (w:=w) (a:=⟨b,0+j,none⟩) hk,World.frozen?_of_block (w:=w) (a:=⟨b,0+j,none⟩) hk];exact h j hj
theorem RsR.out {w w':World} {lo hi l2 h2 b0:Nat} {bs:List Rb} (h:RsR w l2 h2 b0 bs) (ho:Out lo hi w w') (hl:hi<=l2):RsR w' l2 h2 b0 bs:=by
 obtain⟨h1,k2,k3,k4,h5⟩:=h;have hk:=ho.blk (i:=b0) (by omega) (by omega);refine⟨AaC h1 ho (by omega) (by omega),k2,k3,B1 k4 ho.2.2.2.1,λi x hx=>?_⟩;obtain⟨b1,b2,e1,e2,t1,t2,l1,l2,l3,l4⟩:=h5 i x hx;exact⟨b1,b2,(C3 (w:=w) hk).trans e1,(C3 (w:=w) hk).trans e2,AaC t1 ho (by omega) (by omega),AaC t2 ho (by omega) (by omega),l1,l2,l3,l4⟩
theorem Out.wide {lo hi lo' hi':Nat} {w w':World} (h:Out lo hi w w') (h1:lo'<=lo) (h2:hi<=hi'):Out lo' hi' w w':=⟨h.1,h.2.1,h.2.2.1,h.2.2.2.1,λi hi hr=>h.2.2.2.2 i hi (by omega)⟩
theorem Out.trans {lo hi:Nat} {a b c:World} (h:Out lo hi a b) (k:Out lo hi b c):Out lo hi a c:=⟨k.1.trans h.1,k.2.1.trans h.2.1,k.2.2.1.trans h.2.2.1,B1 h.2.2.2.1 k.2.2.2.1,λi hi hr=>(k.2.2.2.2 i (A1 hi h.2.2.2.1) hr).trans (h.2.2.2.2 i hi hr)⟩
theorem Aic (bs:List Rb) (lo hi b0:Nat) (m:Int) (w:World) (h:RsR w lo hi b0 bs) (hn:bs.length<=1048576) (hsm:∀x∈bs,x.ps.length<=1048576/\x.sl.length<=1048576) (hm:1<=m) (hm9:m<=3000000000000) :
  Calls Tryz.prog 27 #[.slice (some ⟨b0,0,none⟩) bs.length bs.length,.int .i64 m] w λe w'=>(∃k:Int,e=.returned (.int .i64 k)/\1<=k/\k<=20000000000000)/\Out lo hi w w':=by
 go_enter Tryz.func27,Tryz.ntmps27
 go_wp2
 go_loopw [1,5] (λkk i w'=>∃(k:Nat) (y:Int),k<=bs.length/\i=.int .i64 k/\kk=.int .i64 y/\1<=y/\y<=3000000000000+10485764*(k:Int)/\RsR w' lo hi b0 bs/\Out lo hi w w') (λ_ i _=>bs.length-(intOf i).toNat)
 case atStart=>exact⟨0,m,by omega,rfl,rfl,hm,by omega,h,Out.refl _ _ _⟩
 case round =>
  clear h;obtain⟨k,y,hk,rfl,rfl,hy,hy9,hR,hO⟩:=hrel;by_cases hp:k<bs.length
  ·obtain⟨s1,s2⟩:=hsm bs[k] (by simp)
   have Hx:Hid (bs[k]?=some bs[k]):=A0 hp;generalize bs[k]=x0 at *;have hk9:k*6+6<=bs.length*6:=by omega
   go_wp2_with fail
   refine (F7 y wr (by omega)).mono ?_;rintro e w1 ⟨rfl,hB1⟩;have hR1:=hR.up hB1;have hO1:=hO.up hB1;obtain⟨ht,hlo,hhi,hsz,-⟩:=id hR1;obtain⟨⟨z0,c0⟩,f0⟩:=I9 ht (j:=k*6) (by omega);have hR2:=hR1.put (k:=k) (j:=0) (.string (mkB y)) (by omega);have hO2:=hO1.grown (E0 (off:=k*6+0) (E4 w1 (some b0)) (.string (mkB y))) ⟨hlo,hhi⟩;rw[Nat.add_zero] at hR2 hO2;clear hR hO hB1 hR1 hO1 ht;generalize mkB y=mb at *;go_upto_region 6 with fail
   clear c0 f0;generalize w1.setCell ⟨b0,k*6,none⟩ (.string mb)=W2 at *;obtain⟨b1,b2,c1,c2,t1,t2,l1,l2,l3,l4⟩:=hR2.2.2.2.2 k x0 Hx.out;have hz2:=hR2.2.2.2.1;go_wp2_with fail
   refine (AjL x0.ps.length b1 _ (y+1) _ t1 (by omega) s1 (by omega) (by omega)).mono ?_;rintro e w3 ⟨rfl,hg3,ht3⟩;have hR3:=hR2.other hg3 ht3 (by omega);have hO3:=hO2.grown hg3 ⟨by omega,l2⟩;clear hR2 hO2 c1 c2 t1 t2 hg3 ht3 l1 l2 l3 l4 hz2;obtain⟨b1,b2,c1,c2,t1,t2,l1,l2,l3,l4⟩:=hR3.2.2.2.2 k x0 Hx.out;have hz3:=hR3.2.2.2.1;go_wp2_with fail
   refine (AjM x0.sl.length b2 _ (y+1+8*x0.ps.length) _ t2 (by omega) s2 (by omega) (by omega)).mono ?_;rintro e w4 ⟨rfl,hg4,ht4⟩;have hR4:=hR3.other hg4 ht4 (by omega);have hO4:=hO3.grown hg4 ⟨by omega,l4⟩;clear hR3 hO3 c1 c2 t1 t2 hg4 ht4 l1 l2 l3 l4 hz3;obtain⟨z,hzz⟩:∃z:Int,z=y+1+8*x0.ps.length+2*x0.sl.length:=⟨_,rfl⟩;rw[← hzz];have hz1:1<=z:=by omega
   have hz9:z+3<=3000000000000+10485764*((k:Int)+1):=by omega
   clear hzz;go_wp2_with fail
   refine (F7 z w4 (by omega)).mono ?_;rintro e w5 ⟨rfl,hB5⟩;have hR5:=hR4.up hB5;have hO5:=hO4.up hB5;obtain⟨⟨z3,c3⟩,f3⟩:=I9 hR5.1 (j:=k*6+3) (by omega);obtain⟨⟨z4,c4⟩,f4⟩:=I9 hR5.1 (j:=k*6+4) (by omega);obtain⟨⟨z5,c5⟩,f5⟩:=I9 hR5.1 (j:=k*6+5) (by omega);generalize mkB z=mb2 at *;have hR6:=((hR5.put (k:=k) (j:=3) (.string mb2) (by omega)).put (k:=k) (j:=4) (.int .i64 (z+1)) (by omega)).put (k:=k) (j:=5) (.int .i64 (z+1+1)) (by omega);have hO6:=hO5.grown (E0 (off:=k*6+5) (E0 (off:=k*6+4) (E0 (off:=k*6+3) (E4 w5 (some b0)) (.string mb2)) (.int .i64 (z+1))) (.int .i64 (z+1+1))) ⟨hlo,hhi⟩;clear hR4 hO4 hR5 hO5 hB5;have Hz9:Hid (z+3<=3000000000000+10485764*((k:Int)+1)):=hz9;go_wp2_with fail
   go_roundw
   case rel=>exact⟨k+1,_,by omega,by go_num,rfl,by omega,by have:=Hz9.out;omega,hR6,hO6⟩
   case measure=>simp[intOf];omega
  ·go_wp2_with fail
   go_ret
   exact⟨⟨_,rfl,hy,by omega⟩,hO⟩
structure HR (w:World) (l0 l1 l2 l3:Nat) (h:House) (tv bv:Value) (b:Nat) (gd:Nat):Prop where
 k:BkR w l0 l1 (.agg #[tv,bv]) h.sh
 x:RsR w l1 l2 b h.bs
 d:w.there gd 0 (h.ds.length*3)
 g0:l2<=gd
 g1:gd<l3
 z0:l0<=l1
 z1:l1<=l2
 z3:l3<=w.heap.size
theorem HR.up {w w':World} {l0 l1 l2 l3 b gd:Nat} {h:House} {tv bv:Value} (H:HR w l0 l1 l2 l3 h tv bv b gd) (hb:Below w.heap.size w w'):HR w' l0 l1 l2 l3 h tv bv b gd :=
 ⟨H.k.up hb,H.x.up hb,I8 H.d hb (by have:=H.g1;have:=H.z3;omega),H.g0,H.g1,H.z0,H.z1,B1 H.z3 hb.size⟩
theorem Afb (h:House) (tv bv:Value) (l0 l1 l2 l3 b gd:Nat) (w:World) (H:HR w l0 l1 l2 l3 h tv bv b gd) (hs:Small h.sh) (hn:h.bs.length<=1048576) (hsm:∀x∈h.bs,x.ps.length<=1048576/\x.sl.length<=1048576) (hd:h.ds.length<=1048576) :
  Calls Tryz.prog 9 #[.agg #[.int .i64 h.now,.int .i64 h.last,tv,bv,.slice (some ⟨b,0,none⟩) h.bs.length h.bs.length,.slice (some ⟨gd,0,none⟩) h.ds.length h.ds.length],.int .i64 1] w λe w'=>(∃k:Int,e=.returned (.int .i64 k)/\1<=k)/\Out l0 l3 w w':=by
 obtain⟨bt,bb,mid,e,-⟩:=id H.k;simp at e;obtain⟨rfl,rfl⟩:=e;have hz:=H.z3;have hz0:=H.z0;have hz1:=H.z1;have hg0:=H.g0;have hg1:=H.g1;have hx2:=H.x.2.2.1;obtain⟨W1,hW1,kA,hB1,hs1⟩:=K9 w [.int .i64 h.now,.int .i64 h.last,.slice (some ⟨bt,0,none⟩) h.sh.things.length h.sh.things.length,.slice (some ⟨bb,0,none⟩) h.sh.bs.length h.sh.bs.length,.slice (some ⟨b,0,none⟩) h.bs.length h.bs.length,.slice (some ⟨gd,0,none⟩) h.ds.length h.ds.length] 37;have H1:=H.up hB1;have hO1:=(Out.refl l0 l3 w).up hB1;clear H;go_enter Tryz.func9,Tryz.ntmps9
 go_upto_region 1 with fail
 try rw[hW1]
 clear hW1;obtain⟨e0,e1,e2,e3,e4,e5⟩:=kA.c6;go_wp2_with fail
 refine (AjK h.sh l0 l1 _ W1 H1.k hs).mono ?_;rintro e w2 ⟨⟨k2,rfl,hk2,hk2'⟩,ho2⟩;have hz2:=ho2.2.2.2.1;have kA2:=kA.blk (ho2.blk (by omega) (by omega)) hz2;have hx:=H1.x.out ho2 (A3 _);have hdd:=AaC H1.d ho2 (by omega) (by omega);have hO2:=hO1.trans (ho2.wide (A3 _) (by omega));clear e0 e1 e2 e3 e4 e5 kA hO1 ho2 H1;obtain⟨e0,e1,e2,e3,e4,e5⟩:=kA2.c6;go_wp2_with fail
 refine (Aic h.bs l1 l2 b k2 w2 hx hn hsm hk2 hk2').mono ?_;rintro e w3 ⟨⟨k3,rfl,hk3,hk3'⟩,ho3⟩;have hz3:=ho3.2.2.2.1;have kA3:=kA2.blk (ho3.blk (by omega) (by omega)) hz3;have hd3:=AaC hdd ho3 (by omega) (by omega);have hO3:=hO2.trans (ho3.wide (by omega) (by omega));clear e0 e1 e2 e3 e4 e5 kA2 hO2 ho3 hx hdd;obtain⟨e0,e1,e2,e3,e4,e5⟩:=kA3.c6;go_wp2_with fail
 refine (AjN h.ds.length gd _ k3 w3 hd3 (by omega) hd (by omega) (by omega)).mono ?_;rintro e w4 ⟨rfl,hg4,-⟩;have hO4:=hO3.grown hg4 ⟨by omega,hg1⟩;clear e0 e1 e2 e3 e4 e5 kA3 hO3 hg4;have hn3:1<=k3+3*(h.ds.length:Int):=by omega
 go_wp2_with fail
 go_ret
 exact⟨⟨_,rfl,hn3⟩,hO4⟩
theorem Alx:(Tryz.prog.info? 37).map (·.size)=some 6:=by kernel_rfl
theorem RsO.set {w:World} {b r j:Nat} {u:Value} {bs:List Rb} (h:RsO w b bs) (hr:r<b):RsO (w.setCell ⟨r,j,none⟩ u) b bs:=λi x hx=>by
 obtain⟨b1,b2,h1,h2⟩:=h i x hx;refine⟨b1,b2,λk v hv=>?_,h2.set (by omega)⟩;rw[C0 _ _ _ _ (by simp<;>omega)];exact h1 k v hv
def DnO (w:World) (b:Nat) (l:List Done):Prop:=Dns w (.slice (some ⟨b,0,none⟩) l.length l.length) l
theorem DnO.set {w:World} {b r j:Nat} {u:Value} {l:List Done} (h:DnO w b l) (hr:r≠b):DnO (w.setCell ⟨r,j,none⟩ u) b l:=by
 obtain⟨a,c,e,hm,hpos⟩:=h;simp only[Value.slice.injEq] at e;obtain⟨rfl,-,rfl⟩:=e;refine⟨_,_,rfl,hm,λhp=>?_⟩;obtain⟨g,o,e,hat,hlt⟩:=hpos hp;simp only[Option.some.injEq,Addr.mk.injEq] at e;obtain⟨rfl,rfl,-⟩:=e;refine⟨_,_,rfl,λi d hd=>⟨λk v hv=>?_,(hat i d hd).2⟩,by simpa using hlt⟩;rw[C0 _ _ _ _ (by simp<;>omega)];exact (hat i d hd).1 k v hv
theorem BkR.lo {w:World} {lo lo' hi:Nat} {v:Value} {b:Bk} (h:BkR w lo hi v b) (hl:lo'<=lo):BkR w lo' hi v b:=by
 obtain⟨bt,b0,mid,rfl,h1,h2,h3,h4,h5,h6,h7⟩:=h;exact⟨bt,b0,mid,rfl,h1,by omega,h3,h4,by omega,h6,h7⟩
theorem BkR.set {w:World} {lo hi r j:Nat} {v u:Value} {b:Bk} (h:BkR w lo hi v b) (hr:r<lo):BkR (w.setCell ⟨r,j,none⟩ u) lo hi v b:=by
 obtain⟨bt,b0,mid,rfl,h1,h2,h3,h4,h5,h6,h7⟩:=h;exact⟨bt,b0,mid,rfl,S5 _ _ (by omega) h1,h2,h3,h4,h5,by simpa using h6,h7.other (E0 (E4 _ _) _) S5 (by have:=h7.2.1;omega)⟩
theorem RsR.set {w:World} {lo hi r j b0:Nat} {u:Value} {bs:List Rb} (h:RsR w lo hi b0 bs) (hr:r<lo):RsR (w.setCell ⟨r,j,none⟩ u) lo hi b0 bs:=h.other (E0 (E4 _ _) _) S5 (by have:=h.2.1;omega)
theorem HR.set {w:World} {l0 l1 l2 l3 b gd r j:Nat} {h:House} {tv bv u:Value} (H:HR w l0 l1 l2 l3 h tv bv b gd) (hr:r<l0):HR (w.setCell ⟨r,j,none⟩ u) l0 l1 l2 l3 h tv bv b gd :=
 ⟨H.k.set hr,H.x.set (by have:=H.z0;omega),S5 _ _ (by have:=H.g1;have:=H.z3;omega) H.d,H.g0,H.g1,H.z0,H.z1,by simpa using H.z3⟩
theorem HR.fin {w:World} {l0 l0' l1 l2 l3 b gd:Nat} {h:House} {tv bv:Value} (H:HR w l0 l1 l2 l3 h tv bv b gd) (hl:l0'<=l0) (he:w.heap.size=l3):HR w l0' l1 l2 w.heap.size h tv bv b gd :=
 ⟨H.k.lo hl,H.x,H.d,H.g0,by have:=H.g1;omega,by have:=H.z0;omega,H.z1,A3 _⟩
theorem RsO.rsR {w:World} {b lo:Nat} {bs:List Rb} (h:RsO w b bs) (ht:w.there b 0 (bs.length*6)) (hl:lo<=b) (hb:b<w.heap.size):RsR w lo w.heap.size b bs:=by
 refine⟨ht,hl,hb,A3 _,λi x hx=>?_⟩;obtain⟨b1,b2,hr,ho⟩:=h i x hx;have h1:=ho.l1;have h2:=ho.l2;exact⟨b1,b2,hr 1 _ rfl,hr 2 _ rfl,ho.r.2.1,ho.s.2.1,by omega,ho.r.2.2,by omega,ho.s.2.2⟩
theorem Aak (h:House) (tv bv xv dv:Value) (w:World) (H:HSrc w h tv bv xv dv) (hm:HSmall h) :
  Calls Tryz.prog 6 #[.agg #[.int .i64 h.now,.int .i64 h.last,tv,bv,xv,dv]] w λe w'=>(∃tu bu b gd l1 l2,e=.returned (.agg #[.int .i64 h.now,.int .i64 h.last,tu,bu,.slice (some ⟨b,0,none⟩) h.bs.length h.bs.length,.slice (some ⟨gd,0,none⟩) h.ds.length h.ds.length])/\HC w' h tu bu b (.slice (some ⟨gd,0,none⟩) h.ds.length h.ds.length)/\HR w' w.heap.size l1 l2 w'.heap.size h tu bu b gd)/\Below w.heap.size w w':=by
 obtain⟨a1,c1,a2,c2,a3,c3,a4,c4,rfl,rfl,rfl,rfl⟩:=H.shapes;go_enter Tryz.func6,Tryz.ntmps6
 go_upto_region 2 with fail
 obtain⟨W1,hW1,kP,kR,kO,hB1,hs1⟩:=AeP w [.int .i64 h.now,.int .i64 h.last,.slice a1 h.sh.things.length c1,.slice a2 h.sh.bs.length c2,.slice a3 h.bs.length c3,.slice a4 h.ds.length c4] 29 [.int .i64 0,.int .i64 0,.slice none 0 0,.slice none 0 0,.slice none 0 0,.slice none 0 0] 37 [.int .i64 0,.int .i64 0,.slice none 0 0,.slice none 0 0,.slice none 0 0,.slice none 0 0] 37;rw[hW1];clear hW1;obtain⟨W2,hW2,kP2,kR2,kO2,hB2,hs2⟩:∃W2,(W1.setCell ⟨w.heap.size+2,0,none⟩ (.int .i64 h.now)).setCell ⟨w.heap.size+2,1,none⟩ (.int .i64 h.last)=W2/\CB W2 w.heap.size [.int .i64 h.now,.int .i64 h.last,.slice a1 h.sh.things.length c1,.slice a2 h.sh.bs.length c2,.slice a3 h.bs.length c3,.slice a4 h.ds.length c4]/\CB W2 (w.heap.size+1) [.int .i64 0,.int .i64 0,.slice none 0 0,.slice none 0 0,.slice none 0 0,.slice none 0 0]/\CB W2 (w.heap.size+2) [.int .i64 h.now,.int .i64 h.last,.slice none 0 0,.slice none 0 0,.slice none 0 0,.slice none 0 0]/\Below w.heap.size w W2/\W2.heap.size=w.heap.size+3:=⟨_,rfl,(kP.other (by omega)).other (by omega),(kR.other (by omega)).other (by omega),(kO.set (j:=0) (by simp)).set (j:=1) (by simp),J1 (J1 hB1 (by omega) _) (by omega) _,by simpa using hs1⟩;obtain⟨p0,p1,p2,p3,p4,p5⟩:=kP.c6;obtain⟨o0,o1,o2,o3,o4,o5⟩:=kO.c6;obtain⟨f0,f1,f2,f3,f4,f5⟩:=kO.f6;go_upto_region 4 with fail
 try rw[hW2]
 clear hW2 p0 p1 p2 p3 p4 p5 o0 o1 o2 o3 o4 o5 f0 f1 f2 f3 f4 f5 kP kR kO hB1 hs1;obtain⟨p0,p1,p2,p3,p4,p5⟩:=kP2.c6;go_wp2_with fail
 refine (AjI h.sh _ _ (H.up hB2).book hm.k).mono ?_;rintro e w3 ⟨⟨u,rfl,hob⟩,hb3⟩;have hr3:=hob.bkR;rw[hs2] at hr3;obtain⟨tu,bu,mid,rfl,ho1,ho2,hmid,-⟩:=hob;rw[hs2] at ho1 hmid;obtain⟨b1,e1⟩:=ho1.shape;obtain⟨b2,e2⟩:=ho2.shape;subst e1 e2;replace ho2:=ho2.low hmid;have hz3:=hb3.size;have kP3:=kP2.up hb3 (by omega);have kR3:=kR2.up hb3 (by omega);have kO3:=kO2.up hb3 (by omega);have hB3:=D6 hB2 hb3;clear p0 p1 p2 p3 p4 p5 kP2 kR2 kO2 hB2 hb3 hmid;obtain⟨W4,hW4,kP4,kR4,kO4,ho4,hq4,hB4,hs4⟩:∃W4,(w3.setCell ⟨w.heap.size+2,2,none⟩ (.slice (some ⟨b1,0,none⟩) h.sh.things.length h.sh.things.length)).setCell ⟨w.heap.size+2,3,none⟩ (.slice (some ⟨b2,0,none⟩) h.sh.bs.length h.sh.bs.length)=W4/\CB W4 w.heap.size [.int .i64 h.now,.int .i64 h.last,.slice a1 h.sh.things.length c1,.slice a2 h.sh.bs.length c2,.slice a3 h.bs.length c3,.slice a4 h.ds.length c4]/\CB W4 (w.heap.size+1) [.int .i64 0,.int .i64 0,.slice none 0 0,.slice none 0 0,.slice none 0 0,.slice none 0 0]/\CB W4 (w.heap.size+2) [.int .i64 h.now,.int .i64 h.last,.slice (some ⟨b1,0,none⟩) h.sh.things.length h.sh.things.length,.slice (some ⟨b2,0,none⟩) h.sh.bs.length h.sh.bs.length,.slice none 0 0,.slice none 0 0]/\LsO W4 (w.heap.size+3) (.slice (some ⟨b1,0,none⟩) h.sh.things.length h.sh.things.length) h.sh.things/\BsO W4 (w.heap.size+3) (.slice (some ⟨b2,0,none⟩) h.sh.bs.length h.sh.bs.length) h.sh.bs/\Below w.heap.size w W4/\W4.heap.size=w3.heap.size:=⟨_,rfl,(kP3.other (by omega)).other (by omega),(kR3.other (by omega)).other (by omega),(kO3.set (j:=2) (by simp)).set (j:=3) (by simp),(ho1.set (by omega)).set (by omega),(ho2.set (by omega)).set (by omega),J1 (J1 hB3 (by omega) _) (by omega) _,by simp⟩;have HB4:Hid (BkR ((w3.setCell ⟨w.heap.size+2,2,none⟩ (.slice (some ⟨b1,0,none⟩) h.sh.things.length h.sh.things.length)).setCell ⟨w.heap.size+2,3,none⟩ (.slice (some ⟨b2,0,none⟩) h.sh.bs.length h.sh.bs.length)) (w.heap.size+3) w3.heap.size (.agg #[.slice (some ⟨b1,0,none⟩) h.sh.things.length h.sh.things.length,.slice (some ⟨b2,0,none⟩) h.sh.bs.length h.sh.bs.length]) h.sh):=(hr3.set (by omega)).set (by omega);rw[hW4] at HB4;clear hr3;obtain⟨o0,o1,o2,o3,o4,o5⟩:=kO3.c6;obtain⟨f0,f1,f2,f3,f4,f5⟩:=kO3.f6;go_upto_region 5 with fail
 try rw[hW4]
 clear hW4 o0 o1 o2 o3 o4 o5 f0 f1 f2 f3 f4 f5 kP3 kR3 kO3 hB3 ho1 ho2;obtain⟨p0,p1,p2,p3,p4,p5⟩:=kP4.c6;go_wp2_with fail
 refine (Alw h.bs _ _ (H.up hB4).x hm.n hm.x).mono ?_;rintro e w5 ⟨⟨b,rfl,hx5,hl5,hlt5,hth5⟩,hb5⟩;have hr5:=hx5.rsR hth5 hl5 hlt5;rw[hs4] at hr5;have HB5:Hid (BkR w5 (w.heap.size+3) w3.heap.size (.agg #[.slice (some ⟨b1,0,none⟩) h.sh.things.length h.sh.things.length,.slice (some ⟨b2,0,none⟩) h.sh.bs.length h.sh.bs.length]) h.sh):=HB4.out.up hb5;clear HB4 hth5;have hz5:=hb5.size;have kP5:=kP4.up hb5 (by omega);have kR5:=kR4.up hb5 (by omega);have kO5:=kO4.up hb5 (by omega);have ho5:=ho4.up hb5;have hq5:=hq4.up hb5;have hB5:=D6 hB4 hb5;clear p0 p1 p2 p3 p4 p5 kP4 kR4 kO4 hB4 hb5 ho4 hq4;obtain⟨W6,hW6,kP6,kR6,kO6,ho6,hq6,hx6,hB6,hs6⟩:∃W6,w5.setCell ⟨w.heap.size+2,4,none⟩ (.slice (some ⟨b,0,none⟩) h.bs.length h.bs.length)=W6/\CB W6 w.heap.size [.int .i64 h.now,.int .i64 h.last,.slice a1 h.sh.things.length c1,.slice a2 h.sh.bs.length c2,.slice a3 h.bs.length c3,.slice a4 h.ds.length c4]/\CB W6 (w.heap.size+1) [.int .i64 0,.int .i64 0,.slice none 0 0,.slice none 0 0,.slice none 0 0,.slice none 0 0]/\CB W6 (w.heap.size+2) [.int .i64 h.now,.int .i64 h.last,.slice (some ⟨b1,0,none⟩) h.sh.things.length h.sh.things.length,.slice (some ⟨b2,0,none⟩) h.sh.bs.length h.sh.bs.length,.slice (some ⟨b,0,none⟩) h.bs.length h.bs.length,.slice none 0 0]/\LsO W6 (w.heap.size+3) (.slice (some ⟨b1,0,none⟩) h.sh.things.length h.sh.things.length) h.sh.things/\BsO W6 (w.heap.size+3) (.slice (some ⟨b2,0,none⟩) h.sh.bs.length h.sh.bs.length) h.sh.bs/\RsO W6 b h.bs/\Below w.heap.size w W6/\W6.heap.size=w5.heap.size:=⟨_,rfl,kP5.other (by omega),kR5.other (by omega),kO5.set (j:=4) (by simp),ho5.set (by omega),hq5.set (by omega),hx5.set (by omega),J1 hB5 (by omega) _,by simp⟩;have HB6:Hid (BkR (w5.setCell ⟨w.heap.size+2,4,none⟩ (.slice (some ⟨b,0,none⟩) h.bs.length h.bs.length)) (w.heap.size+3) w3.heap.size (.agg #[.slice (some ⟨b1,0,none⟩) h.sh.things.length h.sh.things.length,.slice (some ⟨b2,0,none⟩) h.sh.bs.length h.sh.bs.length]) h.sh/\RsR (w5.setCell ⟨w.heap.size+2,4,none⟩ (.slice (some ⟨b,0,none⟩) h.bs.length h.bs.length)) w3.heap.size w5.heap.size b h.bs):=⟨HB5.out.set (by omega),hr5.set (by omega)⟩;rw[hW6] at HB6;clear HB5 hr5;obtain⟨o0,o1,o2,o3,o4,o5⟩:=kO5.c6;obtain⟨f0,f1,f2,f3,f4,f5⟩:=kO5.f6;go_upto_region 6 with fail
 try rw[hW6]
 clear hW6 o0 o1 o2 o3 o4 o5 f0 f1 f2 f3 f4 f5 kP5 kR5 kO5 hB5 ho5 hq5 hx5;obtain⟨p0,p1,p2,p3,p4,p5⟩:=kP6.c6;go_wp2_with fail
 refine (AhV h.ds _ _ (H.up hB6).d hm.d).mono ?_;rintro e w7 ⟨⟨g,rfl,hd7,hg7,hgl7,hth7⟩,hb7⟩;have HH7:Hid (HR w7 (w.heap.size+3) w3.heap.size w5.heap.size w7.heap.size h (.slice (some ⟨b1,0,none⟩) h.sh.things.length h.sh.things.length) (.slice (some ⟨b2,0,none⟩) h.sh.bs.length h.sh.bs.length) b g):=⟨HB6.out.1.up hb7,HB6.out.2.up hb7,hth7,by omega,hgl7,by omega,by omega,A3 _⟩;clear HB6 hth7;have hz7:=hb7.size;have kR7:=kR6.up hb7 (by omega);have kO7:=kO6.up hb7 (by omega);have ho7:=ho6.up hb7;have hq7:=hq6.up hb7;have hx7:=hx6.up hb7 (by omega);have hB7:=D6 hB6 hb7;have hD7:DnO w7 g h.ds:=hd7;clear p0 p1 p2 p3 p4 p5 kP6 kR6 kO6 hB6 hb7 ho6 hq6 hx6 hd7;obtain⟨o0,o1,o2,o3,o4,o5⟩:=kO7.c6;obtain⟨f0,f1,f2,f3,f4,f5⟩:=kO7.f6;obtain⟨r0,r1,r2,r3,r4,r5⟩:=kR7.c6;obtain⟨g0,g1,g2,g3,g4,g5⟩:=kR7.f6;have hR8:=kR7.other (q:=w.heap.size+2) (j:=5) (u:=.slice (some ⟨g,0,none⟩) h.ds.length h.ds.length) (by omega);go_wp2_with fail
 refine R4 Tryz.results6 Tryz.underlying37 rfl Alx hR8 rfl ?_;refine⟨⟨_,_,b,g,w3.heap.size,w5.heap.size,rfl,?_,?_⟩,?_⟩
 ·exact⟨(((((((ho7.set (by omega)).set (by omega)).set (by omega)).set (by omega)).set (by omega)).set (by omega)).set (by omega)).ls,(((((((hq7.set (by omega)).set (by omega)).set (by omega)).set (by omega)).set (by omega)).set (by omega)).set (by omega)).bs,((((((hx7.set (by omega)).set (by omega)).set (by omega)).set (by omega)).set (by omega)).set (by omega)).set (by omega),by simp;omega,((((((hD7.set (by omega)).set (by omega)).set (by omega)).set (by omega)).set (by omega)).set (by omega)).set (by omega)⟩
 ·refine HR.fin (l0:=w.heap.size+3) (l3:=w7.heap.size) ?_ (by omega) (by simp)
  exact ((((((HH7.out.set (by omega)).set (by omega)).set (by omega)).set (by omega)).set (by omega)).set (by omega)).set (by omega)
 ·exact J1 (J1 (J1 (J1 (J1 (J1 (J1 hB7 (by omega) _) (by omega) _) (by omega) _) (by omega) _) (by omega) _) (by omega) _) (by omega) _
theorem Aly (ps:List Ph) (b o b2 o2 cA cB:Nat) (w:World) (hr:RecAt w b o ps) (hb:b<w.heap.size) (hr2:RecAt w b2 o2 ps) (hb2:b2<w.heap.size) (hn:ps.length<=1048576) :
  Calls Tryz.prog 112 #[.slice (some ⟨b,o,none⟩) ps.length cA,.slice (some ⟨b2,o2,none⟩) ps.length cB] w λe w'=>e=.returned (.bool true)/\Below w.heap.size w w':=by
 go_enter Tryz.func112,Tryz.ntmps112
 go_wp2
 go_loopw [5] (λi w'=>∃k:Nat,k<=ps.length/\i=.int .i64 k/\Below w.heap.size w w') (λi _=>ps.length-(intOf i).toNat)
 case atStart=>exact⟨0,by omega,rfl,A4 _ _⟩
 case round =>
  obtain⟨k,hk,rfl,hB⟩:=hrel;by_cases hp:k<ps.length
  ·obtain⟨c0,c1,c2,c3,c4,c5,c6,c7⟩:=hr.cells k hp
   obtain⟨d0,d1,d2,d3,d4,d5,d6,d7⟩:=hr2.cells k hp;obtain⟨hc,hf⟩:=E6 hB;go_wp2_with fail
   go_region_with (go_at_call 149;refine (Ad5 _ _ _ _ _ _ _ _ _).mono ?_;rintro e w1 ⟨rfl,hb1⟩)
   all_goals
    have hB1:=D6 hB.drew hb1;clear hc hf c0 c1 c2 c3 c4 c5 c6 c7 d0 d1 d2 d3 d4 d5 d6 d7;go_wp2_with fail
    go_roundw
    case rel=>exact⟨k+1,by omega,by go_num,hB1⟩
    case measure=>simp[intOf];omega
  ·go_wp2_with fail
   go_ret
   exact⟨rfl,hB⟩
theorem Alz (l:List Sl) (b o b2 o2 cA cB:Nat) (w:World) (hr:SlAt w b o l) (hb:b<w.heap.size) (hr2:SlAt w b2 o2 l) (hb2:b2<w.heap.size) (hn:l.length<=1048576) :
  Calls Tryz.prog 113 #[.slice (some ⟨b,o,none⟩) l.length cA,.slice (some ⟨b2,o2,none⟩) l.length cB] w λe w'=>e=.returned (.bool true)/\Below w.heap.size w w':=by
 go_enter Tryz.func113,Tryz.ntmps113
 go_wp2
 go_loopw [5] (λi w'=>∃k:Nat,k<=l.length/\i=.int .i64 k/\Below w.heap.size w w') (λi _=>l.length-(intOf i).toNat)
 case atStart=>exact⟨0,by omega,rfl,A4 _ _⟩
 case round =>
  obtain⟨k,hk,rfl,hB⟩:=hrel;by_cases hp:k<l.length
  ·obtain⟨c0,c1⟩:=hr.cells k hp
   obtain⟨d0,d1⟩:=hr2.cells k hp;obtain⟨hc,hf⟩:=E6 hB;generalize l[k]=s0 at *;go_wp2_with fail
   go_region_with (go_at_call 150;refine (Ae5 s0 _).mono ?_;rintro e w1 ⟨rfl,hb1⟩)
   all_goals
    have hB1:=D6 hB.drew hb1;clear hc hf c0 c1 d0 d1;go_wp2_with fail
    go_roundw
    case rel=>exact⟨k+1,by omega,by go_num,hB1⟩
    case measure=>simp[intOf];omega
  ·go_wp2_with fail
   go_ret
   exact⟨rfl,hB⟩
theorem RbV.opened {w:World} {x:Rb} {p q c g r d:Nat} (h:RbV w x (.slice (some ⟨p,q,none⟩) x.ps.length c) (.slice (some ⟨g,r,none⟩) x.sl.length d)):RecAt w p q x.ps/\p<w.heap.size/\SlAt w g r x.sl/\g<w.heap.size:=by
 obtain⟨p',q',c',e,h1,h2,-⟩:=h.r;obtain⟨g',r',d',e',h3,h4⟩:=h.s;simp only[Value.slice.injEq,Option.some.injEq,Addr.mk.injEq] at e e';obtain⟨⟨rfl,rfl,-⟩,-,rfl⟩:=e;obtain⟨⟨rfl,rfl,-⟩,-,rfl⟩:=e';exact⟨h1,h2,h3,h4⟩
theorem Al0 (x:Rb) (p q c g r d p' q' c' g' r' d':Nat) (w:World) (h:RbV w x (.slice (some ⟨p,q,none⟩) x.ps.length c) (.slice (some ⟨g,r,none⟩) x.sl.length d)) (h':RbV w x (.slice (some ⟨p',q',none⟩) x.ps.length c') (.slice (some ⟨g',r',none⟩) x.sl.length d')) :
  Calls Tryz.prog 61 #[.agg #[.string x.nm,.slice (some ⟨p,q,none⟩) x.ps.length c,.slice (some ⟨g,r,none⟩) x.sl.length d,.string x.ad,.int .i64 x.si,.int .i64 x.st],.agg #[.string x.nm,.slice (some ⟨p',q',none⟩) x.ps.length c',.slice (some ⟨g',r',none⟩) x.sl.length d',.string x.ad,.int .i64 x.si,.int .i64 x.st]] w λe w'=>e=.returned (.bool true)/\Below w.heap.size w w':=by
 have np:=h.np;have ns:=h.ns;go_enter Tryz.func61,Tryz.ntmps61
 go_upto_region 1 with fail
 obtain⟨W1,hW1,kP,kR,hB1,hs1⟩:=L1 w [.string x.nm,.slice (some ⟨p,q,none⟩) x.ps.length c,.slice (some ⟨g,r,none⟩) x.sl.length d,.string x.ad,.int .i64 x.si,.int .i64 x.st] 52 [.string x.nm,.slice (some ⟨p',q',none⟩) x.ps.length c',.slice (some ⟨g',r',none⟩) x.sl.length d',.string x.ad,.int .i64 x.si,.int .i64 x.st] 52;rw[hW1];clear hW1;obtain⟨d0,d1,d2,d3,d4,d5⟩:=kP.c6;obtain⟨e0,e1,e2,e3,e4,e5⟩:=kR.c6;obtain⟨o1,l1,-,-⟩:=(h.up hB1).opened;obtain⟨o2,l2,-,-⟩:=(h'.up hB1).opened;go_wp2_with fail
 refine (Aly x.ps p q p' q' _ _ _ o1 l1 o2 l2 np).mono ?_;rintro e w2 ⟨rfl,hB2⟩;have hB12:=D6 hB1 hB2;clear d0 d1 d2 d3 d4 d5 e0 e1 e2 e3 e4 e5 o1 o2 l1 l2;obtain⟨d0,d1,d2,d3,d4,d5⟩:=(kP.up hB2 (by omega)).c6;obtain⟨e0,e1,e2,e3,e4,e5⟩:=(kR.up hB2 (by omega)).c6;obtain⟨-,-,o1,l1⟩:=(h.up hB12).opened;obtain⟨-,-,o2,l2⟩:=(h'.up hB12).opened;go_wp2_with fail
 refine (Alz x.sl g r g' r' _ _ _ o1 l1 o2 l2 ns).mono ?_;rintro e w3 ⟨rfl,hB3⟩;have hB13:=D6 hB12 hB3;clear d0 d1 d2 d3 d4 d5 e0 e1 e2 e3 e4 e5 o1 o2 l1 l2;obtain⟨d0,d1,d2,d3,d4,d5⟩:=(kP.up (D6 hB2 hB3) (by omega)).c6;obtain⟨e0,e1,e2,e3,e4,e5⟩:=(kR.up (D6 hB2 hB3) (by omega)).c6;go_wp2_with fail
 go_ret
 exact⟨rfl,hB13⟩
theorem AjO (bs:List Rb) (va vb:Value) (w:World) (h1:Rbs w va bs) (h2:Rbs w vb bs) :
  Calls Tryz.prog 24 #[va,vb] w λe w'=>e=.returned (.bool true)/\Below w.heap.size w w':=by
 obtain⟨a1,k1,rfl,hmax,hp1⟩:=h1;obtain⟨a2,k2,rfl,-,hp2⟩:=h2;unfold maxLen at hmax;go_enter Tryz.func24,Tryz.ntmps24
 go_wp2
 go_loopw [5] (λi w'=>∃k:Nat,k<=bs.length/\i=.int .i64 k/\Below w.heap.size w w') (λi _=>bs.length-(intOf i).toNat)
 case atStart=>exact⟨0,by omega,rfl,A4 _ _⟩
 case round =>
  obtain⟨k,hk,rfl,hB⟩:=hrel;by_cases hp:k<bs.length
  ·obtain⟨b1,o1,e1,hr1,hb1⟩:=hp1 (by omega)
   obtain⟨b2,o2,e2,hr2,hb2⟩:=hp2 (by omega);subst e1 e2;obtain⟨p,q,c,g,r,d,⟨c0,c1,c2,c3,c4,c5⟩,ho1⟩:=((hr1.up hB hb1).at hp).open;obtain⟨p',q',c',g',r',d',⟨d0,d1,d2,d3,d4,d5⟩,ho2⟩:=((hr2.up hB hb2).at hp).open;generalize bs[k]=x0 at *;have Ho1:Hid (RbV wr x0 (.slice (some ⟨p,q,none⟩) x0.ps.length c) (.slice (some ⟨g,r,none⟩) x0.sl.length d)):=ho1;have Ho2:Hid (RbV wr x0 (.slice (some ⟨p',q',none⟩) x0.ps.length c') (.slice (some ⟨g',r',none⟩) x0.sl.length d')):=ho2;clear ho1 ho2 hp1 hp2 hr1 hr2;go_wp2_with fail
   go_region_with (go_at_call 61;refine (Al0 x0 p q c g r d p' q' c' g' r' d' _ (Ho1.out.up (A4 _ _).drew) (Ho2.out.up (A4 _ _).drew)).mono ?_;rintro e w1 ⟨rfl,hbx⟩)
   all_goals
    have hB1:=D6 hB.drew hbx;clear c0 c1 c2 c3 c4 c5 d0 d1 d2 d3 d4 d5;go_wp2_with fail
    go_roundw
    case rel=>exact⟨k+1,by omega,by go_num,hB1⟩
    case measure=>simp[intOf];omega
  ·go_wp2_with fail
   go_ret
   exact⟨rfl,hB⟩
theorem Aal (h:House) (t1 k1 x1 d1 t2 k2 x2 d2:Value) (w:World) (H1:HV w h t1 k1 x1 d1) (H2:HV w h t2 k2 x2 d2) :
  Calls Tryz.prog 8 #[.agg #[.int .i64 h.now,.int .i64 h.last,t1,k1,x1,d1],.agg #[.int .i64 h.now,.int .i64 h.last,t2,k2,x2,d2]] w λe w'=>e=.returned (.bool true)/\Below w.heap.size w w':=by
 obtain⟨a1,c1,a2,c2,a3,c3,a4,c4,rfl,rfl,rfl,rfl⟩:=H1.shapes;obtain⟨a5,c5,a6,c6,a7,c7,a8,c8,rfl,rfl,rfl,rfl⟩:=H2.shapes;go_enter Tryz.func8,Tryz.ntmps8
 go_upto_region 1 with fail
 obtain⟨W1,hW1,kP,kR,hB1,hs1⟩:=L1 w [.int .i64 h.now,.int .i64 h.last,.slice a1 h.sh.things.length c1,.slice a2 h.sh.bs.length c2,.slice a3 h.bs.length c3,.slice a4 h.ds.length c4] 37 [.int .i64 h.now,.int .i64 h.last,.slice a5 h.sh.things.length c5,.slice a6 h.sh.bs.length c6,.slice a7 h.bs.length c7,.slice a8 h.ds.length c8] 37;rw[hW1];clear hW1;obtain⟨e0,e1,e2,e3,e4,e5⟩:=kP.c6;obtain⟨f0,f1,f2,f3,f4,f5⟩:=kR.c6;go_wp2_with fail
 refine (AjJ h.sh _ _ _ (H1.up hB1).book (H2.up hB1).book).mono ?_;rintro e w2 ⟨rfl,hB2⟩;have hB12:=D6 hB1 hB2;clear e0 e1 e2 e3 e4 e5 f0 f1 f2 f3 f4 f5;obtain⟨e0,e1,e2,e3,e4,e5⟩:=(kP.up hB2 (by omega)).c6;obtain⟨f0,f1,f2,f3,f4,f5⟩:=(kR.up hB2 (by omega)).c6;have G1:=H1.up hB12;have G2:=H2.up hB12;go_wp2_with fail
 refine (AjO h.bs _ _ _ G1.x G2.x).mono ?_;rintro e w3 ⟨rfl,hB3⟩;have hB13:=D6 hB12 hB3;have hB23:=D6 hB2 hB3;clear e0 e1 e2 e3 e4 e5 f0 f1 f2 f3 f4 f5;obtain⟨e0,e1,e2,e3,e4,e5⟩:=(kP.up hB23 (by omega)).c6;obtain⟨f0,f1,f2,f3,f4,f5⟩:=(kR.up hB23 (by omega)).c6;go_wp2_with fail
 refine (AhW h.ds _ _ _ (G1.up hB3).d (G2.up hB3).d).mono ?_;rintro e w4 ⟨rfl,hB4⟩;have hB14:=D6 hB13 hB4;clear e0 e1 e2 e3 e4 e5 f0 f1 f2 f3 f4 f5;go_wp2_with fail
 go_ret
 exact⟨rfl,hB14⟩
theorem Ab7 {P:Program} {w:World} (base:Nat) (t ty e:TypeId) (i:TypeInfo) (z:Value) (size bytes:Nat) (ht:P.underlying t=some (.slice e)) (hi:P.info? e=some i) (hz:i.zero=some z)
  (hsize:i.size=size) (hby:i.bytes=bytes) (hzs:z.cells.size=size) (hsz:0<size) (v:Value) (n:Nat) (xs:List Value) (hown:w.ownsRow base e size v n xs)
  (ad:Option Addr) (m c:Nat) (news:List Value) (hl:news.length=m*size) (hnews:0<m->∃d,ad=some d/\∀j u,news[j]?=some u->w.cell? (d.add j)=some u) (h1:∀u∈news,u.oneCell'=true)
  (h63:n+m<=maxLen) (hbytes:(n+m)*bytes<=140737488355328) (hbase:base<=w.heap.size) :
  ∃v' w',(Builtin.append_ #[t,t] ty #[v,.slice ad m c]).run P w=.ok v' w'/\w'.ownsRow base e size v' (n+m) (xs++news)/\w.grownBy w' v.ownBlock/\(NN v->NN v'):=by
 rcases C4 m with rfl|hm
 ·obtain rfl:news=[]:=C5.1 (by simpa using hl)
  exact⟨v,w,S7 base t ty e i size ht hi v n xs hown ad c,by simpa using hown,E4 _ _,λh=>h⟩
 ·obtain⟨d,rfl,hn⟩:=hnews hm
  obtain⟨v',w',hr,h2,h3,_⟩:=run_append_own (P:=P) w base t ty e i z size bytes ht hi hz hsize hby hzs hsz v n xs hown d m c news hl hn h1 h63 hbytes hbase;exact⟨v',w',hr,h2,h3,λ_=>by obtain⟨g,cap,e⟩:=F4 h2 (by omega);exact⟨g,_,_,e⟩⟩
theorem N0 {P:Program} (w:World) {ops:Array Oper} {rest:List Oper} {o:Oper} {a:Act} {Q:Exit->Act->World->Prop} (hgd:o.guard=none) (s x:Operand) (t:TypeId)
  (hop:o.op=Op.call {callee:=Callee.builtin Builtin.append,args:=#[s,x],argTypes:=#[t,t]})
  (base:Nat) (e:TypeId) (i:TypeInfo) (z:Value) (size bytes:Nat) (ht:P.underlying t=some (.slice e)) (hi:P.info? e=some i) (hz:i.zero=some z)
  (hsize:i.size=size) (hby:i.bytes=bytes) (hzs:z.cells.size=size) (hsz:0<size) (v:Value) (n:Nat) (xs:List Value) (hs:a.eval s=v) (hown:w.ownsRow base e size v n xs)
  (ad:Option Addr) (m c:Nat) (news:List Value) (hx:a.eval x=.slice ad m c) (hl:news.length=m*size) (hnews:0<m->∃d,ad=some d/\∀j u,news[j]?=some u->w.cell? (d.add j)=some u) (h1:∀u∈news,u.oneCell'=true)
  (h63:n+m<=maxLen) (hbytes:(n+m)*bytes<=140737488355328) (hbase:base<=w.heap.size)
  (h:∀v' w',w'.ownsRow base e size v' (n+m) (xs++news)->w.grownBy w' v.ownBlock->(NN v->NN v')->wpList P ops Q rest (a.put o.dst v') w'):wpList P ops Q (o::rest) a w:=by
 refine wpList_plain hgd λK hK=>?_;obtain⟨v',w',hr,h2,h3,h4⟩:=Ab7 (P:=P) (w:=w) base t o.type e i z size bytes ht hi hz hsize hby hzs hsz v n xs hown ad m c news hl hnews h1 h63 hbytes hbase;unfold Oper.wp execOp;simp only[hop,resolve,invoke,builtin,Sem.run_bind,Sem.run_pure,Result.andThen_ok,List.map_toArray,List.map_cons,List.map_nil,hs,hx,hr];exact hK _ _ (h v' w' h2 h3 h4)
theorem J5 {P:Program} {ops:Array Oper} {o:Oper} {a:Act} {w:World} {K:Act->World->Prop} {Q:Exit->Act->World->Prop} {E:Prop}
  (hg:o.guard=none) (s x:Operand) (t:TypeId) (hop:o.op=Op.call {callee:=Callee.builtin Builtin.append,args:=#[s,x],argTypes:=#[t,t]})
  (base:Nat) (e:TypeId) (i:TypeInfo) (z:Value) (size bytes:Nat) (ht:P.underlying t=some (.slice e)) (hi:P.info? e=some i) (hz:i.zero=some z)
  (hsize:i.size=size) (hby:i.bytes=bytes) (hzs:z.cells.size=size) (hsz:0<size) (v:Value) (n:Nat) (xs:List Value) (hs:a.eval s=v) (hown:w.ownsRow base e size v n xs)
  (ad:Option Addr) (m c:Nat) (news:List Value) (hx:a.eval x=.slice ad m c) (hl:news.length=m*size) (hnews:0<m->∃d,ad=some d/\∀j u,news[j]?=some u->w.cell? (d.add j)=some u) (h1:∀u∈news,u.oneCell'=true)
  (h63:n+m<=maxLen) (hbytes:(n+m)*bytes<=140737488355328) (hbase:base<=w.heap.size)
  (hK:∀v' w',w'.ownsRow base e size v' (n+m) (xs++news)->w.grownBy w' v.ownBlock->(NN v->NN v')->K (a.put o.dst v') w') :
  if Region.wanted o (yielded ops a.tmps)=true then Oper.wp P o a w K Q else E:=by
 have hw:Region.wanted o (yielded ops a.tmps)=true:=by simp[Region.wanted,hg]
 rw[if_pos hw];obtain⟨v',w',hr,h2,h3,h4⟩:=Ab7 (P:=P) (w:=w) base t o.type e i z size bytes ht hi hz hsize hby hzs hsz v n xs hown ad m c news hl hnews h1 h63 hbytes hbase;unfold Oper.wp;simp[execOp,hop,resolve,invoke,builtin,hs,hx,hr,Result.andThen];exact hK v' w' h2 h3 h4
def rowsF {α:Type} (f:α->List Value):List α->List Value
 | []=>[]
 | a::r=>f a++rowsF f r
theorem K6 {α:Type} (f:α->List Value) (a b:List α):rowsF f (a++b)=rowsF f a++rowsF f b:=by
 induction a with
 | nil=>rfl
 | cons p r ih=>simp[rowsF,ih]
theorem G5 {α:Type} {f:α->List Value} {k:Nat} (hf:∀a,(f a).length=k):∀l:List α,(rowsF f l).length=l.length*k
 | []=>by simp[rowsF]
 | a::r=>by rw[rowsF,A9,hf,G5 hf r,List.length_cons,Nat.succ_mul,Nat.add_comm]
theorem Y9 {α:Type} {f:α->List Value} {k:Nat} (hf:∀a,(f a).length=k):∀(l:List α) (i:Nat) (a:α),l[i]?=some a->∀(j:Nat) (u:Value),(f a)[j]?=some u->(rowsF f l)[i*k+j]?=some u
 | q::r,0,a,h,j,u,hu=>by
  obtain rfl:q=a:=by simpa using h
  have hj:j<(f q).length:=(A2.1 hu).1;rw[rowsF,Nat.zero_mul,Nat.zero_add,List.getElem?_append_left hj];exact hu
 | q::r,i+1,a,h,j,u,hu=>by
  have:=Y9 hf r i a (by simpa using h) j u hu;rw[rowsF,Nat.succ_mul,C9 (by rw[hf];omega),hf,show i*k+k+j-k=i*k+j by omega];exact this
theorem R5 {α:Type} {f:α->List Value} {k:Nat} (hf:∀a,(f a).length=k):∀(l:List α) (i:Nat) (a a':α) (j:Nat) (u:Value),l[i]?=some a->j<k->f a'=(f a).set j u->(rowsF f l).set (i*k+j) u=rowsF f (l.set i a')
 | q::r,0,a,a',j,u,h,hj,e=>by
  obtain rfl:q=a:=by simpa using h
  rw[rowsF,Nat.zero_mul,Nat.zero_add,List.set_append_left _ _ (by rw[hf];exact hj),← e];rfl
 | q::r,i+1,a,a',j,u,h,hj,e=>by
  have:=R5 hf r i a a' j u (by simpa using h) hj e;rw[rowsF,Nat.succ_mul,List.set_append_right _ _ (by rw[hf];omega),hf,show i*k+k+j-k=i*k+j by omega,this];rfl
theorem AeB {α:Type} {f:α->List Value} {k:Nat} (hf:∀a,(f a).length=k) (l:List α) (i:Nat) (hi:i<=l.length):(rowsF f l).take (i*k)=rowsF f (l.take i):=by
 have h:rowsF f l=rowsF f (l.take i)++rowsF f (l.drop i):=by rw[← K6,List.take_append_drop]
 rw[h,List.take_left' (by rw[G5 hf,B7,Nat.min_eq_left hi])]
theorem AaD {α:Type} {f:α->List Value} (l:List α) (h:∀a∈l,∀u∈f a,u.oneCell'=true):∀u∈rowsF f l,u.oneCell'=true:=by
 induction l with
 | nil=>intro u hu;simp[rowsF] at hu
 | cons a r ih =>
  intro u hu;rw[rowsF,D1] at hu;rcases hu with hu|hu
  ·exact h a (by simp) u hu
  ·exact ih (λb hb=>h b (by simp[hb])) u hu
theorem G8 {α:Type} {f:α->List Value} {k:Nat} (hf:∀a,(f a).length=k) {w:World} {base e n g cap:Nat} {l:List α} (h:w.ownsRow base e k (.slice (some ⟨g,0,none⟩) n cap) n (rowsF f l)) {i:Nat} {a:α} (hi:l[i]?=some a):w.rangeAt g (i*k) (f a):=λj u hu=>by
 have h1:=Y9 hf l i a hi j u hu;have hj:i*k+j<n*k:=by rw[← h.1];exact (A2.1 h1).1
 rw[h.cellAt (i*k+j) hj];exact h1
theorem O8 {α:Type} {f:α->List Value} {k:Nat} (hk:0<k) (hf:∀a,(f a).length=k) {w:World} {b o:Nat} {l:List α} (h:∀(i:Nat) (a:α),l[i]?=some a->w.rangeAt b (o+i*k) (f a)):∀(j:Nat) (u:Value),(rowsF f l)[j]?=some u->w.cell? ((⟨b,o,none⟩:Addr).add j)=some u:=λj u hu=>by
 have hj:j<l.length*k:=by rw[← G5 hf];exact (A2.1 hu).1
 have hi:j / k<l.length:=Nat.div_lt_of_lt_mul (by rw[Nat.mul_comm];exact hj);have hm:j % k<k:=Nat.mod_lt _ hk;have hp:=A0 hi;have hl:j % k<(f (l[j / k])).length:=by rw[hf];exact hm
 have h3:=Y9 hf l (j / k) _ hp (j % k) _ (A0 hl);have ej:j / k*k+j % k=j:=by rw[Nat.mul_comm];exact Nat.div_add_mod j k
 rw[ej,hu] at h3;have h4:=h (j / k) _ hp (j % k) _ (A0 hl);rw[Addr.add_mid,show o+j=o+j / k*k+j % k by omega,h4];exact h3.symm
abbrev Rv:=Rb×Value×Value
def rowR (p:Rv):List Value:=[.string p.1.nm,p.2.1,p.2.2,.string p.1.ad,.int .i64 p.1.si,.int .i64 p.1.st]
theorem G6 (p:Rv):(rowR p).length=6:=rfl
theorem G9 (p:Ph):p.cells.length=8:=rfl
theorem M9 (p:Sl):p.cells.length=2:=rfl
def Done.cells (d:Done):List Value:=[.string d.nm,.int .i64 d.e,.int .i64 d.t]
theorem G7 (d:Done):d.cells.length=3:=rfl
structure RcW (w:World) (base:Nat) (p:Rv):Prop where
 r:w.ownsRow base 84 8 p.2.1 p.1.ps.length (rowsF Ph.cells p.1.ps)
 s:w.ownsRow base 169 2 p.2.2 p.1.sl.length (rowsF Sl.cells p.1.sl)
 nr:NN p.2.1
 ns:NN p.2.2
 zp:Sized p.1.ps
 zs:∀y∈p.1.sl,y.s.size<=maxLen/\y.t.size<=maxLen
 zn:p.1.nm.size<=maxLen
 np:p.1.ps.length<=1048576
 nl:p.1.sl.length<=1048576
theorem RcW.v {w:World} {base:Nat} {p:Rv} (h:RcW w base p):RbV w p.1 p.2.1 p.2.2:=by
 have hr:=h.r;have hs:=h.s;obtain⟨g,n,c,e⟩:=h.nr;obtain⟨g2,n2,c2,e2⟩:=h.ns;obtain⟨_,_,e3⟩:=F2 hr;obtain⟨_,_,e4⟩:=F2 hs;rw[e] at e3;rw[e2] at e4;simp only[Value.slice.injEq] at e3 e4;obtain⟨-,rfl,-⟩:=e3;obtain⟨-,rfl,-⟩:=e4;rw[e] at hr;rw[e2] at hs;have hc:=Y7 hr;refine⟨⟨g,0,c,e,λi q hq=>?_,(hr.lt g rfl).2,hc.1,?_⟩,⟨g2,0,c2,e2,λi q hq=>?_,(hs.lt g2 rfl).2⟩,h.zp,h.zs,h.zn,h.np,h.nl⟩
 ·rw[Nat.zero_add];exact G8 G9 hr hq
 ·have:=hc.2;unfold maxLen at this;omega
 ·rw[Nat.zero_add];exact G8 M9 hs hq
theorem RcW.low {w:World} {base base':Nat} {p:Rv} (h:RcW w base p) (hb:base'<=base):RcW w base' p:=⟨G4 h.r hb,G4 h.s hb,h.nr,h.ns,h.zp,h.zs,h.zn,h.np,h.nl⟩
theorem RcW.up {w w':World} {base:Nat} {p:Rv} (h:RcW w base p) (hb:Below w.heap.size w w'):RcW w' base p:=⟨E1 h.r hb,E1 h.s hb,h.nr,h.ns,h.zp,h.zs,h.zn,h.np,h.nl⟩
theorem RcW.gr {w w':World} {base rb:Nat} {p:Rv} (h:RcW w base p) (hg:w.grownBy w' (some rb)) (hr:rb<base):RcW w' base p:=⟨E9 h.r hg hr,E9 h.s hg hr,h.nr,h.ns,h.zp,h.zs,h.zn,h.np,h.nl⟩
theorem RcW.step {w w':World} {base b2 e k n:Nat} {v:Value} {xs:List Value} {p:Rv} (h:RcW w base p) (hrow:w.ownsRow b2 e k v n xs) (h1:84≠e) (h2:169≠e) (hg:w.grownBy w' v.ownBlock):RcW w' base p :=
 ⟨E2 h.r hg (E5 h.r hrow h1),E2 h.s hg (E5 h.s hrow h2),h.nr,h.ns,h.zp,h.zs,h.zn,h.np,h.nl⟩
theorem RcW.as {w:World} {base:Nat} {p:Rv} {y:Rb} (h:RcW w base p) (h1:y.ps=p.1.ps) (h2:y.sl=p.1.sl) (h3:y.nm=p.1.nm):RcW w base (y,p.2.1,p.2.2) :=
 ⟨by rw[h1];exact h.r,by rw[h2];exact h.s,h.nr,h.ns,by rw[h1];exact h.zp,by rw[h2];exact h.zs,by rw[h3];exact h.zn,by rw[h1];exact h.np,by rw[h2];exact h.nl⟩
def RbsW (w:World) (base:Nat) (v:Value) (ps:List Rv):Prop:=w.ownsRow base 52 6 v ps.length (rowsF rowR ps)/\∀p∈ps,RcW w base p
theorem RbsW.low {w:World} {base base':Nat} {v:Value} {ps:List Rv} (h:RbsW w base v ps) (hb:base'<=base):RbsW w base' v ps:=⟨G4 h.1 hb,λp hp=>(h.2 p hp).low hb⟩
theorem RbsW.up {w w':World} {base:Nat} {v:Value} {ps:List Rv} (h:RbsW w base v ps) (hb:Below w.heap.size w w'):RbsW w' base v ps:=⟨E1 h.1 hb,λp hp=>(h.2 p hp).up hb⟩
theorem RbsW.gr {w w':World} {base rb:Nat} {v:Value} {ps:List Rv} (h:RbsW w base v ps) (hg:w.grownBy w' (some rb)) (hr:rb<base):RbsW w' base v ps:=⟨E9 h.1 hg hr,λp hp=>(h.2 p hp).gr hg hr⟩
theorem RbsW.rbs {w:World} {base:Nat} {v:Value} {ps:List Rv} {bs:List Rb} (h:RbsW w base v ps) (hm:ps.map (·.1)=bs):Rbs w v bs:=by
 subst hm;have hl:(ps.map (·.1)).length=ps.length:=B4 _;obtain⟨a,c,rfl⟩:=F2 h.1;refine⟨a,c,by rw[hl],by rw[hl];exact Aav h.1,λhp=>?_⟩;rw[hl] at hp;obtain⟨g,cap,hv⟩:=F4 h.1 hp;obtain⟨rfl,-,rfl⟩:=Value.slice.inj hv;refine⟨g,0,rfl,λi x hx=>?_,(h.1.lt g rfl).2⟩;rw[B0,B5] at hx;obtain⟨p,hp',rfl⟩:=hx;refine⟨p.2.1,p.2.2,?_,(h.2 p (A6 hp')).v⟩;rw[Nat.zero_add];exact G8 G6 h.1 hp'
theorem Ac6 {w:World} {base:Nat} {p:Rv} (h:RcW w base p):∀u∈rowR p,u.oneCell'=true:=λu hu=>by
 obtain⟨g,n,c,e⟩:=h.nr;obtain⟨g2,n2,c2,e2⟩:=h.ns;simp only[rowR,e,e2,List.mem_cons,List.not_mem_nil,or_false] at hu;rcases hu with rfl|rfl|rfl|rfl|rfl|rfl<;>rfl
theorem RbsW.app {w w':World} {base:Nat} {v v':Value} {ps:List Rv} {p:Rv} (h:RbsW w base v ps) (hp:RcW w base p) (hg:w.grownBy w' v.ownBlock) (ho:w'.ownsRow base 52 6 v' (ps.length+1) (rowsF rowR ps++rowR p)):RbsW w' base v' (ps++[p]):=by
 refine⟨?_,λq hq=>?_⟩
 ·rw[A9,K6]
  simpa [rowsF] using ho
 ·rcases D1.1 hq with h1|h1
  ·exact (h.2 q h1).step h.1 (by decide) (by decide) hg
  ·obtain rfl:q=p:=by simpa using h1
   exact hp.step h.1 (by decide) (by decide) hg
theorem hnew6 (w:World) (x0 x1 x2 x3 x4 x5:Value) (ty:TypeId) {j:Nat} {v:Value} (h:[x0,x1,x2,x3,x4,x5][j]?=some v):(w.alloc (.cells #[x0,x1,x2,x3,x4,x5] ty)).cell? ((⟨w.heap.size,0,none⟩:Addr).add j)=some v:=by
 have hj:j < [x0,x1,x2,x3,x4,x5].length:=(A2.1 h).1;have:=(E7 w [x0,x1,x2,x3,x4,x5] ty).1 j v h;rw[Addr.add_mid];exact this
theorem RbsW.put {w:World} {base g n cap i j:Nat} {u:Value} {ps:List Rv} {p:Rv} {y:Rb} (h:RbsW w base (.slice (some ⟨g,0,none⟩) n cap) ps) (hp:ps[i]?=some p) (hj:j<6) (hy:rowR (y,p.2.1,p.2.2)=(rowR p).set j u) (h1:y.ps=p.1.ps) (h2:y.sl=p.1.sl) (h3:y.nm=p.1.nm) :
  RbsW (w.setCell ⟨g,i*6+j,none⟩ u) base (.slice (some ⟨g,0,none⟩) n cap) (ps.set i (y,p.2.1,p.2.2)):=by
 obtain⟨_,_,e⟩:=F2 h.1;simp only[Value.slice.injEq] at e;obtain⟨-,rfl,-⟩:=e;have hi:i<ps.length:=(A2.1 hp).1;have hs:=(B3 h.1 (i*6+j) u).1;rw[R5 G6 ps i p (y,p.2.1,p.2.2) j u hp hj hy] at hs;have hg:w.grownBy (w.setCell ⟨g,i*6+j,none⟩ u) (Value.slice (some ⟨g,0,none⟩) ps.length cap).ownBlock:=E0 (E4 _ _) _;refine⟨by rw[List.length_set];exact hs,λq hq=>?_⟩;have hk:∀q,RcW w base q->RcW (w.setCell ⟨g,i*6+j,none⟩ u) base q:=λq hq=>hq.step h.1 (by decide) (by decide) hg;rcases List.mem_or_eq_of_mem_set hq with hq|rfl
 ·exact hk q (h.2 q hq)
 ·exact hk _ ((h.2 p (A6 hp)).as h1 h2 h3)
theorem BkW.step {w w':World} {base b2 e k n:Nat} {v u:Value} {b:Bk} {xs:List Value} (h:BkW w base v b) (hrow:w.ownsRow b2 e k u n xs) (h1:9≠e) (h2:128≠e) (hg:w.grownBy w' u.ownBlock):BkW w' base v b:=by
 obtain⟨tu,bu,ps,rfl,a1,a2,a3⟩:=h;exact⟨tu,bu,ps,rfl,E2 a1 hg (E5 a1 hrow h1),⟨E2 a2.1 hg (E5 a2.1 hrow h2),λp hp=>⟨E2 (a2.2 p hp).1 hg (E5 (a2.2 p hp).1 hrow h1),E2 (a2.2 p hp).2.1 hg (E5 (a2.2 p hp).2.1 hrow h1),(a2.2 p hp).2.2⟩⟩,a3⟩
def DnsW (w:World) (base:Nat) (v:Value) (ds:List Done):Prop:=∃(g cap:Nat) (pre:List Done),v=.slice (some ⟨g,pre.length*3,none⟩) ds.length cap/\w.ownsRow base 90 3 (.slice (some ⟨g,0,none⟩) (pre.length+ds.length) (pre.length+cap)) (pre.length+ds.length) (rowsF Done.cells (pre++ds))/\∀d∈ds,d.nm.size<=maxLen
theorem DnsW.low {w:World} {base base':Nat} {v:Value} {ds:List Done} (h:DnsW w base v ds) (hb:base'<=base):DnsW w base' v ds:=by
 obtain⟨g,cap,pre,e,h1,h2⟩:=h;exact⟨g,cap,pre,e,G4 h1 hb,h2⟩
theorem DnsW.up {w w':World} {base:Nat} {v:Value} {ds:List Done} (h:DnsW w base v ds) (hb:Below w.heap.size w w'):DnsW w' base v ds:=by
 obtain⟨g,cap,pre,e,h1,h2⟩:=h;exact⟨g,cap,pre,e,E1 h1 hb,h2⟩
theorem DnsW.step {w w':World} {base b2 e k n:Nat} {v u:Value} {ds:List Done} {xs:List Value} (h:DnsW w base v ds) (hrow:w.ownsRow b2 e k u n xs) (h1:90≠e) (hg:w.grownBy w' u.ownBlock):DnsW w' base v ds:=by
 obtain⟨g,cap,pre,e,a1,a2⟩:=h;exact⟨g,cap,pre,e,E2 a1 hg (E5 a1 hrow h1),a2⟩
theorem DnsW.dns {w:World} {base:Nat} {v:Value} {ds:List Done} (h:DnsW w base v ds):Dns w v ds:=by
 obtain⟨g,cap,pre,rfl,h1,h2⟩:=h;refine⟨_,cap,rfl,by have:=Aav h1;omega,λ_=>⟨g,pre.length*3,rfl,λi d hd=>⟨?_,h2 d (A6 hd)⟩,(h1.lt g rfl).2⟩⟩;have hi:(pre++ds)[pre.length+i]?=some d:=by rw[C9 (by omega),Nat.add_sub_cancel_left];exact hd
 have:=G8 G7 h1 hi;rw[Nat.add_mul] at this;exact this
theorem Aoc {w:World} {base:Nat} {v:Value} {ds:List Done} (h:w.ownsRow base 90 3 v ds.length (rowsF Done.cells ds)) (hn:NN v) (hz:∀d∈ds,d.nm.size<=maxLen):DnsW w base v ds:=by
 obtain⟨g,n,c,rfl⟩:=hn;obtain⟨_,_,e⟩:=F2 h;simp only[Value.slice.injEq] at e;obtain⟨-,rfl,-⟩:=e;exact⟨g,c,[],by simp,by simpa using h,hz⟩
theorem Dns.sized {w:World} {v:Value} {ds:List Done} (h:Dns w v ds):∀d∈ds,d.nm.size<=maxLen:=λd hd=>by
 obtain⟨a,c,-,-,h2⟩:=h;obtain⟨i,hi,rfl⟩:=B6 hd;obtain⟨b,o,-,hD,-⟩:=h2 (by omega);exact (hD i _ (A0 hi)).2
structure HW (w:World) (base:Nat) (h:House) (tv bv xv dv:Value):Prop where
 k:BkW w base (.agg #[tv,bv]) h.sh
 z:Szb h.sh
 x:∃ps,RbsW w base xv ps/\ps.map (·.1)=h.bs
 d:DnsW w base dv h.ds
theorem HW.v {w:World} {base:Nat} {h:House} {tv bv xv dv:Value} (H:HW w base h tv bv xv dv):HV w h tv bv xv dv:=by
 obtain⟨ps,h1,h2⟩:=H.x;obtain⟨t,b,e,k1,k2⟩:=H.k.bk H.z;simp at e;obtain⟨rfl,rfl⟩:=e;exact⟨k1,k2,h1.rbs h2,H.d.dns⟩
theorem HW.low {w:World} {base base':Nat} {h:House} {tv bv xv dv:Value} (H:HW w base h tv bv xv dv) (hb:base'<=base):HW w base' h tv bv xv dv:=by
 obtain⟨ps,h1,h2⟩:=H.x;exact⟨H.k.low hb,H.z,⟨ps,h1.low hb,h2⟩,H.d.low hb⟩
theorem HW.up {w w':World} {base:Nat} {h:House} {tv bv xv dv:Value} (H:HW w base h tv bv xv dv) (hb:Below w.heap.size w w'):HW w' base h tv bv xv dv:=by
 obtain⟨ps,h1,h2⟩:=H.x;exact⟨H.k.up hb,H.z,⟨ps,h1.up hb,h2⟩,H.d.up hb⟩
end Go.Proofs.YtebfdccbmmpceaaGreatDoor
