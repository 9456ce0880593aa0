/- The laws' own helpers over lists of texts and books. -/
import Derived.Test.YtebfdccbmmpceaaGreatDoorJ24
import Derived.Test.YtebfdccbmmpceaaGreatDoorJ2
import Derived.Test.YtebfdccbmmpceaaGreatDoorJ0
import Derived.Laws.IdiomStrings
set_option maxRecDepth 20000
set_option maxHeartbeats 2000000
namespace Go.Proofs.YtebfdccbmmpceaaGreatDoor
open Go.RowKit
theorem AhY (x:Ba) (hv nv:Value) (l:Int) (w:World) (h1:Ls w hv x.has) (h2:Ls w nv x.needs) (hz:x.nm.size<=maxLen) (hl:0<=l) (hl':l<=1048576) :
  Calls Tryz.prog 72 #[.agg #[.string x.nm,hv,nv],.int .i64 l] w λe w'=>(∃y:Int,e=.returned (.int .i64 y)/\y<=l/\(0<=y->x.has.length<=1048576/\x.needs.length<=1048576))/\Below w.heap.size w w':=by
 obtain⟨a1,c1,rfl,-⟩:=id h1;obtain⟨a2,c2,rfl,-⟩:=id h2;unfold maxLen at hz;have hB0:=(A4 w.heap.size w).alloc (A3 _) (.cells #[.string x.nm,.slice a1 x.has.length c1,.slice a2 x.needs.length c2] 119);by_cases h0:l-x.nm.size<0
 ·go_enter Tryz.func72,Tryz.ntmps72
  go_wp2
  go_ret
  exact⟨⟨_,rfl,by omega,by omega⟩,hB0⟩
 go_enter Tryz.func72,Tryz.ntmps72
 go_wp2_with fail
 refine (Adh x.has _ _ _ (h1.up hB0) (by omega) (by omega)).mono ?_;rintro e w' ⟨⟨y1,rfl,hy1,hy1'⟩,hw⟩;obtain rfl:=hw.symm;by_cases g1:y1<0
 ·go_wp2_with fail
  go_ret
  exact⟨⟨_,rfl,by omega,by omega⟩,hB0⟩
 go_wp2_with fail
 refine (Adh x.needs _ _ _ (h2.up hB0) (by omega) (by omega)).mono ?_;rintro e w' ⟨⟨y2,rfl,hy2,hy2'⟩,hw⟩;obtain rfl:=hw.symm;by_cases g2:y2<0
 ·go_wp2_with fail
  go_ret
  exact⟨⟨_,rfl,by omega,by omega⟩,hB0⟩
 go_wp2_with fail
 go_ret
 exact⟨⟨_,rfl,by omega,λ_=>⟨by omega,by omega⟩⟩,hB0⟩
def Small (b:Bk):Prop:=b.things.length<=1048576/\b.bs.length<=1048576/\∀x∈b.bs,x.has.length<=1048576/\x.needs.length<=1048576
theorem AgR (bs:List Ba) (v:Value) (l:Int) (w:World) (h:Bs w v bs) (hl:0<=l) (hl':l<=1048576) :
  Calls Tryz.prog 33 #[v,.int .i64 l] w λe w'=>(∃x:Int,e=.returned (.int .i64 x)/\x<=l/\(0<=x->bs.length<=1048576/\∀y∈bs,y.has.length<=1048576/\y.needs.length<=1048576))/\Below w.heap.size w w':=by
 obtain⟨a,c,rfl,hn,hpos⟩:=h;unfold maxLen at hn;by_cases h0:l-bs.length<0
 ·go_enter Tryz.func33,Tryz.ntmps33
  go_wp2
  go_ret
  exact⟨⟨_,rfl,by omega,by omega⟩,A4 _ _⟩
 have H0:Hid ((bs.length:Int)<=l):=by show _<=_;omega
 go_enter Tryz.func33,Tryz.ntmps33
 go_wp2
 go_loopw [1,5] (λx i w'=>∃(k:Nat) (y:Int),k<=bs.length/\i=.int .i64 k/\x=.int .i64 y/\0<=y/\y<=l/\(∀(j:Nat) (z:Ba),j<k->bs[j]?=some z->z.has.length<=1048576/\z.needs.length<=1048576)/\Below w.heap.size w w') (λ_ i _=>bs.length-(intOf i).toNat)
 case atStart=>exact⟨0,_,by omega,rfl,rfl,by omega,by omega,λj z hj=>by omega,A4 _ _⟩
 case round =>
  obtain⟨k,y,hk,rfl,rfl,hy,hy',hall,hB⟩:=hrel;have Hall:Hid (∀(j:Nat) (z:Ba),j<k->bs[j]?=some z->z.has.length<=1048576/\z.needs.length<=1048576):=hall;clear hall;by_cases hp:k<bs.length
  ·obtain⟨b,o,rfl,hS,hb⟩:=hpos (by omega)
   obtain⟨a1,d1,a2,d2,c0,c1,c2,l1,l2,z0⟩:=((hS.at hp).up hB hb).cells;have Hx:Hid (bs[k]?=some bs[k]):=A0 hp;generalize bs[k]=x0 at *;go_wp2_with fail
   refine (AhY x0 _ _ _ _ l1 l2 z0 hy (by omega)).mono ?_;rintro e w1 ⟨⟨y1,rfl,hy1,hy1'⟩,hb1⟩;have hB1:=D6 hB hb1;clear c0 c1 c2 l1 l2 hS;by_cases g1:y1<0
   ·go_wp2_with fail
    go_ret
    exact⟨⟨_,rfl,by omega,by omega⟩,hB1⟩
   ·have H1:Hid (x0.has.length<=1048576/\x0.needs.length<=1048576):=hy1' (by omega)
    clear hy1';go_wp2_with fail
    go_roundw
    case rel =>
     refine⟨k+1,y1,by omega,by go_num,rfl,by omega,by omega,λj z hj hz=>?_,hB1⟩;by_cases e:j=k
     ·subst e
      rw[Hx.out] at hz;obtain rfl:=A5 hz;exact H1.out
     ·exact Hall.out j z (by omega) hz
    case measure=>simp[intOf];omega
  ·go_wp2_with fail
   go_ret
   refine⟨⟨_,rfl,by omega,λ_=>⟨by have:=H0.out;omega,λz hz=>?_⟩⟩,hB⟩;obtain⟨j,hj,rfl⟩:=B6 hz;exact Hall.out j _ (by omega) (by rw[A0])
theorem AjH (b:Bk) (v:Value) (l:Int) (w:World) (h:BkV w v b) (hl:0<=l) (hl':l<=1048576) :
  Calls Tryz.prog 11 #[v,.int .i64 l] w λe w'=>(∃x:Int,e=.returned (.int .i64 x)/\x<=l/\(0<=x->Small b))/\Below w.heap.size w w':=by
 obtain⟨a1,c1,a2,c2,rfl,h1,h2⟩:=h.parts;have hB0:=(A4 w.heap.size w).alloc (A3 _) (.cells #[.slice a1 b.things.length c1,.slice a2 b.bs.length c2] 25);go_enter Tryz.func11,Tryz.ntmps11
 go_wp2_with fail
 refine (Adh b.things _ _ _ (h1.up hB0) hl hl').mono ?_;rintro e w' ⟨⟨y1,rfl,hy1,hy1'⟩,hw⟩;obtain rfl:=hw.symm;by_cases g1:y1<0
 ·go_wp2_with fail
  go_ret
  exact⟨⟨_,rfl,by omega,by omega⟩,hB0⟩
 go_wp2_with fail
 refine (AgR b.bs _ _ _ (h2.up hB0) (by omega) (by omega)).mono ?_;rintro e w1 ⟨⟨y2,rfl,hy2,hy2'⟩,hb1⟩;have hB1:=D6 hB0 hb1;by_cases g2:y2<0
 ·go_wp2_with fail
  go_ret
  exact⟨⟨_,rfl,by omega,by omega⟩,hB1⟩
 have H2:=hy2' (by omega);clear hy2';go_wp2_with fail
 go_ret
 exact⟨⟨_,rfl,by omega,λ_=>⟨by omega,H2.1,H2.2⟩⟩,hB1⟩
theorem AiO:(Tryz.prog.info? 128).map (·.size)=some 3:=by kernel_rfl
theorem sizeBk:(Tryz.prog.info? 33).map (·.size)=some 2:=by kernel_rfl
theorem AhZ (x:Ba) (hv nv:Value) (w:World) (h1:Ls w hv x.has) (h2:Ls w nv x.needs) (hn:x.has.length<=1048576) (hn2:x.needs.length<=1048576) :
  Calls Tryz.prog 94 #[.agg #[.string x.nm,hv,nv]] w λe w'=>(∃hu nu,e=.returned (.agg #[.string x.nm,hu,nu])/\LsO w' w.heap.size hu x.has/\LsO w' w.heap.size nu x.needs)/\Below w.heap.size w w':=by
 obtain⟨a1,c1,rfl,-⟩:=id h1;obtain⟨a2,c2,rfl,-⟩:=id h2;go_enter Tryz.func94,Tryz.ntmps94
 go_upto_region 2 with fail
 obtain⟨W1,hW1,kP,kR,kO,hB1,hs1⟩:=AeP w [.string x.nm,.slice a1 x.has.length c1,.slice a2 x.needs.length c2] 119 [.string ⟨#[]⟩,.slice none 0 0,.slice none 0 0] 128 [.string ⟨#[]⟩,.slice none 0 0,.slice none 0 0] 128;rw[hW1];clear hW1;obtain⟨W2,hW2,kP2,kR2,kO2,hB2,hs2⟩:∃W2,W1.setCell ⟨w.heap.size+2,0,none⟩ (.string x.nm)=W2/\CB W2 w.heap.size [.string x.nm,.slice a1 x.has.length c1,.slice a2 x.needs.length c2]/\CB W2 (w.heap.size+1) [.string ⟨#[]⟩,.slice none 0 0,.slice none 0 0]/\CB W2 (w.heap.size+2) [.string x.nm,.slice none 0 0,.slice none 0 0]/\Below w.heap.size w W2/\W2.heap.size=w.heap.size+3:=⟨_,rfl,kP.other (by omega),kR.other (by omega),kO.set (j:=0) (by simp),J1 hB1 (by omega) _,by simpa using hs1⟩;obtain⟨⟨p0,p1,p2⟩,-⟩:=kP.c3;obtain⟨⟨o0,o1,o2⟩,f0,f1,f2⟩:=kO.c3;go_upto_region 3 with fail
 try rw[hW2]
 clear hW2 p0 p1 p2 o0 o1 o2 f0 f1 f2 kP kR kO hB1 hs1;obtain⟨⟨p0,p1,p2⟩,-⟩:=kP2.c3;go_wp2_with fail
 refine (Adi x.has _ _ (h1.up hB2) hn).mono ?_;rintro e w3 ⟨⟨hu,rfl,ho1⟩,hb3⟩;rw[hs2] at ho1;have hz3:=hb3.size;have kP3:=kP2.up hb3 (by omega);have kR3:=kR2.up hb3 (by omega);have kO3:=kO2.up hb3 (by omega);have hB3:=D6 hB2 hb3;obtain⟨b1,hb1⟩:=ho1.shape;subst hb1;clear p0 p1 p2 kP2 kR2 kO2 hB2 hb3;obtain⟨W4,hW4,kP4,kR4,kO4,ho4,hB4,hs4⟩:∃W4,w3.setCell ⟨w.heap.size+2,1,none⟩ (.slice (some ⟨b1,0,none⟩) x.has.length x.has.length)=W4/\CB W4 w.heap.size [.string x.nm,.slice a1 x.has.length c1,.slice a2 x.needs.length c2]/\CB W4 (w.heap.size+1) [.string ⟨#[]⟩,.slice none 0 0,.slice none 0 0]/\CB W4 (w.heap.size+2) [.string x.nm,.slice (some ⟨b1,0,none⟩) x.has.length x.has.length,.slice none 0 0]/\LsO W4 (w.heap.size+3) (.slice (some ⟨b1,0,none⟩) x.has.length x.has.length) x.has/\Below w.heap.size w W4/\W4.heap.size=w3.heap.size:=⟨_,rfl,kP3.other (by omega),kR3.other (by omega),kO3.set (j:=1) (by simp),ho1.set (by omega),J1 hB3 (by omega) _,by simp⟩;obtain⟨⟨o0,o1,o2⟩,f0,f1,f2⟩:=kO3.c3;go_upto_region 4 with fail
 try rw[hW4]
 clear hW4 o0 o1 o2 f0 f1 f2 kP3 kR3 kO3 ho1 hB3;obtain⟨⟨p0,p1,p2⟩,-⟩:=kP4.c3;go_wp2_with fail
 refine (Adi x.needs _ _ (h2.up hB4) hn2).mono ?_;rintro e w5 ⟨⟨nu,rfl,ho2⟩,hb5⟩;have hz5:=hb5.size;have kR5:=kR4.up hb5 (by omega);have kO5:=kO4.up hb5 (by omega);have ho5:=ho4.up hb5;have ho6:=ho2.low (base':=w.heap.size+3) (by omega);have hB5:=D6 hB4 hb5;obtain⟨b2,hb2⟩:=ho2.shape;subst hb2;clear p0 p1 p2 kP4 kR4 kO4 hB4 hb5 ho4 ho2;obtain⟨⟨o0,o1,o2⟩,f0,f1,f2⟩:=kO5.c3;obtain⟨⟨r0,r1,r2⟩,g0,g1,g2⟩:=kR5.c3;have hR6:=kR5.other (q:=w.heap.size+2) (j:=2) (u:=.slice (some ⟨b2,0,none⟩) x.needs.length x.needs.length) (by omega);go_wp2_with fail
 refine Ai4 Tryz.results94 Tryz.underlying128 rfl AiO hR6 rfl ?_;refine⟨⟨_,_,rfl,?_,?_⟩,Aeq (J1 hB5 (by omega) _) (by omega) _ _ _⟩
 ·exact ((((ho5.set (by omega)).set (by omega)).set (by omega)).set (by omega)).low (by omega)
 ·exact ((((ho6.set (by omega)).set (by omega)).set (by omega)).set (by omega)).low (by omega)
theorem Aob:(Tryz.prog.info? 128).map (λi=>(i.zero,i.size,i.bytes))=some (some (.agg #[.string ⟨#[]⟩,.slice none 0 0,.slice none 0 0]),3,64):=by kernel_rfl
theorem AgS (n:Nat) (hn:n<=1048576):∃C:Array Value,C.size=n*3/\∀w,(Instr.makeSlice 31 (.int .i64 (n:Int)) (.int .i64 (n:Int))).run Tryz.prog w=.ok (.slice (some ⟨w.heap.size,0,none⟩) n n) (w.alloc (.cells C 128)):=by
 obtain⟨i,hi,hz⟩:=B5.1 Aob;simp only[Prod.mk.injEq] at hz;obtain⟨hz,hs,hb⟩:=hz;refine⟨madeCells (Value.agg #[.string ⟨#[]⟩,.slice none 0 0,.slice none 0 0]).cells (n*3),size_madeCells _ _,λw=>?_⟩;have:=run_make (P:=Tryz.prog) w 31 128 i _ Tryz.underlying31 hi hz .i64 .i64 (n:Int) (n:Int) (by omega) (by omega) (by rw[hb];omega) (by omega);simp only[Int.toNat_natCast,hs] at this;exact this
theorem AgT (bs:List Ba) (v:Value) (w:World) (h:Bs w v bs) (hn:bs.length<=1048576) (hsm:∀y∈bs,y.has.length<=1048576/\y.needs.length<=1048576) :
  Calls Tryz.prog 49 #[v] w λe w'=>(∃u,e=.returned u/\BsO w' w.heap.size u bs)/\Below w.heap.size w w':=by
 obtain⟨a,c,rfl,hm,hpos⟩:=h;obtain⟨C,hC,hmk⟩:=AgS bs.length hn;have HC:Hid (C.size=bs.length*3):=hC;have Hm:Hid (bs.length<=maxLen):=hm;clear hC hm;go_enter Tryz.func49,Tryz.ntmps49
 go_wp2
 go_loopw [4] (λi w'=>∃k:Nat,k<=bs.length/\i=.int .i64 k/\BsOAt w' w.heap.size (bs.take k)/\w'.there w.heap.size 0 (bs.length*3)/\w.heap.size<w'.heap.size/\Below w.heap.size w w') (λi _=>bs.length-(intOf i).toNat)
 case atStart=>exact⟨0,by omega,rfl,λi p hp=>by simp at hp,by rw[← HC.out];exact S2 _ _ _,by simp,by go_grown⟩
 case round =>
  obtain⟨k,hk,rfl,hra,hth,hlt,hB⟩:=hrel;have Hra:Hid (BsOAt wr w.heap.size (bs.take k)):=hra;have Hth:Hid (wr.there w.heap.size 0 (bs.length*3)):=hth;clear hra hth;by_cases hp:k<bs.length
  ·obtain⟨b,o,rfl,hS,hb⟩:=hpos (by omega)
   obtain⟨a1,d1,a2,d2,c0,c1,c2,l1,l2,z0⟩:=((hS.at hp).up hB hb).cells;obtain⟨s1,s2⟩:=hsm bs[k] (by simp);have HS:Hid (∀(w1:World) (hu nu:Value),BsOAt w1 w.heap.size (bs.take k)->w1.there w.heap.size 0 (bs.length*3)->LsO w1 (w.heap.size+1) hu (bs[k]).has->LsO w1 (w.heap.size+1) nu (bs[k]).needs->BsOAt (w1.setCells w.heap.size (k*3) [.string (bs[k]).nm,hu,nu]) w.heap.size (bs.take (k+1))):=λw1 hu nu g1 g2 g3 g4=>Ak3 hp g1 g2 g3 g4 z0;generalize bs[k]=x0 at *;go_wp2_with fail
   refine (AhZ x0 _ _ _ l1 l2 s1 s2).mono ?_;rintro e w1 ⟨⟨hu,nu,rfl,ho1,ho2⟩,hb1⟩;have HS1:Hid (BsOAt (w1.setCells w.heap.size (k*3) [.string x0.nm,hu,nu]) w.heap.size (bs.take (k+1))):=HS.out w1 hu nu (Hra.out.up hb1 hlt) (I8 Hth.out hb1 hlt) (ho1.low (by omega)) (ho2.low (by omega));have hB1:=D6 hB hb1;have hlt1:=A1 hlt hb1.size;have Hth1:Hid (w1.there w.heap.size 0 (bs.length*3)):=I8 Hth.out hb1 hlt;obtain⟨b1,rfl⟩:=ho1.shape;obtain⟨b2,rfl⟩:=ho2.shape;clear c0 c1 c2 l1 l2 hS HS ho1 ho2 hb1 hB Hra Hth
   go_wp2_with (refine wpList_store_mid rfl 128 _ _ rfl w.heap.size (k*3) _ rfl rfl (λj hj=>by
     have:=Hth1.out (k*3+j) (by simp at hj;omega);simpa using this) AiO (by simp[Value.oneCell']) ?_)
   go_roundw
   case rel=>exact⟨k+1,by omega,by go_num,HS1.out,World.there_setCells Hth1.out _ _ _,A1 hlt1 (R9 _ _ _ _),M4 _ _ _ _ _ _ hB1 (A3 _)⟩
   case measure=>simp[intOf];omega
  ·go_wp2_with fail
   go_ret
   exact⟨⟨_,rfl,w.heap.size,rfl,by have:=Hra.out;rwa [D3 (by omega)] at this,Hth.out,A3 _,hlt,Hm.out⟩,hB⟩
theorem BsO.shape {w:World} {base:Nat} {v:Value} {bs:List Ba} (h:BsO w base v bs):∃b,v=.slice (some ⟨b,0,none⟩) bs.length bs.length:=by
 obtain⟨b,rfl,-⟩:=h;exact⟨b,rfl⟩
theorem BaO.set {w:World} {b o r j:Nat} {u:Value} {x:Ba} (h:BaO w b o x) (hr:r<b):BaO (w.setCell ⟨r,j,none⟩ u) b o x:=by
 obtain⟨hv,nv,hg,h1,h2,h3⟩:=h;refine⟨hv,nv,λi v hi=>?_,h1.set (by omega),h2.set (by omega),h3⟩;rw[C0 _ _ _ _ (by simp<;>omega)];exact hg i v hi
theorem BsO.set {w:World} {base r j:Nat} {v u:Value} {bs:List Ba} (h:BsO w base v bs) (hr:r<base):BsO (w.setCell ⟨r,j,none⟩ u) base v bs:=by
 obtain⟨b,rfl,h1,ht,h0,h2,h3⟩:=h;exact⟨b,rfl,λi x hx=>(h1 i x hx).set (by omega),Aes ht (E0 (E4 _ (some r)) u) h2 (by simp;omega),h0,by simpa using h2,h3⟩
theorem BsO.low {w:World} {base base':Nat} {v:Value} {bs:List Ba} (h:BsO w base v bs) (hb:base'<=base):BsO w base' v bs:=by
 obtain⟨b,rfl,h1,ht,h0,h2⟩:=h;exact⟨b,rfl,h1,ht,by omega,h2⟩
theorem AjI (b:Bk) (v:Value) (w:World) (h:BkV w v b) (hs:Small b) :
  Calls Tryz.prog 18 #[v] w λe w'=>(∃u,e=.returned u/\BkO w' w.heap.size u b)/\Below w.heap.size w w':=by
 obtain⟨a1,c1,a2,c2,rfl,h1,h2⟩:=h.parts;obtain⟨g1,g2,g3⟩:=hs;go_enter Tryz.func18,Tryz.ntmps18
 go_upto_region 2 with fail
 obtain⟨W1,hW1,kP,kR,kO,hB1,hs1⟩:=AeP w [.slice a1 b.things.length c1,.slice a2 b.bs.length c2] 25 [.slice none 0 0,.slice none 0 0] 33 [.slice none 0 0,.slice none 0 0] 33;try rw[hW1]
 clear hW1;obtain⟨⟨p0,p1⟩,-⟩:=kP.c2;go_wp2_with fail
 refine (Adi b.things _ _ (h1.up hB1) g1).mono ?_;rintro e w3 ⟨⟨tu,rfl,ho1⟩,hb3⟩;rw[hs1] at ho1;have hz3:=hb3.size;have kP3:=kP.up hb3 (by omega);have kR3:=kR.up hb3 (by omega);have kO3:=kO.up hb3 (by omega);have hB3:=D6 hB1 hb3;obtain⟨b1,hb1⟩:=ho1.shape;subst hb1;clear p0 p1 kP kR kO hB1 hb3;obtain⟨W4,hW4,kP4,kR4,kO4,ho4,hB4,hs4⟩:∃W4,w3.setCell ⟨w.heap.size+2,0,none⟩ (.slice (some ⟨b1,0,none⟩) b.things.length b.things.length)=W4/\CB W4 w.heap.size [.slice a1 b.things.length c1,.slice a2 b.bs.length c2]/\CB W4 (w.heap.size+1) [.slice none 0 0,.slice none 0 0]/\CB W4 (w.heap.size+2) [.slice (some ⟨b1,0,none⟩) b.things.length b.things.length,.slice none 0 0]/\LsO W4 (w.heap.size+3) (.slice (some ⟨b1,0,none⟩) b.things.length b.things.length) b.things/\Below w.heap.size w W4/\W4.heap.size=w3.heap.size:=⟨_,rfl,kP3.other (by omega),kR3.other (by omega),kO3.set (j:=0) (by simp),ho1.set (by omega),J1 hB3 (by omega) _,by simp⟩;obtain⟨⟨o0,o1⟩,f0,f1⟩:=kO3.c2;go_upto_region 3 with fail
 try rw[hW4]
 clear hW4 o0 o1 f0 f1 kP3 kR3 kO3 ho1 hB3;obtain⟨⟨p0,p1⟩,-⟩:=kP4.c2;go_wp2_with fail
 refine (AgT b.bs _ _ (h2.up hB4) g2 g3).mono ?_;rintro e w5 ⟨⟨nu,rfl,ho2⟩,hb5⟩;have hz5:=hb5.size;have kR5:=kR4.up hb5 (by omega);have kO5:=kO4.up hb5 (by omega);have ho5:=ho4.up hb5
 have hb1m:b1<W4.heap.size:=by
  obtain⟨b',e,-,-,-,hlt,-⟩:=ho4;have:b1=b':=by simpa using e
  omega
 have hB5:=D6 hB4 hb5;obtain⟨b2,hb2⟩:=ho2.shape;subst hb2;clear p0 p1 kP4 kR4 kO4 hB4 hb5 ho4;obtain⟨⟨o0,o1⟩,f0,f1⟩:=kO5.c2;obtain⟨⟨r0,r1⟩,g0,g1⟩:=kR5.c2;have hR6:=kR5.other (q:=w.heap.size+2) (j:=1) (u:=.slice (some ⟨b2,0,none⟩) b.bs.length b.bs.length) (by omega);go_wp2_with fail
 refine AaW Tryz.results18 Tryz.underlying33 rfl sizeBk hR6 rfl ?_;refine⟨⟨_,rfl,_,_,W4.heap.size,rfl,?_,?_,by omega,λg hg=>?_⟩,F9 (J1 hB5 (by omega) _) (by omega) _ _⟩
 ·exact (((ho5.set (by omega)).set (by omega)).set (by omega)).low (by omega)
 ·exact (((ho2.set (by omega)).set (by omega)).set (by omega))
 ·simp[Value.ownBlock] at hg
  omega
theorem Aia (x:Ba) (hv nv hu nu:Value) (w:World) (h1:Ls w hv x.has) (h2:Ls w nv x.needs) (h3:Ls w hu x.has) (h4:Ls w nu x.needs) :
  Calls Tryz.prog 111 #[.agg #[.string x.nm,hv,nv],.agg #[.string x.nm,hu,nu]] w λe w'=>e=.returned (.bool true)/\Below w.heap.size w w':=by
 obtain⟨a1,c1,rfl,-⟩:=id h1;obtain⟨a2,c2,rfl,-⟩:=id h2;obtain⟨a3,c3,rfl,-⟩:=id h3;obtain⟨a4,c4,rfl,-⟩:=id h4;go_enter Tryz.func111,Tryz.ntmps111
 go_upto_region 1 with fail
 obtain⟨W1,hW1,kP,kR,hB1,hs1⟩:=L1 w [.string x.nm,.slice a1 x.has.length c1,.slice a2 x.needs.length c2] 128 [.string x.nm,.slice a3 x.has.length c3,.slice a4 x.needs.length c4] 128;try rw[hW1]
 clear hW1;obtain⟨⟨p0,p1,p2⟩,-⟩:=kP.c3;obtain⟨⟨r0,r1,r2⟩,-⟩:=kR.c3;go_wp2_with fail
 refine (Aee x.has _ _ _ (h1.up hB1) (h3.up hB1)).mono ?_;rintro e w2 ⟨rfl,hb2⟩;have kP2:=kP.up hb2 (by omega);have kR2:=kR.up hb2 (by omega);have hB2:=D6 hB1 hb2;clear p0 p1 p2 r0 r1 r2 kP kR;obtain⟨⟨p0,p1,p2⟩,-⟩:=kP2.c3;obtain⟨⟨r0,r1,r2⟩,-⟩:=kR2.c3;go_wp2_with fail
 refine (Aee x.needs _ _ _ (h2.up hB2) (h4.up hB2)).mono ?_;rintro e w3 ⟨rfl,hb3⟩;have hB3:=D6 hB2 hb3;clear p0 p1 p2 r0 r1 r2;go_wp2_with fail
 go_ret
 exact⟨rfl,hB3⟩
theorem AgU (bs:List Ba) (va vb:Value) (w:World) (ha:Bs w va bs) (hb:Bs w vb bs) :
  Calls Tryz.prog 60 #[va,vb] w λe w'=>e=.returned (.bool true)/\Below w.heap.size w w':=by
 obtain⟨a1,c1,rfl,hn,hp1⟩:=ha;obtain⟨a2,c2,rfl,-,hp2⟩:=hb;unfold maxLen at hn;go_enter Tryz.func60,Tryz.ntmps60
 go_wp2
 go_loopw [5] (λi w'=>∃k:Nat,k<=bs.length/\i=.int .i64 k/\Below w.heap.size w w') (λi _=>bs.length-(intOf i).toNat)
 case atStart=>exact⟨0,by omega,rfl,A4 _ _⟩
 case round =>
  obtain⟨k,hk,rfl,hB⟩:=hrel;by_cases hp:k<bs.length
  ·obtain⟨g1,o1,rfl,hS1,hg1⟩:=hp1 (by omega)
   obtain⟨g2,o2,rfl,hS2,hg2⟩:=hp2 (by omega);obtain⟨a3,d3,a4,d4,c3,c4,c5,l3,l4,-⟩:=((hS1.at hp).up hB hg1).cells;obtain⟨a5,d5,a6,d6,e3,e4,e5,l5,l6,-⟩:=((hS2.at hp).up hB hg2).cells;have HQ:Hid (∀W,Ls W (.slice a3 (bs[k]).has.length d3) (bs[k]).has->Ls W (.slice a4 (bs[k]).needs.length d4) (bs[k]).needs->Ls W (.slice a5 (bs[k]).has.length d5) (bs[k]).has->Ls W (.slice a6 (bs[k]).needs.length d6) (bs[k]).needs->Calls Tryz.prog 111 #[.agg #[.string (bs[k]).nm,.slice a3 (bs[k]).has.length d3,.slice a4 (bs[k]).needs.length d4],.agg #[.string (bs[k]).nm,.slice a5 (bs[k]).has.length d5,.slice a6 (bs[k]).needs.length d6]] W λe w'=>e=.returned (.bool true)/\Below W.heap.size W w'):=λW q1 q2 q3 q4=>Aia bs[k] _ _ _ _ W q1 q2 q3 q4;generalize bs[k]=x0 at *;go_wp2_with fail
   go_region_with (go_at_call 111;refine (HQ.out _ (by exact l3) (by exact l4) (by exact l5) (by exact l6)).mono ?_;rintro e w1 ⟨rfl,hb1⟩)
   all_goals
    have hB1:=D6 hB.drew hb1;clear c3 c4 c5 e3 e4 e5;go_wp2_with fail
    go_roundw
    case rel=>exact⟨k+1,by omega,by go_num,hB1⟩
    case measure=>simp[intOf];omega
  ·go_wp2_with fail
   go_ret
   exact⟨rfl,hB⟩
theorem AjJ (b:Bk) (va vb:Value) (w:World) (ha:BkV w va b) (hb:BkV w vb b) :
  Calls Tryz.prog 23 #[va,vb] w λe w'=>e=.returned (.bool true)/\Below w.heap.size w w':=by
 obtain⟨a1,c1,a2,c2,rfl,h1,h2⟩:=ha.parts;obtain⟨a3,c3,a4,c4,rfl,h3,h4⟩:=hb.parts;go_enter Tryz.func23,Tryz.ntmps23
 go_upto_region 1 with fail
 obtain⟨W1,hW1,kP,kR,hB1,hs1⟩:=L1 w [.slice a1 b.things.length c1,.slice a2 b.bs.length c2] 33 [.slice a3 b.things.length c3,.slice a4 b.bs.length c4] 33;try rw[hW1]
 clear hW1;obtain⟨⟨p0,p1⟩,-⟩:=kP.c2;obtain⟨⟨r0,r1⟩,-⟩:=kR.c2;go_wp2_with fail
 refine (Aee b.things _ _ _ (h1.up hB1) (h3.up hB1)).mono ?_;rintro e w2 ⟨rfl,hb2⟩;have kP2:=kP.up hb2 (by omega);have kR2:=kR.up hb2 (by omega);have hB2:=D6 hB1 hb2;clear p0 p1 r0 r1 kP kR;obtain⟨⟨p0,p1⟩,-⟩:=kP2.c2;obtain⟨⟨r0,r1⟩,-⟩:=kR2.c2;go_wp2_with fail
 refine (AgU b.bs _ _ _ (h2.up hB2) (h4.up hB2)).mono ?_;rintro e w3 ⟨rfl,hb3⟩;have hB3:=D6 hB2 hb3;clear p0 p1 r0 r1;go_wp2_with fail
 go_ret
 exact⟨rfl,hB3⟩
theorem RsO.rbs {w W:World} {b:Nat} {bs:List Rb} {v:Value} (h:RsO w b bs) (hb:b<w.heap.size) (hs:RsSrc W v bs) (hsm:RsSmall bs bs.length):Rbs w (.slice (some ⟨b,0,none⟩) bs.length bs.length) bs:=by
 obtain⟨a,c,-,hm,hpos⟩:=hs;refine⟨_,_,rfl,hm,λhp=>⟨b,0,rfl,λi x hx=>?_,hb⟩⟩;obtain⟨b1,b2,hr,ho⟩:=h i x hx;obtain⟨g,o,-,hat,-⟩:=hpos hp;obtain⟨rv,sv,-,hsrc⟩:=hat i x hx;obtain⟨np,ns⟩:=hsm i x (A2.1 hx).1 hx;exact⟨_,_,by rw[Nat.zero_add];exact hr,ho.v hsrc np ns⟩
structure HSrc (w:World) (h:House) (tv bv xv dv:Value):Prop where
 t:Ls w tv h.sh.things
 b:Bs w bv h.sh.bs
 x:RsSrc w xv h.bs
 d:Dns w dv h.ds
theorem HSrc.up {w w':World} {h:House} {tv bv xv dv:Value} (H:HSrc w h tv bv xv dv) (hb:Below w.heap.size w w'):HSrc w' h tv bv xv dv:=⟨H.t.up hb,H.b.up hb,H.x.up hb,H.d.up hb⟩
theorem HSrc.shapes {w:World} {h:House} {tv bv xv dv:Value} (H:HSrc w h tv bv xv dv):∃a1 c1 a2 c2 a3 c3 a4 c4,tv=.slice a1 h.sh.things.length c1/\bv=.slice a2 h.sh.bs.length c2/\xv=.slice a3 h.bs.length c3/\dv=.slice a4 h.ds.length c4:=by
 obtain⟨a1,c1,e1,-⟩:=H.t;obtain⟨a2,c2,e2,-⟩:=H.b;obtain⟨a3,c3,e3,-⟩:=H.x;obtain⟨a4,c4,e4,-⟩:=H.d;exact⟨a1,c1,a2,c2,a3,c3,a4,c4,e1,e2,e3,e4⟩
theorem HSrc.book {w:World} {h:House} {tv bv xv dv:Value} (H:HSrc w h tv bv xv dv):BkV w (.agg #[tv,bv]) h.sh:=⟨tv,bv,rfl,H.t,H.b⟩
structure HSmall (h:House):Prop where
 k:Small h.sh
 n:h.bs.length<=1048576
 x:RsSmall h.bs h.bs.length
 d:h.ds.length<=1048576
structure HC (w:World) (h:House) (tv bv:Value) (b:Nat) (dv:Value):Prop where
 t:Ls w tv h.sh.things
 k:Bs w bv h.sh.bs
 x:RsO w b h.bs
 l:b<w.heap.size
 d:Dns w dv h.ds
theorem HC.up {w w':World} {h:House} {tv bv dv:Value} {b:Nat} (H:HC w h tv bv b dv) (hb:Below w.heap.size w w'):HC w' h tv bv b dv:=⟨H.t.up hb,H.k.up hb,H.x.up hb H.l,A1 H.l hb.size,H.d.up hb⟩
theorem HC.v {w W:World} {h:House} {tv bv dv tv' bv' xv' dv':Value} {b:Nat} (H:HC w h tv bv b dv) (hs:HSrc W h tv' bv' xv' dv') (hm:HSmall h):HV w h tv bv (.slice (some ⟨b,0,none⟩) h.bs.length h.bs.length) dv:=⟨H.t,H.k,H.x.rbs H.l hs.x hm.x,H.d⟩
theorem Aib (h:House) (tv bv xv dv:Value) (l:Int) (w:World) (H:HSrc w h tv bv xv dv) (hl:0<=l) (hl':l<=1048576) :
  Calls Tryz.prog 4 #[.agg #[.int .i64 h.now,.int .i64 h.last,tv,bv,xv,dv],.int .i64 l] w λe' w'=>(∃x:Int,e'=.returned (.int .i64 x)/\(0<=x->HSmall h))/\Below w.heap.size w w':=by
 obtain⟨a1,c1,a2,c2,a3,c3,a4,c4,rfl,rfl,rfl,rfl⟩:=H.shapes;have hB0:=(A4 w.heap.size w).alloc (A3 _) (.cells #[.int .i64 h.now,.int .i64 h.last,.slice a1 h.sh.things.length c1,.slice a2 h.sh.bs.length c2,.slice a3 h.bs.length c3,.slice a4 h.ds.length c4] 29);have hC:CB (w.alloc (.cells #[.int .i64 h.now,.int .i64 h.last,.slice a1 h.sh.things.length c1,.slice a2 h.sh.bs.length c2,.slice a3 h.bs.length c3,.slice a4 h.ds.length c4] 29)) w.heap.size [.int .i64 h.now,.int .i64 h.last,.slice a1 h.sh.things.length c1,.slice a2 h.sh.bs.length c2,.slice a3 h.bs.length c3,.slice a4 h.ds.length c4]:=E7 w _ _;go_enter Tryz.func4,Tryz.ntmps4
 go_upto_region 1 with fail
 generalize w.alloc (.cells #[.int .i64 h.now,.int .i64 h.last,.slice a1 h.sh.things.length c1,.slice a2 h.sh.bs.length c2,.slice a3 h.bs.length c3,.slice a4 h.ds.length c4] 29)=W1 at *;have hlt:=hC.2.2;have H1:=H.up hB0;clear H;obtain⟨d0,d1,d2,d3,d4,d5⟩:=hC.c6;go_wp2_with fail
 refine (AjH h.sh _ _ _ H1.book hl hl').mono ?_;rintro e w2 ⟨⟨y2,rfl,hy2,hk2⟩,hB2⟩;have hB02:=D6 hB0 hB2;clear d0 d1 d2 d3 d4 d5;by_cases g2:y2<0
 ·go_wp2_with fail
  go_ret
  exact⟨⟨_,rfl,by omega⟩,hB02⟩
 have K2:Hid (Small h.sh):=hk2 (by omega);clear hk2;obtain⟨d0,d1,d2,d3,d4,d5⟩:=(hC.up hB2 hlt).c6;go_wp2_with fail
 refine (Alu h.bs _ _ _ (by omega) (by omega) (H1.x.up hB2)).mono ?_;rintro e w3 ⟨⟨y3,rfl,hy3,hm3⟩,hB3⟩;have hB03:=D6 hB02 hB3;clear d0 d1 d2 d3 d4 d5;by_cases g3:y3<0
 ·go_wp2_with fail
  go_ret
  exact⟨⟨_,rfl,by omega⟩,hB03⟩
 have K3:Hid ((h.bs.length:Int)<=y2/\RsSmall h.bs h.bs.length):=hy3 (by omega);clear hy3;obtain⟨d0,d1,d2,d3,d4,d5⟩:=(hC.up (D6 hB2 hB3) hlt).c6;go_wp2_with fail
 refine (AhU h.ds _ _ _ (by omega) (by omega) (H1.d.up (D6 hB2 hB3))).mono ?_;rintro e w4 ⟨⟨y4,rfl,hy4,hm4⟩,hB4⟩;have hB04:=D6 hB03 hB4;clear d0 d1 d2 d3 d4 d5;by_cases g4:y4<0
 ·go_wp2_with fail
  go_ret
  exact⟨⟨_,rfl,by omega⟩,hB04⟩
 have K4:Hid (HSmall h):=⟨K2.out,by have:=K3.out.1;omega,K3.out.2,by have:=hy4 (by omega);omega⟩;clear hy4;go_wp2_with fail
 go_ret
 exact⟨⟨_,rfl,λ_=>K4.out⟩,hB04⟩
def mkD (k:Nat) (out:ByteArray):ByteArray:=if k=0 then out else mkD (k / 10) (⟨#[48+UInt8.ofNat (k % 10)]⟩++out)
termination_by k
decreasing_by omega
def mkB (k:Int):ByteArray:=if k<=0 then ⟨#[109,48]⟩ else ⟨#[109]⟩++mkD k.toNat ⟨#[]⟩
theorem AmL:∀(k:Nat) (out:ByteArray),(mkD k out).size<=out.size+k:=by
 intro k;induction k using Nat.strongRecOn with
 | ind k ih =>
  intro out;unfold mkD;split
  ·omega
  ·have:=ih (k / 10) (by omega) (⟨#[48+UInt8.ofNat (k % 10)]⟩++out)
   rw[ByteArray.size_append] at this;have h1:(⟨#[48+UInt8.ofNat (k % 10)]⟩:ByteArray).size=1:=rfl;omega
theorem AmM (w:World) (x:Int) (h0:0<=x) (h1:x<256) :
  (convert 167 9 (.slice (some ⟨w.heap.size,0,none⟩) 1 1)).run Tryz.prog (w.alloc (.cells #[.int .u8 x] 5))=.ok (.string ⟨#[UInt8.ofNat x.toNat]⟩) (w.alloc (.cells #[.int .u8 x] 5)):=by
 refine run_convert_bytes_back (P:=Tryz.prog) (w.alloc (.cells #[.int .u8 x] 5)) 167 9 5 ⟨w.heap.size,0,none⟩ 1 [UInt8.ofNat x.toNat] Tryz.underlying167 Tryz.underlying5 Tryz.underlying9 (λj hj=>?_);obtain rfl:j=0:=by simpa using hj
 have e:((UInt8.ofNat x.toNat).toNat:Int)=x:=by
  rw[UInt8.toNat_ofNat'];omega
 simp only[List.getElem_cons_zero,e];simp[go_sem,Addr.add]
theorem F7 (k:Int) (w:World) (hk:k<=9000000000000000000) :
  Calls Tryz.prog 65 #[.int .i64 k] w λe w'=>e=.returned (.string (mkB k))/\Below w.heap.size w w':=by
 by_cases h0:k<=0
 ·have HV:Hid (mkB k=⟨#[109,48]⟩):=by show _=_;rw[mkB,if_pos h0]
  go_enter Tryz.func65,Tryz.ntmps65
  go_wp2_with fail
  go_ret
  exact⟨by rw[HV.out];rfl,A4 _ _⟩
 obtain⟨K,rfl⟩:∃K:Nat,k=(K:Int):=⟨k.toNat,by omega⟩;have HV:Hid (mkB K=⟨#[109]⟩++mkD K ⟨#[]⟩):=by show _=_;rw[mkB,if_neg h0];rfl
 go_enter Tryz.func65,Tryz.ntmps65
 go_wp2_with fail
 go_loopw [0,3] (λkk o w'=>∃(n j:Nat) (s:ByteArray),kk=.int .i64 (n:Int)/\o=.string s/\mkD n s=mkD K ⟨#[]⟩/\n<10 ^ j/\s.size+j<=19/\n<=K/\Below w.heap.size w w') (λkk _ _=>(intOf kk).toNat)
 case atStart=>exact⟨K,19,⟨#[]⟩,rfl,rfl,rfl,by omega,A3 _,A3 _,A4 _ _⟩
 case round =>
  obtain⟨n,j,s,rfl,rfl,hm,hj,hs,hnK,hB⟩:=hrel;have Hj:Hid (n<10 ^ j):=hj;clear hj;have Hm:Hid (mkD n s=mkD K ⟨#[]⟩):=hm;clear hm;by_cases hn:n=0
  ·subst hn
   go_wp2_with fail
   go_ret
   have h9:=Hm.out;unfold mkD at h9;rw[if_pos rfl] at h9;refine⟨?_,hB⟩;rw[HV.out];unfold mkD;rw[← h9];rfl
  ·have hcv:=AmM wr (48+(n:Int) % 10) (by omega) (by omega)
   have He:Hid (mkD n s=mkD (n / 10) (⟨#[48+UInt8.ofNat (n % 10)]⟩++s)):=by
    show _=_
    rw[mkD,if_neg hn]
   have Hj2:Hid (∃i,j=i+1/\n / 10<10 ^ i):=by
    have h:=Hj.out;rcases j with _|i
    ·rw[Nat.pow_zero] at h;omega
    ·rw[Nat.pow_succ] at h
     refine⟨i,rfl,?_⟩;generalize 10 ^ i=q at h ⊢
     omega
   go_wp2_with fail
   obtain⟨i,rfl,hi⟩:=Hj2.out;refine⟨⟨n / 10,i,⟨#[48+UInt8.ofNat (n % 10)]⟩++s,by rw[Int.natCast_ediv];rfl,rfl,by rw[← He.out];exact Hm.out,hi,?_,by omega,hB.alloc hB.size _⟩,by simp only[intOf];omega⟩;rw[ByteArray.size_append];have h1:(⟨#[48+UInt8.ofNat (n % 10)]⟩:ByteArray).size=1:=rfl;omega
def Thr (w w':World):Prop:=∀b n,b<w.heap.size->w.there b 0 n->w'.there b 0 n
theorem Thr.trans {a b c:World} (h:Thr a b) (hz:a.heap.size<=b.heap.size) (k:Thr b c):Thr a c:=λx n hx ht=>k x n (A1 hx hz) (h x n hx ht)
theorem AeA {w w':World} (hb:Below w.heap.size w w'):Thr w w':=λ_ _ hx ht=>I8 ht hb hx
theorem S5 {w:World} {b j:Nat} {u:Value}:Thr w (w.setCell ⟨b,j,none⟩ u):=λx n _ ht=>by
 have:=World.there_setCells ht b j [u];simpa [World.setCells] using this
theorem Aef (N bb:Nat) (m:Int) (w:World) (ht:w.there bb 0 N) (hb:bb<w.heap.size) (hN:N<=1048576) (hm:1<=m) (hm9:m<=4000000000000) :
  Calls Tryz.prog 63 #[.slice (some ⟨bb,0,none⟩) N N,.int .i64 m] w λe w'=>e=.returned (.int .i64 (m+N))/\w.grownBy w' (some bb)/\Thr w w':=by
 go_enter Tryz.func63,Tryz.ntmps63
 go_wp2
 go_loopw [1,5] (λkk i w'=>∃k:Nat,k<=N/\i=.int .i64 k/\kk=.int .i64 (m+k)/\w.grownBy w' (some bb)/\Thr w w') (λ_ i _=>N-(intOf i).toNat)
 case atStart=>exact⟨0,by omega,rfl,by simp,E4 _ _,λ_ _ _ h=>h⟩
 case round =>
  obtain⟨k,hk,rfl,rfl,hG,hR⟩:=hrel;by_cases hp:k<N
  ·go_wp2_with fail
   refine (F7 (m+k) wr (by omega)).mono ?_;rintro e w1 ⟨rfl,hB1⟩;have hz:=hG.size;have hG1:=E3 hG (L3 (r:=some bb) hB1);have hR1:=hR.trans hz (AeA hB1);have hc:=hR1 bb N hb ht k hp;rw[Nat.zero_add] at hc;obtain⟨x0,c0⟩:=Option.isSome_iff_exists.1 hc.1;have f0:=hc.2;have hz1:=hG1.size;have hR2:Hid (Thr w (w1.setCell ⟨bb,k,none⟩ (.string (mkB (m+k))))):=hR1.trans hz1 S5;have hG2:=E0 (off:=k) hG1 (.string (mkB (m+k)));clear hG hR hB1 hR1 hc hG1;generalize mkB (m+k)=mb at *;go_wp2_with fail
   go_roundw
   case rel=>exact⟨k+1,by omega,by go_num,by go_num,hG2,hR2.out⟩
   case measure=>simp[intOf];omega
  ·obtain rfl:k=N:=by omega
   go_wp2_with fail
   go_ret
   exact⟨rfl,hG,hR⟩
end Go.Proofs.YtebfdccbmmpceaaGreatDoor
