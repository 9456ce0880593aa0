/- Books that are short, and stay so whatever is asked of them. -/
import Derived.Test.YtmonodehegcfhaaGreatDoorJ22
import Derived.Test.YtmonodehegcfhaaGreatDoorJ15
import Derived.Test.YtmonodehegcfhaaGreatDoorJ23
import Derived.Test.YtmonodehegcfhaaGreatDoorJ7
import Derived.Test.YtmonodehegcfhaaGreatDoorKf
set_option maxRecDepth 20000
set_option maxHeartbeats 8000000
namespace Go.Proofs.YtmonodehegcfhaaGreatDoor
open Go.Proofs.Tryz
open Go.RowKit
variable{b b':Bk}{nm:BA}{h h':House}{cd:Int}{nj tg:List BA}{ps:List Ph}{cs xs:List Value}{base base' k n p r y:Nat}{k18:Option Nat}{k13:Option Value}{x:Rb}{bu bv dv tu tv v:Value}{W X X' w w':World}
def T8(b:Bk):Prop:=b.tg.length<=40/\b.bs.length<=40/\∀x∈b.bs,x.has.length<=40/\x.nj.length<=40
def Md(b:Bk):Prop:=b.tg.length<=50/\b.bs.length<=50/\∀x∈b.bs,x.has.length<=50/\x.nj.length<=50
def Dk(w:World)(base:Nat)(v:Value)(b:Bk):Prop:=L6 w base v b/\Y0 b/\T8 b
theorem Dk.gr(h:Dk w base v b)(hg:w.grownBy w' (some r))(hr:r<base):Dk w' base v b:=⟨h.1.gr hg hr,h.2⟩
theorem Dk.low(h:Dk w base v b)(hb:base'<=base):Dk w base' v b:=⟨h.1.low hb,h.2⟩
theorem Dk.up(h:Dk w base v b)(hb:Up w w'):Dk w' base v b:=⟨h.1.up hb,h.2⟩
theorem Dk.bk(h:Dk w base v b):Q6 w v b:=h.1.bk h.2.1
def Gk(w:World)(base:Nat)(v:Value)(b:Bk):Prop:=L6 w base v b/\Y0 b/\Md b
theorem Dk.loose(h:Dk w base v b):Gk w base v b:=by
 obtain⟨h1,h2,h3,h4,h5⟩:=h;exact⟨h1,h2,by omega,by omega,λx hx=>by have:=h5 x hx;omega⟩
theorem Gk.gr(h:Gk w base v b)(hg:w.grownBy w' (some r))(hr:r<base):Gk w' base v b:=⟨h.1.gr hg hr,h.2⟩
theorem Gk.low(h:Gk w base v b)(hb:base'<=base):Gk w base' v b:=⟨h.1.low hb,h.2⟩
theorem Gk.up(h:Gk w base v b)(hb:Up w w'):Gk w' base v b:=⟨h.1.up hb,h.2⟩
theorem Gk.bk(h:Gk w base v b):Q6 w v b:=h.1.bk h.2.1
theorem Fp:T8 S2:=⟨by simp[S2],by simp[S2],λx hx=>by simp[S2] at hx⟩
theorem RM{α:Type}{l:List α}{x y:α}(h:y∈l.take k++x::l.drop k):y∈l∨y=x:=by
 rcases D0.1 h with h|h
 ·exact .inl (List.mem_of_mem_take h)
 ·rcases List.mem_cons.1 h with h|h
  ·exact .inr h
  ·exact .inl (List.mem_of_mem_drop h)
theorem WG(hz:Y0 b)(ht:T8 b)(hn:∀s∈nj,s.size<=maxLen):Y0 (K3 b nm nj)/\T8 (K3 b nm nj):=by
 cases hok:K4 b
 ·rw[(Lg hok).2];exact⟨ED,Fp⟩
 ·cases h2:(G0 nm&&pB (I4 nj b.tg))
  ·rw[(Gx hok h2).2];exact⟨hz,ht⟩
  ·cases h3:E3 (G7 b.bs) nm
   ·by_cases h4:5<=b.bs.length
    ·rw[(IF hok h2 h3 h4).2];exact⟨hz,ht⟩
    ·rw[(JU hok h2 h3 h4).2];have hp:I4 nj b.tg:=K5.1 (by rw[Bool.and_eq_true] at h2;exact h2.2);have hl:=V8 hp;obtain⟨s1,s2,s3⟩:=An (Ab hok);refine⟨⟨hz.1,λy hy=>?_⟩,by show b.tg.length<=40;omega,by simp;omega,λy hy=>?_⟩
     ·rcases RM hy with h|rfl
      ·exact hz.2 y h
      ·exact⟨λs hs=>by simp at hs,hn⟩
     ·rcases RM hy with h|rfl
      ·exact ht.2.2 y h
      ·exact⟨by simp,by show nj.length<=40;omega⟩
   ·rw[(GW hok h2 h3).2];exact⟨hz,ht⟩
theorem WH(hz:Y0 b)(ht:T8 b):Y0 (AP b nm)/\T8 (AP b nm):=by
 cases hok:K4 b
 ·rw[(OY hok).2];exact⟨ED,Fp⟩
 ·cases h3:E3 (G7 b.bs) nm
  ·rw[(LO hok h3).2];exact⟨hz,ht⟩
  ·rw[(Ng hok h3).2]
   have hm:∀y∈b.bs.take (L1 b nm)++b.bs.drop (L1 b nm+1),y∈b.bs:=λy hy=>by
    rcases D0.1 hy with h|h
    ·exact List.mem_of_mem_take h
    ·exact List.mem_of_mem_drop h
   have h2:=ht.2.1;exact⟨⟨hz.1,λy hy=>hz.2 y (hm y hy)⟩,ht.1,by simp;omega,λy hy=>ht.2.2 y (hm y hy)⟩
theorem UJ{f:Ba->Ba}(hz:Y0 b)(ht:T8 b)(hf:∀x∈b.bs,((∀s∈(f x).has,s.size<=maxLen)/\∀s∈(f x).nj,s.size<=maxLen)/\(f x).has.length<=40/\(f x).nj.length<=40):Y0 (Bd b p f)/\T8 (Bd b p f):=by
 cases hx:b.bs[p]? with
 | none=>simp only[Bd,hx];exact⟨hz,ht⟩
 | some x =>
  rw[Ih hx];have hm:=A7 hx;refine⟨⟨hz.1,λy hy=>?_⟩,ht.1,by rw[List.length_set];exact ht.2.1,λy hy=>?_⟩
  ·rcases List.mem_or_eq_of_mem_set hy with h|rfl
   ·exact hz.2 y h
   ·exact (hf x hm).1
  ·rcases List.mem_or_eq_of_mem_set hy with h|rfl
   ·exact ht.2.2 y h
   ·exact (hf x hm).2
theorem KL(h:K4 b=true):(O5 b nm).length<=8:=by
 obtain⟨s1,s2,s3⟩:=An (Ab h);cases hx:b.bs[L1 b nm]? with
 | none=>simp[O5,hx]
 | some x=>rw[Dj hx];exact (s3 x (A7 hx)).2
theorem XT(hz:Y0 b)(ht:T8 b)(hn:∀s∈nj,s.size<=maxLen):Y0 (Z6 b nm nj)/\T8 (Z6 b nm nj):=by
 cases hok:K4 b
 ·rw[(Rz hok).2];exact⟨ED,Fp⟩
 ·cases h3:E3 (G7 b.bs) nm
  ·rw[(Nh hok h3).2];exact⟨hz,ht⟩
  ·cases h2:pB (I4 nj (O5 b nm))
   ·rw[(Pa hok h3 h2).2];exact⟨hz,ht⟩
   ·rw[(Pb hok h3 h2).2];exact UJ hz ht λx hx=>⟨⟨λs hs=>(hz.2 x hx).1 s (List.mem_filter.1 hs).1,hn⟩,B3 (List.length_filter_le _ _) (ht.2.2 x hx).1,by have:=V8 (K5.1 h2);have:=KL (nm:=nm) hok;show nj.length<=40;omega⟩
theorem YH(h:AL b nm tg cd b')(hz:Y0 b)(ht:T8 b)(hn:∀s∈tg,s.size<=maxLen):Y0 b'/\T8 b':=by
 have a0:K4 b=true->pB (I4 tg (O5 b nm))=true->Y0 (Bd b (L1 b nm) (U1 tg))/\T8 (Bd b (L1 b nm) (U1 tg)):=λhok hp=>by
  obtain⟨s1,s2,s3⟩:=An (Ab hok);have a1:=V8 (K5.1 hp);have a2:=KL (nm:=nm) hok
  exact UJ hz ht λx hx=>⟨⟨λs hs=>by
   rcases IH _ _ s hs with h|h
   ·exact (hz.2 x hx).1 s h
   ·exact hn s h,(hz.2 x hx).2⟩,B3 (IG x.has tg) (by have:=s3 x hx;omega),(ht.2.2 x hx).2⟩
 rcases h with⟨_,_,rfl⟩|⟨_,_,_,rfl⟩|⟨_,_,_,_,rfl⟩|⟨_,_,_,_,_,rfl⟩|⟨_,_,_,_,_,_,_,rfl⟩|⟨hok,_,hp,_,_,_,rfl⟩
 ·exact⟨ED,Fp⟩
 ·exact⟨hz,ht⟩
 ·exact⟨hz,ht⟩
 ·exact⟨hz,ht⟩
 ·exact⟨hz,ht⟩
 ·exact a0 hok hp
def EZ(h:House)(k:Nat)(h':House):Prop:=∃x,h.bs[k]?=some x/\((0<=x.si/\h'=h)∨(x.si<0/\∃cd b',AL h.sh x.nm (K7 x) cd b'/\((cd≠0/\h'=h)∨(cd=0/\h'={h with sh:=b',bs:=h.bs.set k {x with si:=0}}))))
def S3(h:House):Nat->House->Prop
 | 0,h'=>h'=h
 | k+1,h'=>∃m,S3 h k m/\EZ m k h'
theorem EZ.same(H:EZ h k h'):h'.now=h.now/\h'.last=h.last/\h'.ds=h.ds/\h'.bs.length=h.bs.length:=by
 obtain⟨x,hx,⟨-,rfl⟩|⟨-,cd,b',-,⟨-,rfl⟩|⟨-,rfl⟩⟩⟩:=H
 ·exact⟨rfl,rfl,rfl,rfl⟩
 ·exact⟨rfl,rfl,rfl,rfl⟩
 ·exact⟨rfl,rfl,rfl,by simp⟩
theorem S3.same{h:House}:∀{k:Nat} {h':House},S3 h k h'->h'.now=h.now/\h'.last=h.last/\h'.ds=h.ds/\h'.bs.length=h.bs.length
 | 0,_,e=>by cases e;exact⟨rfl,rfl,rfl,rfl⟩
 | k+1,_,⟨m,hm,ha⟩=>by
  obtain⟨a1,a2,a3,a4⟩:=ha.same;obtain⟨b1,b2,b3,b4⟩:=S3.same hm;exact⟨a1.trans b1,a2.trans b2,a3.trans b3,a4.trans b4⟩
theorem Kf(x:Rb):(K7 x).length<=100:=by
 by_cases hk:M0 x
 ·rw[Jb hk];have:=EC x.sl (CA (AF x.ps x.ad));have:=RH (AF x.ps x.ad);omega
 ·rw[Jc hk];simp
theorem Cn(h:P3 ps=true)(nm:BA):(O9 ps nm).length<=24:=by
 have:=DU ps nm;have:=((M3 ps).1 h).2.1;omega
theorem Pv(x:Rb)(nm:BA):(G8 x nm).length<=100:=by
 by_cases hk:M0 x
 ·rw[DC hk];have:=EC x.sl (O9 x.ps nm);have:=Cn hk.2.1 nm;omega
 ·rw[EX hk];simp
def GI(l:List K0):List K0:=if 20<l.length then l.drop 1 else l
noncomputable def AB(h:House)(k:Nat)(nm:BA):House:=match h.bs[k]? with
 | none=>h
 | some x=>if M6 nm=0 then {h with sh:=Z6 h.sh x.nm (Af x.sl (O9 x.ps nm)),bs:=h.bs.set k {x with ad:=nm,si:=-1}}
  else {h with sh:=AP h.sh x.nm,bs:=h.bs.take k++h.bs.drop (k+1),ds:=GI (h.ds++[⟨x.nm,M6 nm,h.now⟩])}
noncomputable def Ci(h:House)(k:Nat):House:=match h.bs[k]? with
 | none=>h
 | some x=>if (AF x.ps x.ad).wi<=x.si then AB h k (AF x.ps x.ad).e else h
noncomputable def V4(h:House):Nat->House
 | 0=>h
 | k+1=>V4 (Ci h k) k
def Bg(x:Rb):Rb:=if 0<=x.si then {x with si:=x.si+1} else x
def Cx(h:House):House:={h with now:=h.now+1,bs:=h.bs.map Bg}
theorem D7{e:Nat}(h:w.ownsRow base e k (Sz y 1 1) 1 cs):CB w y cs:=by
 have hl:cs.length=1*k:=h.1;refine⟨λj v hv=>?_,λj hj=>?_,(h.lt y rfl).2⟩
 ·have hj:j<cs.length:=(A3.1 hv).1;rw[Nat.zero_add,h.cellAt j (by omega)];exact hv
 ·rw[Nat.zero_add];refine⟨?_,h.frozenAt j⟩;rw[h.cellAt j (by omega),A0 hj];rfl
theorem HW.box{b2:Nat}{xv:Value}(H:HW w base h tv bv xv dv)(hrow:w.ownsRow b2 30 6 v n xs)(hg:w.grownBy w' v.ownBlock):HW w' base h tv bv xv dv:=by
 obtain⟨ps,h1,h2⟩:=H.x;exact⟨H.k.step hrow (by decide) (by decide) hg,H.z,⟨ps,⟨E5 h1.1 hg (E9 h1.1 hrow (by decide)),λp hp=>(h1.2 p hp).step hrow (by decide) (by decide) hg⟩,h2⟩,H.d.step hrow (by decide) hg⟩
theorem Y5{j:Nat}(h:w.ownsRow base 30 6 (Sz y 1 1) 1 cs)(u:Value):(w.setCell ⟨y,j,none⟩ u).ownsRow base 30 6 (Sz y 1 1) 1 (cs.set j u)/\w.grownBy (w.setCell ⟨y,j,none⟩ u) (Vz (some ⟨y,0,none⟩) 1 1).ownBlock:=B4 h j u
structure AS (W:World) (h:House) (x:Rb) (X:World) (k13:Option Value) (k14:Option (Value×Int×Bk)) (k18:Option Nat):Prop where
 B:Up W X
 s13:∀v,k13=some v->R8 X v (K7 x)
 s14:∀r,k14=some r->AL h.sh x.nm (K7 x) r.2.1 r.2.2/\L6 X W.heap.size r.1 r.2.2
 s18:∀y,k18=some y->X.ownsRow W.heap.size 26 2 (.slice (some ⟨y,0,none⟩) 1 1) 1 [.slice none 0 0,.slice none 0 0]
theorem AS.up{k14:Option (Value×Int×Bk)}(H:AS W h x X k13 k14 k18)(hb:Up X X'):AS W h x X' k13 k14 k18 :=
 ⟨D5 H.B hb,λv e=>(H.s13 v e).up hb,λr e=>⟨(H.s14 r e).1,(H.s14 r e).2.up hb⟩,λy e=>E4 (H.s18 y e) hb⟩
theorem XU(W:World)(h:House)(x:Rb):AS W h x W none none none:=⟨A5 _ _,λ_ h=>(by cases h),λ_ h=>(by cases h),λ_ h=>(by cases h)⟩
theorem AS.own{k14:Option (Value×Int×Bk)}(H:AS W h x X k13 k14 k18)(hb:Up X X')(hv:R8 X' v (K7 x)):AS W h x X' (some v) k14 k18 :=
 {H.up hb with s13:=λu e=>by cases e;exact hv}
theorem AS.ask{k14:Option (Value×Int×Bk)}(H:AS W h x X k13 k14 k18)(hb:Up X X')(ha:AL h.sh x.nm (K7 x) cd b')(hv:L6 X' X.heap.size v b'):AS W h x X' k13 (some (v,cd,b')) k18 :=
 {H.up hb with s14:=λu e=>by cases e;exact⟨ha,hv.low H.B.size⟩}
theorem AS.new{k14:Option (Value×Int×Bk)}(H:AS W h x X k13 k14 k18):AS W h x (X.alloc (Kz [Nz,Nz] 26)) k13 k14 (some X.heap.size) :=
 {H.up ((A5 _ _).alloc (A4 _) _) with s18:=λu e=>by cases e;exact C0 X _ 1 H.B.size (by unfold maxLen;omega) rfl}
theorem AS.fin(H:AS W h x X k13 (some (.agg #[tu,bu],cd,b')) (some y)):
  Up W ((X.setCell ⟨y,0,none⟩ tu).setCell ⟨y,1,none⟩ bu)/\AL h.sh x.nm (K7 x) cd b'/\L6 ((X.setCell ⟨y,0,none⟩ tu).setCell ⟨y,1,none⟩ bu) W.heap.size (.agg #[tu,bu]) b'/\CB ((X.setCell ⟨y,0,none⟩ tu).setCell ⟨y,1,none⟩ bu) y [tu,bu]:=by
 have a0:=H.s18 y rfl;have h1:=B4 a0 0 tu;have h2:=B4 h1.1 1 bu;have hg:X.grownBy ((X.setCell ⟨y,0,none⟩ tu).setCell ⟨y,1,none⟩ bu) (Vz (some ⟨y,0,none⟩) 1 1).ownBlock:=E0 h1.2 h2.2;exact⟨L5 H.B H.B.size a0 hg (A4 _),(H.s14 _ rfl).1,(H.s14 _ rfl).2.step a0 (by decide) (by decide) hg,D7 h2.1⟩
theorem HW.asked{g cap:Nat}(H:HW w base h tv bv (Sz g n cap) dv)(hx:h.bs[k]?=some x)(hb:L6 w base (.agg #[tu,bu]) b')(hz:Y0 b'):
  HW (w.setCell ⟨g,k*6+4,none⟩ (Iz 0)) base {h with sh:=b',bs:=h.bs.set k {x with si:=0}} tu bu (Sz g n cap) dv:=by
 obtain⟨ps,h1,h2⟩:=H.x;have a0:=hx;rw[← h2,B1,B6] at a0;obtain⟨⟨y,ru,su⟩,hp,e⟩:=a0;obtain rfl:y=x:=e;have hg:w.grownBy (w.setCell ⟨g,k*6+4,none⟩ (Iz 0)) (Vz (some ⟨g,0,none⟩) n cap).ownBlock:=E1 (E2 _ _) _;exact⟨hb.step h1.1 (by decide) (by decide) hg,hz,⟨_,h1.put (y:={y with si:=0}) hp (by omega) rfl rfl rfl rfl,by rw[List.map_set,h2]⟩,H.d.step h1.1 (by decide) hg⟩
theorem DM(w:World)(cs ds:List Value)(hc:cs.length=6)(hd:ds.length=6):
  ((w.alloc (.cells cs.toArray 30)).alloc (.cells ds.toArray 30)).ownsRow w.heap.size 30 6 (Sz w.heap.size 1 1) 1 cs/\((w.alloc (.cells cs.toArray 30)).alloc (.cells ds.toArray 30)).ownsRow w.heap.size 30 6 (Sz (w.heap.size+1) 1 1) 1 ds/\Up w ((w.alloc (.cells cs.toArray 30)).alloc (.cells ds.toArray 30)):=by
 have h1:(w.alloc (.cells cs.toArray 30)).ownsRow w.heap.size 30 6 (Sz w.heap.size 1 1) 1 cs:=by simpa using C0 w cs.toArray 1 (A4 _) (by unfold maxLen;omega) (by simpa using hc)
 have hz:(w.alloc (.cells cs.toArray 30)).heap.size=w.heap.size+1:=by simp
 have h2:((w.alloc (.cells cs.toArray 30)).alloc (.cells ds.toArray 30)).ownsRow w.heap.size 30 6 (Vz (some ⟨(w.alloc (.cells cs.toArray 30)).heap.size,0,none⟩) 1 1) 1 ds:=by simpa using C0 (w.alloc (.cells cs.toArray 30)) ds.toArray 1 (by omega) (by unfold maxLen;omega) (by simpa using hd)
 rw[hz] at h2;exact⟨h1.alloc _,h2,((A5 _ _).alloc (A4 _) _).alloc (by omega) _⟩
theorem Jg(h:House)(tv bv xv dv:Value)(base:Nat)(w:World)(H:HW w base h tv bv xv dv)(hbase:base<=w.heap.size)(hT:T8 h.sh):
  Calls prog 32 #[.agg #[Iz h.now,Iz h.last,tv,bv,xv,dv]] w λe w'=>(∃h' tu bu,e=.returned (.agg #[Iz h.now,Iz h.last,tu,bu,xv,dv])/\S3 h h.bs.length h'/\T8 h'.sh/\HW w' base h' tu bu xv dv)/\w.grownBy w' xv.ownBlock:=by
 obtain⟨a1,c1,a2,c2,a3,c3,a4,c4,rfl,rfl,rfl,rfl⟩:=H.v.shapes;obtain⟨W1,e6,kA,kR,b5⟩:∃W1,(w.alloc (.cells (Hcz h a1 c1 a2 c2 a3 c3 a4 c4).toArray 30)).alloc (Kz [Iz 0,Iz 0,Nz,Nz,Nz,Nz] 30)=W1/\W1.ownsRow w.heap.size 30 6 (Sz w.heap.size 1 1) 1 (Hcz h a1 c1 a2 c2 a3 c3 a4 c4)/\W1.ownsRow w.heap.size 30 6 (Sz (w.heap.size+1) 1 1) 1 [Iz 0,Iz 0,Nz,Nz,Nz,Nz]/\Up w W1:=⟨_,rfl,DM w (Hcz h a1 c1 a2 c2 a3 c3 a4 c4) [Iz 0,Iz 0,Nz,Nz,Nz,Nz] rfl rfl⟩;go_in;go_upto_region 2 with fail;try rw[e6]
 clear e6;have H1:=H.up b5;have f8:w.grownBy W1 (Vz a3 h.bs.length c3).ownBlock:=⟨b5.os,b5.tape,b5.output,b5.size,λk hk _=>b5.block k hk⟩;have g0:=b5.size
 have h2:h.bs.length<=9223372036854775807:=by
  obtain⟨ps,hw,he⟩:=H.x;have:=EF hw.1;rw[← he,B5];unfold maxLen at this;omega
 (try dsimp only[Iz,Sz,Sy,Nz,Vz,Tz,Ez,Pz]);go_loopw [3] (λi w'=>∃(k:Nat)(hk:House)(tu bu:Value),k<=h.bs.length/\i=.int .i64 k/\S3 h k hk/\T8 hk.sh/\w'.ownsRow w.heap.size 30 6 (Sz w.heap.size 1 1) 1 [Iz h.now,Iz h.last,tu,bu,Vz a3 h.bs.length c3,Vz a4 h.ds.length c4]/\w'.ownsRow w.heap.size 30 6 (Sz (w.heap.size+1) 1 1) 1 [Iz 0,Iz 0,Nz,Nz,Nz,Nz]/\HW w' base hk tu bu (Vz a3 h.bs.length c3) (Vz a4 h.ds.length c4)/\w.grownBy w' (Vz a3 h.bs.length c3).ownBlock) (λi _=>h.bs.length-(intOf i).toNat)
 case atStart=>exact⟨0,h,_,_,by omega,rfl,rfl,hT,kA,kR,H1,f8⟩
 case round =>
  clear kA kR H1 f8 b5 g0 H hT;obtain⟨k,hk,tu,bu,h0,rfl,hA,d0,kA,kR,HH,hG⟩:=hrel;have HA:Hid (S3 h k hk):=hA;obtain⟨z1,z2,z3,z4⟩:=hA.same;clear hA;have Hs:Hid (hk.now=h.now/\hk.last=h.last/\hk.ds=h.ds/\hk.bs.length=h.bs.length):=⟨z1,z2,z3,z4⟩;clear z1 z2 z3;have Hz4:Hid (hk.bs.length=h.bs.length):=z4;clear z4;obtain⟨e0,e1,e2,e3,e4,e5⟩:=(D7 kA).c6;by_cases hp:k<h.bs.length
  ·obtain⟨ps,hW,hm⟩:=HH.x;have f9:ps.length=h.bs.length:=by have:=congrArg List.length hm;rw[B5,Hz4.out] at this;exact this
   obtain⟨g,h1,eg⟩:=I6 hW.1 (by omega);simp only[Value.slice.injEq] at eg;obtain⟨rfl,-,rfl⟩:=eg;have a7:=hW.1;rw[f9] at a7;obtain⟨⟨x0,ru,su⟩,c0⟩:∃p,ps[k]?=some p:=⟨ps[k]'(by omega),A0 _⟩;have Hpk:Hid (ps[k]?=some (x0,ru,su)):=c0;have Hx0:Hid (hk.bs[k]?=some x0):=by show _=_;rw[← hm,B1,c0];rfl
   have d4:=hW.2 _ (A7 c0);have g1:NN ru:=d4.nr;have g2:NN su:=d4.ns;obtain⟨g3,n3,m3,rfl⟩:=g1;obtain⟨g4,n4,m4,rfl⟩:=g2;have b8:=V2 S6 a7 c0;have q0:At wr g (k*6) (Tz x0.nm):=b8 0 _ rfl;have q1:At wr g (k*6+1) (Sz g3 n3 m3):=b8 1 _ rfl;have q2:At wr g (k*6+2) (Sz g4 n4 m4):=b8 2 _ rfl;have q3:At wr g (k*6+3) (Tz x0.ad):=b8 3 _ rfl;have q4:At wr g (k*6+4) (Iz x0.si):=b8 4 _ rfl;have q5:At wr g (k*6+5) (Iz x0.st):=b8 5 _ rfl;have hv:T1 wr x0 (Sz g3 n3 m3) (Sz g4 n4 m4):=d4.v;have a8:g<wr.heap.size:=(a7.lt g rfl).2;have b4:w.heap.size<wr.heap.size:=(kA.lt w.heap.size rfl).2;clear b8 d4 hm c0 hW f9;by_cases hsi:0<=x0.si
   ·have HN:Hid (S3 h (k+1) hk):=⟨hk,HA.out,x0,Hx0.out,.inl ⟨hsi,rfl⟩⟩;clear hv a7 q0 q1 q2 q3 q5;go_wp2_with fail;go_roundw
    case rel=>exact⟨k+1,hk,tu,bu,by omega,by go_num,HN.out,d0,kA,kR,HH,hG⟩
    case measure=>simp[intOf];omega
   ·have mk:∀w',Up wr w'->Up wr w'/\At w' w.heap.size 2 tu/\At w' w.heap.size 3 bu/\At w' w.heap.size 4 (Sz g h.bs.length c3)/\At w' g (k*6) (Tz x0.nm)/\At w' g (k*6+1) (Sz g3 n3 m3)/\At w' g (k*6+2) (Sz g4 n4 m4)/\At w' g (k*6+3) (Tz x0.ad)/\At w' g (k*6+4) (Iz x0.si)/\At w' g (k*6+5) (Iz x0.st):=λw' hb'=>⟨hb',(hb'.cell (p:=⟨w.heap.size,2,none⟩) b4).trans e2,(hb'.cell (p:=⟨w.heap.size,3,none⟩) b4).trans e3,(hb'.cell (p:=⟨w.heap.size,4,none⟩) b4).trans e4,(hb'.cell (p:=⟨g,k*6,none⟩) a8).trans q0,(hb'.cell (p:=⟨g,k*6+1,none⟩) a8).trans q1,(hb'.cell (p:=⟨g,k*6+2,none⟩) a8).trans q2,(hb'.cell (p:=⟨g,k*6+3,none⟩) a8).trans q3,(hb'.cell (p:=⟨g,k*6+4,none⟩) a8).trans q4,(hb'.cell (p:=⟨g,k*6+5,none⟩) a8).trans q5⟩;have Mk:Hid (∀w',Up wr w'->Up wr w'/\At w' w.heap.size 2 tu/\At w' w.heap.size 3 bu/\At w' w.heap.size 4 (Sz g h.bs.length c3)/\At w' g (k*6) (Tz x0.nm)/\At w' g (k*6+1) (Sz g3 n3 m3)/\At w' g (k*6+2) (Sz g4 n4 m4)/\At w' g (k*6+3) (Tz x0.ad)/\At w' g (k*6+4) (Iz x0.si)/\At w' g (k*6+5) (Iz x0.st)):=mk;have HB:Hid (Q6 wr (.agg #[tu,bu]) hk.sh):=HH.v.book;clear mk q0 q1 q2 q3 q5;go_upto_region 5 with fail;clear q4 e0 e1 e2 e3 e4 e5;go_cut [4,5] (λv4 v5 wc=>∃(Y:Nat)(tw bw:Value)(cd:Int)(b':Bk),v4=Pz Y 0/\v5=.int .i64 cd/\Up wr wc/\AL hk.sh x0.nm (K7 x0) cd b'/\L6 wc wr.heap.size (.agg #[tw,bw]) b'/\CB wc Y [tw,bw])
    case first =>
     have hC:AS wr hk x0 wr.drew none none none:=(XU wr hk x0).up (A5 _ _).drew;refine F5 99 (λw'=>Up wr w'/\At w' w.heap.size 2 tu/\At w' w.heap.size 3 bu/\At w' w.heap.size 4 (Sz g h.bs.length c3)/\At w' g (k*6) (Tz x0.nm)/\At w' g (k*6+1) (Sz g3 n3 m3)/\At w' g (k*6+2) (Sz g4 n4 m4)/\At w' g (k*6+3) (Tz x0.ad)/\At w' g (k*6+4) (Iz x0.si)/\At w' g (k*6+5) (Iz x0.st)) (by kernel_rfl) ?_;generalize wr.drew=X1 at hC ⊢
     have a6:=Mk.out _ hC.B;refine D6 0 rfl a6 ?_;refine D6 1 rfl a6 ?_;refine D6 2 rfl a6 ?_;refine D6 3 rfl a6 ?_;refine D6 4 rfl a6 ?_;refine D6 5 rfl a6 ?_;refine D6 6 rfl a6 ?_;refine D6 7 rfl a6 ?_;refine D6 8 rfl a6 ?_;refine D6 9 rfl a6 ?_;refine D6 10 rfl a6 ?_;refine D6 11 rfl a6 ?_;refine D6 12 rfl a6 ?_;clear a6;refine R4 (i:=13) (j:=18) (by kernel_rfl) rfl rfl (λK hK=>?_) (λK hK=>?_)
     ·(go_simp;go_wp2_with (go_at_call 85;refine (Lk x0 _ _ _ (hv.up hC.B)).mono ?_;rintro e X2 ⟨⟨u,rfl,hu⟩,c8⟩;replace hC:=hC.own c8 hu;clear c8;obtain⟨g9,c9,rfl,-⟩:=hu);refine E6 hK (Mk.out _ hC.B) ?_;clear hK K)
      refine R4 (i:=14) (j:=18) (by kernel_rfl) rfl rfl (λK hK=>?_) (λK hK=>?_)
      ·(go_simp;go_wp2_with (go_at_call 84;refine (GZ hk.sh _ _ x0.nm (K7 x0) _ (HB.out.up hC.B) ((Ac.ls (.inr (hC.s13 _ rfl))) (Ah hv)) (B3 (Kf x0) (by omega))).mono ?_;rintro e X3 ⟨⟨v8,cd,b',rfl,a0,b0⟩,b7⟩;replace hC:=hC.ask b7 a0 b0;obtain⟨t1,d1,t2,d2,e7,rfl,-⟩:=b0.parts;clear b0 b7 a0);refine E6 hK (Mk.out _ hC.B) ?_;clear hK K;(refine D6 15 rfl (Mk.out _ hC.B) ?_);(refine D6 16 rfl (Mk.out _ hC.B) ?_);(refine D6 17 rfl (Mk.out _ hC.B) ?_))
       refine E7 18 rfl (λK hK=>?_)
       (go_simp;replace hC:=hC.new;refine E6 hK (Mk.out _ hC.B) ?_;clear hK K;generalize World.alloc _ (Kz [Nz,Nz] 26)=X4 at hC ⊢)
       (have kY:=D7 (hC.s18 _ rfl);obtain⟨⟨j0,j1⟩,m0,m1⟩:=kY.c2;have hF:=hC.fin;refine E7 19 rfl (λK hK=>?_);go_simp;refine E6 hK (Mk.out _ hF.1) ?_;clear hK K j0 j1 m0 m1 kY;(try simp only[Act.put,List.setIfInBounds_toArray,List.set_cons_zero,List.set_cons_succ]);refine E7 20 rfl (λK hK=>?_);go_simp;refine E6 hK (Mk.out _ hF.1) ?_;clear hK K;(try simp only[Act.put,List.setIfInBounds_toArray,List.set_cons_zero,List.set_cons_succ]);refine F0 (by kernel_rfl) ?_ _;go_wp2_with fail;go_meet;exact⟨_,_,_,_,_,rfl,rfl,hF⟩)
      ·(go_simp;replace hC:=hC.new;refine E6 hK (Mk.out _ hC.B) ?_;clear hK K;generalize World.alloc _ (Kz [Nz,Nz] 26)=X4 at hC ⊢)
       refine E7 14 rfl (λK hK=>?_)
       (go_simp;go_wp2_with (go_at_call 84;refine (GZ hk.sh _ _ x0.nm (K7 x0) _ (HB.out.up hC.B) ((Ac.ls (.inr (hC.s13 _ rfl))) (Ah hv)) (B3 (Kf x0) (by omega))).mono ?_;rintro e X3 ⟨⟨v8,cd,b',rfl,a0,b0⟩,b7⟩;replace hC:=hC.ask b7 a0 b0;obtain⟨t1,d1,t2,d2,e7,rfl,-⟩:=b0.parts;clear b0 b7 a0);refine E6 hK (Mk.out _ hC.B) ?_;clear hK K;(refine D6 15 rfl (Mk.out _ hC.B) ?_);(refine D6 16 rfl (Mk.out _ hC.B) ?_);(refine D6 17 rfl (Mk.out _ hC.B) ?_))
       (have kY:=D7 (hC.s18 _ rfl);obtain⟨⟨j0,j1⟩,m0,m1⟩:=kY.c2;have hF:=hC.fin;refine E7 19 rfl (λK hK=>?_);go_simp;refine E6 hK (Mk.out _ hF.1) ?_;clear hK K j0 j1 m0 m1 kY;(try simp only[Act.put,List.setIfInBounds_toArray,List.set_cons_zero,List.set_cons_succ]);refine E7 20 rfl (λK hK=>?_);go_simp;refine E6 hK (Mk.out _ hF.1) ?_;clear hK K;(try simp only[Act.put,List.setIfInBounds_toArray,List.set_cons_zero,List.set_cons_succ]);refine F0 (by kernel_rfl) ?_ _;go_wp2_with fail;go_meet;exact⟨_,_,_,_,_,rfl,rfl,hF⟩)
     ·(go_simp;replace hC:=hC.new;refine E6 hK (Mk.out _ hC.B) ?_;clear hK K;generalize World.alloc _ (Kz [Nz,Nz] 26)=X4 at hC ⊢)
      refine E7 13 rfl (λK hK=>?_)
      (go_simp;go_wp2_with (go_at_call 85;refine (Lk x0 _ _ _ (hv.up hC.B)).mono ?_;rintro e X2 ⟨⟨u,rfl,hu⟩,c8⟩;replace hC:=hC.own c8 hu;clear c8;obtain⟨g9,c9,rfl,-⟩:=hu);refine E6 hK (Mk.out _ hC.B) ?_;clear hK K)
      refine E7 14 rfl (λK hK=>?_)
      (go_simp;go_wp2_with (go_at_call 84;refine (GZ hk.sh _ _ x0.nm (K7 x0) _ (HB.out.up hC.B) ((Ac.ls (.inr (hC.s13 _ rfl))) (Ah hv)) (B3 (Kf x0) (by omega))).mono ?_;rintro e X3 ⟨⟨v8,cd,b',rfl,a0,b0⟩,b7⟩;replace hC:=hC.ask b7 a0 b0;obtain⟨t1,d1,t2,d2,e7,rfl,-⟩:=b0.parts;clear b0 b7 a0);refine E6 hK (Mk.out _ hC.B) ?_;clear hK K;(refine D6 15 rfl (Mk.out _ hC.B) ?_);(refine D6 16 rfl (Mk.out _ hC.B) ?_);(refine D6 17 rfl (Mk.out _ hC.B) ?_))
      (have kY:=D7 (hC.s18 _ rfl);obtain⟨⟨j0,j1⟩,m0,m1⟩:=kY.c2;have hF:=hC.fin;refine E7 19 rfl (λK hK=>?_);go_simp;refine E6 hK (Mk.out _ hF.1) ?_;clear hK K j0 j1 m0 m1 kY;(try simp only[Act.put,List.setIfInBounds_toArray,List.set_cons_zero,List.set_cons_succ]);refine E7 20 rfl (λK hK=>?_);go_simp;refine E6 hK (Mk.out _ hF.1) ?_;clear hK K;(try simp only[Act.put,List.setIfInBounds_toArray,List.set_cons_zero,List.set_cons_succ]);refine F0 (by kernel_rfl) ?_ _;go_wp2_with fail;go_meet;exact⟨_,_,_,_,_,rfl,rfl,hF⟩)
    case rest =>
     obtain⟨Y,tw,bw,cd,b',rfl,rfl,b3,a0,d6,kY⟩:=hcut;have HHc:=HH.up b3;have b6:=E4 kA b3;have d8:=E4 kR b3;have a9:=E4 a7 b3;have d9:w.grownBy wc (Vz (some ⟨g,0,none⟩) h.bs.length c3).ownBlock:=⟨b3.os.trans hG.os,b3.tape.trans hG.tape,b3.output.trans hG.output,B3 hG.size b3.size,λi hi hne=>(b3.block i (A2 hi hG.size)).trans (hG.block i hi hne)⟩;have Hdk:Hid (Y0 b'/\T8 b'):=YH a0 HH.z d0 (Ah hv);have Hask:Hid (AL hk.sh x0.nm (K7 x0) cd b'):=a0;have g5:base<=wr.heap.size:=B3 hbase (Nat.le_of_lt b4);clear Mk HB a7 HH kA kR hG hv a0;by_cases hcd:cd=0
     ·subst hcd;obtain⟨t1,d1,t2,d2,qs,e9,-⟩:=d6.parts;simp only[Value.agg.injEq,Array.mk.injEq,List.cons.injEq,and_true] at e9;obtain⟨rfl,rfl⟩:=e9;obtain⟨v0,v1⟩:=kY.c2';obtain⟨e0,e1,e2,e3,e4,e5⟩:=(D7 b6).c6;obtain⟨f0,f1,f2,f3,f4,f5⟩:=(D7 b6).f6;have b1:=Y5 (j:=2) b6 (Vz t1 b'.tg.length d1);have b2:=Y5 (j:=3) b1.1 (Vz t2 b'.bs.length d2);have c7:wc.grownBy ((wc.setCell ⟨w.heap.size,2,none⟩ (Vz t1 b'.tg.length d1)).setCell ⟨w.heap.size,3,none⟩ (Vz t2 b'.bs.length d2)) (Vz (some ⟨w.heap.size,0,none⟩) 1 1).ownBlock:=E0 b1.2 b2.2
      obtain⟨W7,e8,d3,d7,a5,HH7,c5,f7⟩:∃W7,(wc.setCell ⟨w.heap.size,2,none⟩ (Vz t1 b'.tg.length d1)).setCell ⟨w.heap.size,3,none⟩ (Vz t2 b'.bs.length d2)=W7/\W7.ownsRow w.heap.size 30 6 (Sz w.heap.size 1 1) 1 [Iz h.now,Iz h.last,Vz t1 b'.tg.length d1,Vz t2 b'.bs.length d2,Sz g h.bs.length c3,Vz a4 h.ds.length c4]/\W7.ownsRow w.heap.size 30 6 (Sz (w.heap.size+1) 1 1) 1 [Iz 0,Iz 0,Nz,Nz,Nz,Nz]/\W7.ownsRow base 40 6 (Sz g h.bs.length c3) h.bs.length (F8 Q7 ps)/\HW W7 base hk tu bu (Sz g h.bs.length c3) (Vz a4 h.ds.length c4)/\L6 W7 base (.agg #[Vz t1 b'.tg.length d1,Vz t2 b'.bs.length d2]) b'/\w.grownBy W7 (Vz (some ⟨g,0,none⟩) h.bs.length c3).ownBlock :=
       ⟨_,rfl,b2.1,E5 d8 c7 (by simp[Value.ownBlock]),E5 a9 c7 (E9 a9 b6 (by decide)),HHc.box b6 c7,(d6.step b6 (by decide) (by decide) c7).low g5,D9 (D9 d9 (A4 _) _) (A4 _) _⟩
      go_upto_region 8 with fail;try rw[e8]
      clear e8 e0 e1 e2 e3 e4 e5 f0 f1 f2 f3 f4 f5 v0 v1 b1 b2 c7 b6 d8 a9 HHc d6 d9 kY b3;have e4:=(D7 d3).c6.2.2.2.2.1;have q4:World.cell? W7 ⟨g,k*6+4,none⟩=(F8 Q7 ps)[k*6+4]?:=a5.cellAt (k*6+4) (by omega);rw[EI S6 ps k _ Hpk.out 4 (Iz x0.si) rfl] at q4;have f4:=a5.frozenAt (k*6+4);have d5:W7.grownBy (W7.setCell ⟨g,k*6+4,none⟩ (Iz 0)) (Vz (some ⟨g,0,none⟩) h.bs.length c3).ownBlock:=(B4 a5 _ _).2;have HH8:=HH7.asked Hx0.out c5 Hdk.out.1;have g6:=E5 d3 d5 (E9 d3 a5 (by decide));have g7:=E5 d7 d5 (E9 d7 a5 (by decide));have g8:=E0 f7 d5;have HN:Hid (S3 h (k+1) {hk with sh:=b',bs:=hk.bs.set k {x0 with si:=0}}):=⟨hk,HA.out,x0,Hx0.out,.inr ⟨by omega,0,b',Hask.out,.inr ⟨rfl,rfl⟩⟩⟩;clear a5 HH7 c5 f7 d5 d3 d7;go_wp2_with fail;go_roundw
      case rel=>exact⟨k+1,_,_,_,by omega,by go_num,HN.out,Hdk.out.2,g6,g7,HH8,g8⟩
      case measure=>simp[intOf];omega
     ·have HN:Hid (S3 h (k+1) hk):=⟨hk,HA.out,x0,Hx0.out,.inr ⟨by omega,cd,b',Hask.out,.inl ⟨hcd,rfl⟩⟩⟩;go_wp2_with fail;go_roundw
      case rel=>exact⟨k+1,hk,tu,bu,by omega,by go_num,HN.out,d0,b6,d8,HHc,d9⟩
      case measure=>simp[intOf];omega
  ·obtain rfl:k=h.bs.length:=by omega
   obtain⟨y0,y1,y2,y3,y4,y5⟩:=(D7 kR).c6;obtain⟨f0,f1,f2,f3,f4,f5⟩:=(D7 kR).f6;obtain⟨t1,d1,t2,d2,qs,e9,-⟩:=HH.k.parts;simp only[Value.agg.injEq,Array.mk.injEq,List.cons.injEq,and_true] at e9;obtain⟨rfl,rfl⟩:=e9;go_wp2_with fail;refine N8 results32 underlying30 rfl G6 (D7 kR) rfl ?_;have b9:=G3 wr (w.heap.size+1) (Iz h.now) (Iz h.last) (Vz t1 hk.sh.tg.length d1) (Vz t2 hk.sh.bs.length d2) (Vz a3 h.bs.length c3) (Vz a4 h.ds.length c4);refine⟨⟨hk,_,_,rfl,HA.out,d0,HH.box kR b9⟩,?_⟩;exact⟨b9.os.trans hG.os,b9.tape.trans hG.tape,b9.output.trans hG.output,B3 hG.size b9.size,λi hi hne=>(b9.block i (A2 hi hG.size) (by simp;omega)).trans (hG.block i hi hne)⟩
theorem K2(rb len N:Nat)(v:Value)(n:Int)(w:World)(hR:Rd w rb v len N)(hN:N<=1000000):
  Calls prog 20 #[Pz rb 0,Iz n] w
   λe w'=>(∃x:Int,e=.returned (Iz x)/\0<=x/\(1<=n->x<n))/\Rd w' rb v len (N+1)/\w.grownBy w' (some rb):=by
 obtain⟨p,hp,c0,c1,f1,a0,hl⟩:=hR;have d0:(w.setCell ⟨rb,1,none⟩ (Iz ((p:Int)+1))).cell? ⟨rb,0,none⟩=some v:=by rw[C1 _ _ _ _ (by simp)];exact c0
 have d1:(w.setCell ⟨rb,1,none⟩ (Iz ((p:Int)+1))).cell? ⟨rb,1,none⟩=some (Iz ((p:Int)+1)):=World.cell?_setCell_same _ _ _ c1;have d2:(w.setCell ⟨rb,1,none⟩ (Iz ((p:Int)+1))).frozen? ⟨rb,1,none⟩=false:=by rw[World.frozen?_setCell];exact f1
 have hg:w.grownBy (w.setCell ⟨rb,1,none⟩ (Iz ((p:Int)+1))) (some rb):=E1 (E2 _ _) _;have HR:Hid (Rd (w.setCell ⟨rb,1,none⟩ (Iz ((p:Int)+1))) rb v len (N+1)):=⟨p+1,by omega,d0,by simpa using d1,d2,a0.kept hg,hl⟩;obtain⟨a,a8,rfl,a0⟩:=a0;by_cases hn:n<1
 ·go_in;go_wp2;go_ret;exact⟨⟨0,rfl,by omega,by omega⟩,HR.out,hg⟩
 by_cases h0:len=0
 ·subst h0;go_in;go_wp2;go_ret;exact⟨⟨0,rfl,by omega,by omega⟩,HR.out,hg⟩
 rcases a0 with h|⟨b,o,z,rfl,hb,hz⟩
 ·exact absurd h h0
 have e0:((len:Int)==0)=false:=by simp;omega
 by_cases hpl:p<len
 ·obtain⟨a1,a9,b0⟩:=hz p hpl;have a2:=hg.cell a1 (by simp;omega);go_in;go_wp2;go_ret;exact⟨⟨_,rfl,Int.emod_nonneg _ (by omega),Int.emod_lt_of_pos _ (by omega)⟩,HR.out,hg⟩
 ·obtain⟨y1,y2,y3⟩:=hz (p % len) (Nat.mod_lt _ (by omega));obtain⟨q1,q2,q3⟩:=hz ((p*7+3) % len) (Nat.mod_lt _ (by omega));have a3:=hg.cell y1 (by simp;omega);have a4:=hg.cell q1 (by simp;omega);have a5:p % len<len:=Nat.mod_lt _ (by omega);have a6:(p*7+3) % len<len:=Nat.mod_lt _ (by omega);have a7:0<len:=by omega
  have i1:(0:Int)<=(p:Int) % (len:Int):=Int.emod_nonneg _ (by omega);have i2:(p:Int) % (len:Int)<(len:Int):=Int.emod_lt_of_pos _ (by omega);have i3:(0:Int)<=((p:Int)*7+3) % (len:Int):=Int.emod_nonneg _ (by omega);have i4:((p:Int)*7+3) % (len:Int)<(len:Int):=Int.emod_lt_of_pos _ (by omega);have t1:((p:Int) % (len:Int)).toNat=p % len:=by rw[← Int.natCast_emod];rfl
  have t2:(((p:Int)*7+3) % (len:Int)).toNat=(p*7+3) % len:=by rw[show ((p:Int)*7+3)=((p*7+3:Nat):Int) by omega,← Int.natCast_emod];rfl
  have j1:(0:Int)<=(p:Int) / (len:Int):=Int.ediv_nonneg (by omega) (by omega);have j2:(p:Int) / (len:Int)<=(p:Int):=by rw[← Int.natCast_ediv];have:=Nat.div_le_self p len;omega
  clear hz y1 q1;go_in;go_wp2;go_quiet (fail);obtain⟨X,hX,b1⟩:∃X:Nat,z (p % len)*131+z ((p*7+3) % len)*1117+(p:Int)*29+(p:Int) / (len:Int)*53=(X:Int)/\X<=1000000000:=⟨(z (p % len)*131+z ((p*7+3) % len)*1117+(p:Int)*29+(p:Int) / (len:Int)*53).toNat,by omega,by omega⟩;rw[hX];clear hX a3 a4 y2 y3 q2 q3 i1 i2 i3 i4 t1 t2 j1 j2 a5 a6;obtain⟨x1,x2⟩:=Rk X (X / 64) (by omega) (by omega);rw[show ((X / 64:Nat):Int)=(X:Int) / 64 by omega] at x1 x2;go_wp2;go_ret;exact⟨⟨_,rfl,Int.emod_nonneg _ (by omega),λ_=>Int.emod_lt_of_pos _ (by omega)⟩,Rd.drewN HR.out nq,KH hg nq⟩
theorem Ar(rb len N:Nat)(v:Value)(ss:List BA)(n g o c:Nat)(w:World)(hl:ss.length=n)(hR:Rd w rb v len N)(hN:N<=1000000)(hS:F9 w g o ss)(hne:g≠rb)(hpos:0<n)(hbig:n<=1000):
  Calls prog 18 #[Pz rb 0,Sy g o n c] w
   λe w'=>(∃s∈ss,e=.returned (Tz s))/\Rd w' rb v len (N+1)/\w.grownBy w' (some rb):=by
 go_in;go_wp2_with fail;refine (K2 rb len N v _ w hR hN).mono ?_;rintro e w1 ⟨⟨x,rfl,a5,a1⟩,a3,a2⟩;have a4:=a1 (by omega);obtain⟨k,rfl⟩:∃k:Nat,x=(k:Int):=⟨x.toNat,by omega⟩;have hk:k<n:=by omega
 have a0:=(hS.kept a2 hne) k (ss[k]'(by omega)) (by simp);have Hm:Hid (ss[k]'(by omega)∈ss):=by show _∈_;simp
 generalize ss[k]'(by omega)=s at *;clear a1 hS;go_wp2_with fail;go_ret;exact⟨⟨s,Hm.out,rfl⟩,a3,a2⟩
theorem Pw(rb len N:Nat)(v:Value)(w:World)(hR:Rd w rb v len N)(hN:N<=1000000):
  Calls prog 120 #[Pz rb 0] w
   λe w'=>(∃s:BA,e=.returned (Tz s)/\s.size<=maxLen)/\Rd w' rb v len (N+1)/\w.grownBy w' (some rb):=by
 have a2:=hR.lt;go_in;go_wp2_with fail;refine (Ar rb len N v Oy 5 _ 0 _ _ rfl (hR.alloc _) hN (K8 w Oy 9) (by omega) (by omega) (by omega)).mono ?_;rintro e w1 ⟨⟨s,hs,rfl⟩,a0,a1⟩;go_wp2_with fail;go_ret;exact⟨⟨s,rfl,Y6 (ss:=Oy) (by decide) s hs⟩,a0,E0 (F4 (E2 _ _) _) a1⟩
def Aw:List BA:=[⟨#[97,108,101]⟩,⟨#[98]⟩,⟨#[99,45,99]⟩,⟨#[100,97,114,107]⟩,⟨#[120,57]⟩,⟨#[113]⟩]
theorem Fd(w:World):Calls prog 19 #[] w λe w'=>e=.returned (Sz w.heap.size 6 6)/\w'=w.alloc (.cells (Aw.map Value.string).toArray 9):=by
 go_in;go_wp2_with fail;go_ret;exact⟨rfl,rfl⟩
def Z8:List BA:=[⟨#[106]⟩,⟨#[107,101,103]⟩,⟨#[116,49]⟩,⟨#[116,50]⟩,⟨#[118,97,116]⟩,⟨#[119]⟩]
theorem QQ:∀s∈Z8,s.size<=20:=by decide
theorem Jh:∀s∈Aw,s.size<=20:=by decide
theorem Px(rb len N:Nat)(v:Value)(w:World)(hR:Rd w rb v len N)(hN:N<=900000):
  Calls prog 114 #[Pz rb 0] w λe w'=>(∃u ss,e=.returned u/\F7 w' w.heap.size u ss/\ss.length<=6/\∀s∈ss,s∈Z8)/\Rd w' rb v len (N+6)/\w.grownBy w' (some rb):=by
 have c1:=hR.lt;obtain⟨ii,hi,c3,c4,c5⟩:=info_parts V7;have ho:=Fj w;go_in;go_upto_region 2 with fail;obtain⟨W1,b5,b6,a3,a4,c6⟩:∃W1,w.alloc (Kz [] 9)=W1/\F7 W1 w.heap.size (Sz w.heap.size 0 0) []/\Rd W1 rb v len N/\w.grownBy W1 (some rb)/\w.heap.size<W1.heap.size:=⟨_,rfl,ho,hR.alloc _,F4 (E2 _ _) _,by simp⟩;try rw[b5]
 clear b5 ho hR;go_upto_region 4 with fail;obtain⟨W2,b7,b8,a7,a8,a9,c7⟩:∃W2,W1.alloc (.cells (Z8.map Value.string).toArray 9)=W2/\F7 W2 w.heap.size (Sz w.heap.size 0 0) []/\Rd W2 rb v len N/\w.grownBy W2 (some rb)/\F9 W2 W1.heap.size 0 Z8/\W1.heap.size<W2.heap.size:=⟨_,rfl,World.ownsRow.alloc b6 _,a3.alloc _,F4 a4 _,K8 _ _ _,by simp⟩;have e2:W1.alloc (Kz [Tz ⟨#[106]⟩,Tz ⟨#[107,101,103]⟩,Tz ⟨#[116,49]⟩,Tz ⟨#[116,50]⟩,Tz ⟨#[118,97,116]⟩,Tz ⟨#[119]⟩] 9)=W2:=b7;try rw[e2]
 clear b7 e2 b6 a3 a4;have c8:W1.heap.size≠rb:=by omega
 (try dsimp only[Iz,Sz,Sy,Nz,Vz,Tz,Ez,Pz]);go_loopw [3,5] (λu i w'=>∃(k:Nat)(ss:List BA),k<=6/\i=.int .i64 k/\F7 w' w.heap.size u ss/\ss.length<=k/\(∀s∈ss,s∈Z8)/\Rd w' rb v len (N+k)/\w.grownBy w' (some rb)/\F9 w' W1.heap.size 0 Z8/\W1.heap.size<w'.heap.size/\∀g,u.ownBlock=some g->some g≠some W1.heap.size) (λ_ i _=>6-(intOf i).toNat)
 case atStart=>exact⟨0,[],by omega,rfl,b8,by simp,λs hs=>by simp at hs,a7,a8,a9,c7,λg hg e=>by simp[Value.ownBlock] at hg e;omega⟩
 case round =>
  clear b8 a7 a8 a9;obtain⟨k,ss,hk,rfl,a2,d1,b9,b2,b0,hS,d2,b3⟩:=hrel;have Hsm:Hid (∀s∈ss,s∈Z8):=b9;clear b9;have d3:=b0.size;have d4:Z8.length=6:=rfl;by_cases hp:k<6
  ·go_wp2_with fail;refine (K2 rb len _ v 8 _ b2 (by omega)).mono ?_;rintro e w1 ⟨⟨x,rfl,d5,-⟩,a3,a6⟩;have a1:=F2 a2 a6 c1;have a4:=E0 b0 a6;have c6:=a6.size;have b1:F9 w1 W1.heap.size 0 Z8:=λi s hs=>a6.cell (hS i s hs) (by simpa using c8);clear b2 b0 a2 a6 hS;by_cases hx:0<x
   ·have c0:At w1 W1.heap.size k (Tz (Z8[k]'(by omega))):=by
     have:=b1 k _ (A0 (by omega));simpa using this
    have Hm:Hid (Z8[k]'(by omega)∈Z8):=List.getElem_mem _;generalize Z8[k]'(by omega)=s0 at *;have a0:=World.ownsRow.alloc a1 (Kz [Tz s0] 9);have c2:F9 (w1.alloc (Kz [Tz s0] 9)) W1.heap.size 0 Z8:=b1.alloc _;go_wp2_with (at_builtin;refine DI _ rfl _ _ 23 rfl w.heap.size 9 ii _ 1 16 underlying23 hi c3 c4 c5 rfl (by decide) _ _ _ rfl a0 ⟨w1.heap.size,0,none⟩ 1 1 [Tz s0] rfl rfl (AD _ _ _) (DG s0) (by omega) (by unfold maxLen;omega) (by omega) (by simp;omega) ?_)
    intro v' w2 hown2 hgr2 hwh;have a7:=(a3.alloc (Kz [Tz s0] 9)).own a0 hgr2 c1;have a8:=U7 (F4 a4 (Kz [Tz s0] 9)) a0 hgr2 (A4 _);have c9:F7 w2 w.heap.size v' (ss++[s0]):=by unfold F7;simpa using hown2
    have a9:F9 w2 W1.heap.size 0 Z8:=λi s hs=>hgr2.cell (c2 i s hs) (λe=>b3 W1.heap.size e.symm rfl);have a5:=hgr2.size
    have b4:∀g,v'.ownBlock=some g->some g≠some W1.heap.size:=λg hg e=>by
     rcases hwh g hg with h1|h1
     ·exact b3 g h1 e
     ·simp at h1 e;omega
    have d0:W1.heap.size<w2.heap.size:=by simp at a5;omega
    clear a0 hgr2 hown2 a1 a4 a3 c0 hwh c2 b1 a5;go_wp2_with fail;go_roundw
    case rel=>exact⟨k+1,ss++[s0],by omega,by go_num,c9,by simp;omega,λs hs=>by
      rcases D0.1 hs with h|h
      ·exact Hsm.out s h
      ·obtain rfl:s=s0:=by simpa using h
       exact Hm.out,a7,a8,a9,d0,b4⟩
    case measure=>simp[intOf];omega
   ·go_wp2_with fail;go_roundw
    case rel=>exact⟨k+1,ss,by omega,by go_num,a1,by omega,Hsm.out,a3,a4,b1,by omega,b3⟩
    case measure=>simp[intOf];omega
  ·go_wp2_with fail;go_ret;exact⟨⟨_,ss,rfl,a2,by omega,Hsm.out⟩,b2.mono (by omega),b0⟩
end Go.Proofs.YtmonodehegcfhaaGreatDoor
