/- The laws' own helpers over slots of batches. -/
import Derived.Test.YtgecdacgmehmbaaGreatDoorJ14
import Derived.Test.YtgecdacgmehmbaaGreatDoorJ19
import Derived.Test.YtgecdacgmehmbaaGreatDoorU3
import Derived.Test.YtgecdacgmehmbaaGreatDoorJ24
import Derived.Test.YtgecdacgmehmbaaGreatDoorJ21
set_option maxRecDepth 100000
set_option maxHeartbeats 4000000
namespace Go.Proofs.YtgecdacgmehmbaaGreatDoor
open Go.RowKit
def SlSrc (w:World) (v:Value) (l:List Sl):Prop:=(∃a c,v=.slice a 0 c/\l=[])∨∃b o c,v=.slice (some ⟨b,o,none⟩) l.length c/\SlAt w b o l/\b<w.heap.size/\l.length<=maxLen
theorem SlSrc.up {w w':World} {v:Value} {l:List Sl} (h:SlSrc w v l) (hb:Below w.heap.size w w'):SlSrc w' v l:=by
 rcases h with h|⟨b,o,c,rfl,hr,hlt,hl⟩
 ·exact .inl h
 ·exact .inr ⟨b,o,c,rfl,hr.up hb hlt,A1 hlt hb.size,hl⟩
theorem SlSrc.shape {w:World} {v:Value} {l:List Sl} (h:SlSrc w v l):∃a c,v=.slice a l.length c:=by
 rcases h with⟨a,c,rfl,rfl⟩|⟨b,o,c,rfl,_⟩
 ·exact⟨a,c,rfl⟩
 ·exact⟨_,_,rfl⟩
theorem Src.shape {w:World} {v:Value} {ps:List Ph} (h:Src w v ps):∃a c,v=.slice a ps.length c:=by
 rcases h with⟨a,c,rfl,rfl⟩|⟨b,o,c,rfl,_⟩
 ·exact⟨a,c,rfl⟩
 ·exact⟨_,_,rfl⟩
def SlZ (l:List Sl):Prop:=∀y∈l,y.s.size<=maxLen/\y.t.size<=maxLen
def OwnSl (w:World) (b:Nat) (l:List Sl):Prop:=SlAt w b 0 l/\w.there b 0 (l.length*2)/\b<w.heap.size
theorem OwnSl.up {w w':World} {b:Nat} {l:List Sl} (h:OwnSl w b l) (hb:Below w.heap.size w w'):OwnSl w' b l :=
 ⟨h.1.up hb h.2.2,I3 h.2.1 hb h.2.2,A1 h.2.2 hb.size⟩
theorem Ajh (x:Sl) (l:Int) (w:World) (hl:0<=l) (hl':l<=1048576) (hs:x.s.size<=maxLen) (ht:x.t.size<=maxLen) :
  Calls Tryz.prog 23 #[.agg #[.string x.s,.string x.t],.int .i64 l] w λe' w'=>(∃y:Int,e'=.returned (.int .i64 y)/\y<=l/\-1<=y)/\Below w.heap.size w w':=by
 unfold maxLen at *;go_enter Tryz.func23,Tryz.ntmps23
 go_wp2
 all_goals
  go_ret
  exact⟨⟨_,rfl,by omega,by omega⟩,(A4 _ _).alloc (A3 _) _⟩
theorem Ah5 (a:Option Addr) (c:Nat) (l:Int) (w:World) (hl:0<=l) (hl':l<=1048576) :
  Calls Tryz.prog 6 #[.slice a 0 c,.int .i64 l] w λe' w'=>e'=.returned (.int .i64 l)/\w'=w:=by
 go_enter Tryz.func6,Tryz.ntmps6
 go_wp2
 go_rounds 1
 go_ret
 exact⟨rfl,rfl⟩
theorem Ah6 (ls:List Sl) (b o c:Nat) (l:Int) (w:World) (hl:0<=l) (hl':l<=1048576) (hr:SlAt w b o ls) (hb:b<w.heap.size) (hs:SlZ ls) (hn:ls.length<=maxLen) :
  Calls Tryz.prog 6 #[.slice (some ⟨b,o,none⟩) ls.length c,.int .i64 l] w
   λe' w'=>(∃x:Int,e'=.returned (.int .i64 x)/\(0<=x->(ls.length:Int)<=l)/\x<=1048576)/\Below w.heap.size w w':=by
 unfold maxLen at hn;by_cases h0:l-ls.length<0
 ·go_enter Tryz.func6,Tryz.ntmps6
  go_wp2
  go_ret
  exact⟨⟨_,rfl,by omega,by omega⟩,A4 _ _⟩
 have H0:Hid ((ls.length:Int)<=l):=by show _<=_;omega
 go_enter Tryz.func6,Tryz.ntmps6
 go_wp2
 go_loopw [1,5] (λx i w'=>∃(k:Nat) (y:Int),k<=ls.length/\i=.int .i64 k/\x=.int .i64 y/\0<=y/\y<=1048576/\Below w.heap.size w w') (λ_ i _=>ls.length-(intOf i).toNat)
 case atStart=>exact⟨0,_,by omega,rfl,rfl,by omega,by omega,A4 _ _⟩
 case round =>
  obtain⟨k,y,hk,rfl,rfl,hy,hy',hB⟩:=hrel;by_cases hp:k<ls.length
  ·obtain⟨c0,c1⟩:=hr.cells k hp
   obtain⟨z0,z1⟩:=hs ls[k] (by simp);obtain⟨hc,hf⟩:=E2 hB;generalize ls[k]=s0 at *;go_wp2_with fail
   refine (Ajh s0 _ _ hy hy' z0 z1).mono ?_;rintro e' w1 ⟨⟨x,rfl,hx1,-⟩,hb1⟩;have hB1:=D5 hB hb1;by_cases hx:x<0
   ·go_wp2_with fail
    go_ret
    exact⟨⟨_,rfl,by omega,by omega⟩,hB1⟩
   ·go_wp2_with fail
    go_roundw
    case rel=>exact⟨k+1,x,by omega,by go_num,rfl,by omega,by omega,hB1⟩
    case measure=>simp[intOf];omega
  ·go_wp2_with fail
   go_ret
   exact⟨⟨_,rfl,λ_=>H0.out,hy'⟩,hB⟩
theorem Adl (ls:List Sl) (v:Value) (l:Int) (w:World) (hl:0<=l) (hl':l<=1048576) (h:SlSrc w v ls) (hs:SlZ ls) :
  Calls Tryz.prog 6 #[v,.int .i64 l] w λe' w'=>(∃x:Int,e'=.returned (.int .i64 x)/\(0<=x->(ls.length:Int)<=l)/\x<=1048576)/\Below w.heap.size w w':=by
 rcases h with⟨a,c,rfl,rfl⟩|⟨b,o,c,rfl,hr,hb,hn⟩
 ·refine (Ah5 a c _ w hl hl').mono λe w' ⟨he,hw⟩=>?_
  subst hw;exact⟨⟨_,he,λ_=>by simpa using hl,hl'⟩,A4 _ _⟩
 ·exact Ah6 ls b o c l w hl hl' hr hb hs hn
theorem AgA (ps:List Ph) (v:Value) (l:Int) (w:World) (hl:0<=l) (hl':l<=1048576) (h:Src w v ps) (hs:Sized ps) :
  Calls Tryz.prog 5 #[v,.int .i64 l] w λe' w'=>(∃x:Int,e'=.returned (.int .i64 x)/\(0<=x->(ps.length:Int)<=l)/\x<=1048576)/\Below w.heap.size w w':=by
 rcases h with⟨a,c,rfl,rfl⟩|⟨b,o,c,rfl,hr,hb,hn⟩
 ·refine (AmF a c _ w hl hl').mono λe w' ⟨he,hw⟩=>?_
  subst hw;exact⟨⟨_,he,λ_=>by simpa using hl,hl'⟩,A4 _ _⟩
 ·exact AmG ps b o c l w hl hl' hr hb hs hn
theorem AlX:(Tryz.prog.info? 81).map (λi=>(i.zero,i.size,i.bytes))=some (some (.agg #[.string ⟨#[]⟩,.string ⟨#[]⟩]),2,32):=by kernel_rfl
theorem AlY:(Tryz.prog.info? 81).map (·.size)=some 2:=by kernel_rfl
theorem Acr (n:Nat) (hn:n<=1048576):∃C:Array Value,C.size=n*2/\∀w,(Instr.makeSlice 47 (.int .i64 (n:Int)) (.int .i64 (n:Int))).run Tryz.prog w=.ok (.slice (some ⟨w.heap.size,0,none⟩) n n) (w.alloc (.cells C 81)):=by
 obtain⟨i,hi,hz⟩:=B4.1 AlX;simp only[Prod.mk.injEq] at hz;obtain⟨hz,hs,hb⟩:=hz;refine⟨madeCells (Value.agg #[.string ⟨#[]⟩,.string ⟨#[]⟩]).cells (n*2),size_madeCells _ _,λw=>?_⟩;have:=run_make (P:=Tryz.prog) w 47 81 i _ Tryz.underlying47 hi hz .i64 .i64 (n:Int) (n:Int) (by omega) (by omega) (by rw[hb];omega) (by omega);simp only[Int.toNat_natCast,hs] at this;exact this
theorem Aji {w1:World} {b k:Nat} {l:List Sl} (hk:k<l.length) (h:SlAt w1 b 0 (l.take k)) (ht:w1.there b 0 (l.length*2)):SlAt (w1.setCells b (k*2) (l[k]).cells) b 0 (l.take (k+1)):=by
 intro i p hp;by_cases hi:i<k
 ·refine World.rangeAt_setCells_apart (h i p ?_) b (k*2) _ (.inr (.inl ?_))
  ·rw[List.getElem?_take] at hp ⊢;rw[if_pos (by omega)] at hp;rw[if_pos hi];exact hp
  ·simp[Sl.cells];omega
 ·have hik:i=k:=by
   rw[List.getElem?_take] at hp;split at hp
   ·omega
   ·cases hp
  subst hik;rw[List.getElem?_take,if_pos (by omega),A0 hk] at hp;obtain rfl:=A5 hp;rw[Nat.zero_add];refine World.rangeAt_setCells_same _ _ _ _ (λj hj=>?_);have:=ht (i*2+j) (by simp[Sl.cells] at hj;omega);simpa using this
theorem Ajj (x:Sl) (w:World):Calls Tryz.prog 37 #[.agg #[.string x.s,.string x.t]] w λe' w'=>e'=.returned (.agg #[.string x.s,.string x.t])/\Below w.heap.size w w':=by
 go_enter Tryz.func37,Tryz.ntmps37
 go_wp2
 go_returns
 exact⟨rfl,by go_grown⟩
theorem Ah7 (a:Option Addr) (c:Nat) (w:World) :
  Calls Tryz.prog 10 #[.slice a 0 c] w λe w'=>e=.returned (.slice (some ⟨w.heap.size,0,none⟩) 0 0)/\OwnSl w' w.heap.size []/\Below w.heap.size w w':=by
 obtain⟨C,hC,hmk⟩:=Acr 0 (by omega);have HC:Hid (C.size=0*2):=hC;clear hC;simp only[Int.natCast_zero] at hmk;go_enter Tryz.func10,Tryz.ntmps10
 go_wp2
 go_rounds 1
 go_ret
 exact⟨rfl,⟨λi p hp=>by simp at hp,λj hj=>by simp at hj,by simp⟩,by go_grown⟩
theorem Ah8 (l:List Sl) (b o c:Nat) (w:World) (hr:SlAt w b o l) (hb:b<w.heap.size) (hn:l.length<=1048576) :
  Calls Tryz.prog 10 #[.slice (some ⟨b,o,none⟩) l.length c] w λe w'=>e=.returned (.slice (some ⟨w.heap.size,0,none⟩) l.length l.length)/\OwnSl w' w.heap.size l/\Below w.heap.size w w':=by
 obtain⟨C,hC,hmk⟩:=Acr l.length hn;have HC:Hid (C.size=l.length*2):=hC;clear hC;go_enter Tryz.func10,Tryz.ntmps10
 go_wp2
 go_loopw [4] (λi w'=>∃k:Nat,k<=l.length/\i=.int .i64 k/\SlAt w' w.heap.size 0 (l.take k)/\w'.there w.heap.size 0 (l.length*2)/\w.heap.size<w'.heap.size/\Below w.heap.size w w') (λi _=>l.length-(intOf i).toNat)
 case atStart=>exact⟨0,by omega,rfl,λi p hp=>by simp at hp,by rw[← HC.out];exact S2 _ _ _,by simp,by go_grown⟩
 case round =>
  obtain⟨k,hk,rfl,hra,hth,hlt,hB⟩:=hrel;have Hra:Hid (SlAt wr w.heap.size 0 (l.take k)):=hra;have Hth:Hid (wr.there w.heap.size 0 (l.length*2)):=hth;clear hra hth;by_cases hp:k<l.length
  ·obtain⟨c0,c1⟩:=hr.cells k hp
   obtain⟨hc,hf⟩:=E2 hB;have Hst:Hid (∀w1,Below wr.heap.size wr w1->SlAt (w1.setCells w.heap.size (k*2) (l[k]).cells) w.heap.size 0 (l.take (k+1))):=λw1 hb1=>Aji hp (Hra.out.up hb1 hlt) (I3 Hth.out hb1 hlt);generalize l[k]=s0 at *;go_wp2_with fail
   refine (Ajj s0 _).mono ?_;rintro e' w1 ⟨rfl,hb1⟩;clear hc hf c0 c1
   go_wp2_with (refine wpList_store_mid rfl 81 _ _ rfl w.heap.size (k*2) _ rfl rfl (λj hj=>by
     have:=I3 Hth.out hb1 hlt (k*2+j) (by simp at hj;omega);simpa using this) AlY (by simp[Value.oneCell']) ?_)
   go_roundw
   case rel=>exact⟨k+1,by omega,by go_num,Hst.out w1 hb1,World.there_setCells (I3 Hth.out hb1 hlt) _ _ _,A1 (A1 hlt hb1.size) (R8 _ _ _ _),M0 _ _ _ _ _ _ (D5 hB hb1) (A3 _)⟩
   case measure=>simp[intOf];omega
  ·go_wp2_with fail
   go_ret
   exact⟨rfl,⟨by have:=Hra.out;rwa [D2 (by omega)] at this,Hth.out,hlt⟩,hB⟩
theorem X8 (l:List Sl) (v:Value) (w:World) (h:SlSrc w v l) (hn:l.length<=1048576) :
  Calls Tryz.prog 10 #[v] w λe w'=>(∃b,e=.returned (.slice (some ⟨b,0,none⟩) l.length l.length)/\OwnSl w' b l/\w.heap.size<=b)/\Below w.heap.size w w':=by
 rcases h with⟨a,c,rfl,rfl⟩|⟨b,o,c,rfl,hr,hb,hl⟩
 ·exact (Ah7 a c w).mono λe w' ⟨he,ho,hB⟩=>⟨⟨_,he,ho,A3 _⟩,hB⟩
 ·exact (Ah8 l b o c w hr hb hn).mono λe w' ⟨he,ho,hB⟩=>⟨⟨_,he,ho,A3 _⟩,hB⟩
theorem Ajk (x:Sl) (w:World):Calls Tryz.prog 45 #[.agg #[.string x.s,.string x.t],.agg #[.string x.s,.string x.t]] w λe w'=>e=.returned (.bool true)/\Below w.heap.size w w':=by
 go_enter Tryz.func45,Tryz.ntmps45
 go_wp2
 go_ret
 exact⟨rfl,by go_grown⟩
theorem Aag (ps:List Ph) (l:List Sl) (b o c g q cc:Nat) (w:World) (hr:RecAt w b o ps) (hb:b<w.heap.size) (hok:recB ps=true)
  (hl:SlAt w g q l) (hg:g<w.heap.size) (hn:l.length<=1048576) (hz:∀y∈l,y.s.size<=maxLen/\y.t.size<=maxLen) :
  Calls Tryz.prog 27 #[.slice (some ⟨b,o,none⟩) ps.length c,.slice (some ⟨g,q,none⟩) l.length cc] w λe w'=>e=.returned (.bool (pB (SlotsOk ps l)))/\Below w.heap.size w w':=by
 obtain⟨hp1,hp12,-⟩:=(I4 ps).1 hok;obtain⟨c0,-⟩:=hr.cells 0 (by omega);rw[show o+0*8=o by omega] at c0;have hsl:=Aap ps (fstN ps);have hcall:=Adk ps b o c hok 20 (fstN ps) w hr hb (by omega);rw[← S9 (by omega)] at c0;have HP:Hid (SlotsOk ps l=SlOk l (slE ps (fstN ps))):=rfl;have hlen24:(slE ps (fstN ps)).length<=24:=by omega
 clear hsl;generalize slE ps (fstN ps)=ns at *;generalize fstN ps=f0 at *;go_enter Tryz.func27,Tryz.ntmps27
 go_wp2_with fail
 refine hcall.mono ?_;rintro e w1 ⟨⟨u,rfl,hT⟩,hB1⟩;obtain⟨gu,cu,rfl,hS,hgu,-⟩:=hT;clear hcall c0;by_cases hll:l.length=ns.length
 case neg =>
  have HN:Hid (pB (SlotsOk ps l)=false):=F1 (by rw[HP.out];exact λh=>hll h.1);have hll':¬ns.length=l.length:=λe=>hll e.symm;go_wp2_with fail
  go_ret
  exact⟨D6 HN.out.symm,hB1⟩
 have Hll:Hid (l.length=ns.length):=hll;go_upto_region 4 with fail
 clear hll;have hn:ns.length<=1048576:=by omega
 go_wp2_with fail
 go_loopw [6,7] (λi _ w'=>∃k:Nat,k<=ns.length/\i=.int .i64 k/\SlP l ns k/\SlD l k/\Below w1.heap.size w1 w') (λi _ _=>ns.length-(intOf i).toNat)
 case atStart=>exact⟨0,by omega,rfl,λj x hj _=>by omega,λj k x y hj=>by omega,A4 _ _⟩
 case round =>
  obtain⟨k,hk,rfl,hP,hD,hB⟩:=hrel;have HPk:Hid (SlP l ns k):=hP;have HDk:Hid (SlD l k):=hD;clear hP hD;by_cases hkn:k<ns.length
  ·have hp:k<l.length:=by have:=Hll.out;omega
   have hl1:=hl.up (D5 hB1 hB) hg;obtain⟨d0,d1⟩:=hl1.cells k hp;have e0:wr.cell? ⟨gu,k,none⟩=some (.string ns[k]):=(hB.cell (p:=⟨gu,k,none⟩) hgu).trans (by have:=hS k ns[k] (by simp);simpa using this);obtain⟨zs,zt⟩:=hz l[k] (by simp);have N1:Hid (((l[k]).s.toList==(ns[k]).toList)=false->¬SlOk l ns):=SlP.no1 hp hkn;have N2:Hid (nameB (l[k]).t=false->¬SlOk l ns):=SlP.no2 hp;have N3:Hid (((l[k]).s.toList==(ns[k]).toList)=true->nameB (l[k]).t=true->SlP l ns (k+1)):=HPk.out.step hp hkn;have N4:Hid ((∀(j:Nat) (y:Sl),j<k->l[j]?=some y->y.t.toList≠(l[k]).t.toList)->SlD l (k+1)):=HDk.out.step hp;have N5:Hid (∀(j:Nat) (hj:j<k),((l[j]'(by omega)).t.toList==(l[k]).t.toList)=true->¬SlOk l ns):=λj hj=>SlD.no hp hj;have q1:∀m,Calls Tryz.prog 28 #[.string (l[k]).t] (wr.drewN m) λe w'=>e=.returned (.bool (nameB (l[k]).t))/\∃n,w'=wr.drewN n:=λm=>(G6 _ _ zt).mono λe w' ⟨h1,h2⟩=>⟨h1,m,h2⟩;generalize hy:l[k]=y at *;generalize ns[k]=s0 at *;cases h1:(y.s.toList==s0.toList)
   ·have Hno:Hid (pB (SlotsOk ps l)=false):=F1 (by rw[HP.out];exact N1.out h1)
    go_wp2_with fail
    go_quiet (fail)
    go_wp2
    go_ret
    exact⟨D6 Hno.out.symm,E7 (D5 hB1 hB) _⟩
   ·cases h2:nameB y.t
    ·have Hno:Hid (pB (SlotsOk ps l)=false):=F1 (by rw[HP.out];exact N2.out h2)
     rw[h2] at q1;go_wp2_with fail
     go_quiet ((go_at_call 28;exact q1 _))
     go_wp2_with fail
     go_ret
     exact⟨D6 Hno.out.symm,E7 (D5 hB1 hB) _⟩
    ·have Hyes:Hid (SlP l ns (k+1)):=N3.out h1 h2
     rw[h2] at q1;go_wp2_with fail
     go_quiet ((go_at_call 28;exact q1 _))
     go_wp2_with fail
     go_loopw [7] (λi w'=>∃m:Nat,m<=k/\i=.int .i64 m/\(∀(j:Nat) (z:Sl),j<m->l[j]?=some z->z.t.toList≠y.t.toList)/\∃nd,w'=wr.drewN nd) (λi _=>k-(intOf i).toNat)
     case atStart=>exact⟨0,by omega,rfl,λj z hj=>by omega,_,rfl⟩
     case round =>
      obtain⟨m,hm,rfl,hal,nd,rfl⟩:=hrel;have Hal:Hid (∀(j:Nat) (z:Sl),j<m->l[j]?=some z->z.t.toList≠y.t.toList):=hal;clear hal;by_cases hmk:m<k
      ·have hml:m<l.length:=by omega
       obtain⟨f0',f1⟩:=hl1.cells m hml;have f2:=f1;cases h3:((l[m]).t.toList==y.t.toList)
       ·have Hq:Hid (∀(j:Nat) (z:Sl),j<m+1->l[j]?=some z->z.t.toList≠y.t.toList):=λj z hj hz=>by
         rcases Nat.lt_or_ge j m with h'|h'
         ·exact Hal.out j z h' hz
         ·obtain rfl:j=m:=by omega
          obtain⟨_,rfl⟩:=A2.1 hz;intro e;rw[e] at h3;simp at h3
        go_wp2_with fail
        go_quiet (fail)
        go_wp2_with fail
        go_roundw
        case rel=>exact⟨m+1,by omega,by go_num,Hq.out,_,rfl⟩
        case measure=>simp[intOf];omega
       ·have Hno:Hid (pB (SlotsOk ps l)=false):=F1 (by rw[HP.out];exact N5.out m hmk h3)
        go_wp2_with fail
        go_quiet (fail)
        go_wp2_with fail
        go_ret
        exact⟨D6 Hno.out.symm,E7 (E7 (D5 hB1 hB) _) _⟩
      ·have Hd:Hid (SlD l (k+1)):=N4.out λj z hj hz=>Hal.out j z (by omega) hz
       go_wp2_with fail
       go_roundw
       case rel=>exact⟨k+1,by omega,by go_num,Hyes.out,Hd.out,E7 hB _⟩
       case measure=>simp[intOf];omega
  ·have Hq:Hid (pB (SlotsOk ps l)=true):=G9 (by
    rw[HP.out];have e:k=l.length:=by have:=Hll.out;omega
    exact⟨Hll.out,by have:=HPk.out;rwa [e] at this,by have:=HDk.out;rwa [e] at this⟩)
   go_wp2_with fail
   go_ret
   exact⟨D6 Hq.out.symm,D5 hB1 hB⟩
theorem T9 (s:ByteArray) (w:World) (hs:s.size<=maxLen):Calls Tryz.prog 28 #[.string s] w λe w'=>e=.returned (.bool (nameB s))/\Below w.heap.size w w' :=
 (G6 s w hs).mono λ_ _ h=>⟨h.1,by rw[h.2];exact A4 _ _⟩
theorem O2 (x:Rb) (rv sv:Value) (w:World) (h:RbV w x rv sv) :
  Calls Tryz.prog 60 #[.agg #[.string x.nm,rv,sv,.string x.ad,.int .i64 x.si,.int .i64 x.st]] w λe w'=>e=.returned (.bool (pB (RbOk x)))/\Below w.heap.size w w':=by
 obtain⟨b,o,c,rfl,hr,hb,hcap,hc9⟩:=h.r;obtain⟨g,q,d,rfl,hl,hg⟩:=h.s;have zp:=h.zp;have zs:=h.zs;have zn:=h.zn;have np:=h.np;have ns:=h.ns;clear h;have hC:CB (w.alloc (.cells #[.string x.nm,.slice (some ⟨b,o,none⟩) x.ps.length c,.slice (some ⟨g,q,none⟩) x.sl.length d,.string x.ad,.int .i64 x.si,.int .i64 x.st] 71)) w.heap.size [.string x.nm,.slice (some ⟨b,o,none⟩) x.ps.length c,.slice (some ⟨g,q,none⟩) x.sl.length d,.string x.ad,.int .i64 x.si,.int .i64 x.st]:=E8 w _ _;have hB0:=(A4 w.heap.size w).alloc (A3 _) (.cells #[.string x.nm,.slice (some ⟨b,o,none⟩) x.ps.length c,.slice (some ⟨g,q,none⟩) x.sl.length d,.string x.ad,.int .i64 x.si,.int .i64 x.st] 71);go_enter Tryz.func60,Tryz.ntmps60
 go_upto_region 1 with fail
 generalize w.alloc (.cells #[.string x.nm,.slice (some ⟨b,o,none⟩) x.ps.length c,.slice (some ⟨g,q,none⟩) x.sl.length d,.string x.ad,.int .i64 x.si,.int .i64 x.st] 71)=W1 at *;obtain⟨d0,d1,d2,d3,d4,d5⟩:=hC.c6;have hlt:=hC.2.2;have hB:Below W1.heap.size W1 W1:=A4 _ _;obtain⟨hc,hf⟩:=E2 hB;cases h1:nameB x.nm
 ·have HN:Hid (pB (RbOk x)=false):=F1 λh=>by rw[h.1] at h1;cases h1
  go_wp2_with (first|(go_at_call 28;refine (T9 _ _ zn).mono ?_;rintro e w1 ⟨rfl,hb1⟩;(first|(have hB':=D5 hB hb1;clear hB;have hB:=hB';clear hB')|(have hB:=hb1));clear hb1;(try clear hc hf);obtain⟨hc,hf⟩:=E2 hB))
  go_ret
  exact⟨D6 HN.out.symm,D5 hB0 hB⟩
 cases h3:recB x.ps
 ·have HN:Hid (pB (RbOk x)=false):=F1 λh=>by rw[h.2.1] at h3;cases h3
  go_wp2_with (first|(go_at_call 28;refine (T9 _ _ zn).mono ?_;rintro e w1 ⟨rfl,hb1⟩;(first|(have hB':=D5 hB hb1;clear hB;have hB:=hB';clear hB')|(have hB:=hb1));clear hb1;(try clear hc hf);obtain⟨hc,hf⟩:=E2 hB)|(go_at_call 26;refine (Aae x.ps b o c _ (hr.up (D5 hB0 hB) hb) (A1 hb (D5 hB0 hB).size) zp np).mono ?_;rintro e w1 ⟨rfl,hb1⟩;(first|(have hB':=D5 hB hb1;clear hB;have hB:=hB';clear hB')|(have hB:=hb1));clear hb1;(try clear hc hf);obtain⟨hc,hf⟩:=E2 hB))
  go_ret
  exact⟨D6 HN.out.symm,D5 hB0 hB⟩
 cases h4:pB (SlotsOk x.ps x.sl)
 ·have HN:Hid (pB (RbOk x)=false):=F1 λh=>J0.1 h4 h.2.2.1
  go_wp2_with (first|(go_at_call 28;refine (T9 _ _ zn).mono ?_;rintro e w1 ⟨rfl,hb1⟩;(first|(have hB':=D5 hB hb1;clear hB;have hB:=hB';clear hB')|(have hB:=hb1));clear hb1;(try clear hc hf);obtain⟨hc,hf⟩:=E2 hB)|(go_at_call 26;refine (Aae x.ps b o c _ (hr.up (D5 hB0 hB) hb) (A1 hb (D5 hB0 hB).size) zp np).mono ?_;rintro e w1 ⟨rfl,hb1⟩;(first|(have hB':=D5 hB hb1;clear hB;have hB:=hB';clear hB')|(have hB:=hb1));clear hb1;(try clear hc hf);obtain⟨hc,hf⟩:=E2 hB)|(go_at_call 27;refine (Aag x.ps x.sl b o c g q d _ (hr.up (D5 hB0 hB) hb) (A1 hb (D5 hB0 hB).size) h3 (hl.up (D5 hB0 hB) hg) (A1 hg (D5 hB0 hB).size) ns zs).mono ?_;rintro e w1 ⟨rfl,hb1⟩;(first|(have hB':=D5 hB hb1;clear hB;have hB:=hB';clear hB')|(have hB:=hb1));clear hb1;(try clear hc hf);obtain⟨hc,hf⟩:=E2 hB))
  go_ret
  exact⟨D6 HN.out.symm,D5 hB0 hB⟩
 by_cases h2:1<=x.st
 case neg =>
  have HN:Hid (pB (RbOk x)=false):=F1 λh=>h2 h.2.2.2.1;go_wp2_with (first|(go_at_call 28;refine (T9 _ _ zn).mono ?_;rintro e w1 ⟨rfl,hb1⟩;(first|(have hB':=D5 hB hb1;clear hB;have hB:=hB';clear hB')|(have hB:=hb1));clear hb1;(try clear hc hf);obtain⟨hc,hf⟩:=E2 hB)|(go_at_call 26;refine (Aae x.ps b o c _ (hr.up (D5 hB0 hB) hb) (A1 hb (D5 hB0 hB).size) zp np).mono ?_;rintro e w1 ⟨rfl,hb1⟩;(first|(have hB':=D5 hB hb1;clear hB;have hB:=hB';clear hB')|(have hB:=hb1));clear hb1;(try clear hc hf);obtain⟨hc,hf⟩:=E2 hB)|(go_at_call 27;refine (Aag x.ps x.sl b o c g q d _ (hr.up (D5 hB0 hB) hb) (A1 hb (D5 hB0 hB).size) h3 (hl.up (D5 hB0 hB) hg) (A1 hg (D5 hB0 hB).size) ns zs).mono ?_;rintro e w1 ⟨rfl,hb1⟩;(first|(have hB':=D5 hB hb1;clear hB;have hB:=hB';clear hB')|(have hB:=hb1));clear hb1;(try clear hc hf);obtain⟨hc,hf⟩:=E2 hB))
  go_ret
  exact⟨D6 HN.out.symm,D5 hB0 hB⟩
 have H123:Hid (nameB x.nm=true/\recB x.ps=true/\SlotsOk x.ps x.sl/\1<=x.st):=⟨h1,h3,F7.1 h4,h2⟩;go_upto_region 3 with (first|(go_at_call 28;refine (T9 _ _ zn).mono ?_;rintro e w1 ⟨rfl,hb1⟩;(first|(have hB':=D5 hB hb1;clear hB;have hB:=hB';clear hB')|(have hB:=hb1));clear hb1;(try clear hc hf);obtain⟨hc,hf⟩:=E2 hB)|(go_at_call 26;refine (Aae x.ps b o c _ (hr.up (D5 hB0 hB) hb) (A1 hb (D5 hB0 hB).size) zp np).mono ?_;rintro e w1 ⟨rfl,hb1⟩;(first|(have hB':=D5 hB hb1;clear hB;have hB:=hB';clear hB')|(have hB:=hb1));clear hb1;(try clear hc hf);obtain⟨hc,hf⟩:=E2 hB)|(go_at_call 27;refine (Aag x.ps x.sl b o c g q d _ (hr.up (D5 hB0 hB) hb) (A1 hb (D5 hB0 hB).size) h3 (hl.up (D5 hB0 hB) hg) (A1 hg (D5 hB0 hB).size) ns zs).mono ?_;rintro e w1 ⟨rfl,hb1⟩;(first|(have hB':=D5 hB hb1;clear hB;have hB:=hB';clear hB')|(have hB:=hb1));clear hb1;(try clear hc hf);obtain⟨hc,hf⟩:=E2 hB))
 clear h1 h2 h4;cases h5:hasB x.ps x.ad
 ·have HN:Hid (pB (RbOk x)=false):=F1 λh=>by rw[h.2.2.2.2.1] at h5;cases h5
  have hat:=λW (hW:RecAt W b o x.ps)=>O8 x.ps b o c x.ad W hW np;rw[Ad0 x.ps x.ad h5] at hat;clear h5;go_wp2_with fail
  refine (hat _ (hr.up (D5 hB0 hB) hb)).mono ?_;rintro e w' ⟨rfl,hw⟩;obtain rfl:=hw.symm;clear hw;go_wp2_with fail
  go_quiet (fail)
  go_wp2
  go_ret
  exact⟨D6 HN.out.symm,E7 (D5 hB0 hB) _⟩
 obtain⟨k,hk,hka⟩:=Ab6 h5
 have HY:Hid (pB (RbOk x)=inB x.si (-1) ((x.ps[k]).wi-1)):=by
  show _=_
  obtain⟨k1,k2,k3,k4⟩:=H123.out;have e:=Ab2 hk hka
  have:RbOk x↔(-1<=x.si/\x.si<=(x.ps[k]).wi-1):=by
   rw[← e];exact⟨λh=>⟨h.2.2.2.2.2.1,by have:=h.2.2.2.2.2.2;omega⟩,λh=>⟨k1,k2,k3,k4,h5,h.1,by omega⟩⟩
  rw[Bool.eq_iff_iff,P9,F7];exact this
 have hat:=λW (hW:RecAt W b o x.ps)=>O8 x.ps b o c x.ad W hW np;rw[hka] at hat;have hwi:1<=(x.ps[k]).wi/\(x.ps[k]).wi<=1000:=AkG (AeD h3 (by simp));obtain⟨-,-,-,-,-,c5,-⟩:=(hr.up (D5 hB0 hB) hb).cells k hk;clear hka h5 h3;generalize (x.ps[k]).wi=wi at *;go_upto_region 4 with (go_at_call 65;refine (hat _ (hr.up (D5 hB0 hB) hb)).mono ?_;rintro e w' ⟨rfl,hw⟩;obtain rfl:=hw.symm;clear hw)
 rename_i W3;go_wp2_with fail
 go_quiet ((go_at_call 57;exact Calls.quiet_of_same (G7 _ _ _ _)))
 go_wp2_with fail
 go_ret
 exact⟨D6 HY.out.symm,E7 (D5 hB0 hB) _⟩
end Go.Proofs.YtgecdacgmehmbaaGreatDoor
namespace Go.Proofs.YtgecdacgmehmbaaGreatDoor
open Go Go.RowKit Go.Shelf
attribute [local go_sem] Oper.semAt_some
theorem Ajl (b:Bk) (a1 a2:Option Addr) (c1 c2:Nat) (w:World) :
  Calls Tryz.prog 202 #[.agg #[.slice a1 b.things.length c1,.slice a2 b.bs.length c2]] w λe w'=>e=.returned (.func (.func 216) #[] #[.pointer (some ⟨w.heap.size,0,none⟩)])/\w'=w.alloc (.cells #[.slice a1 (b).things.length c1,.slice a2 (b).bs.length c2] 37):=by
 go_enter Tryz.func202,Tryz.ntmps202
 go_wp2
 go_ret
 exact⟨rfl,rfl⟩
theorem CB.c1' {w:World} {b:Nat} {x0:Value} (h:CB w b [x0]):w.cell? ⟨b,0,none⟩=some x0/\w.frozen? ⟨b,0,none⟩=false:=⟨h.1 0 _ rfl,(h.2.1 0 (by simp)).2⟩
theorem AdD {Z:World} {r:Nat} {x:Value} (h:Z.cell? ⟨r,0,none⟩=some x):(loadVar 22 ⟨r,0,none⟩).run Tryz.prog Z=.ok x Z:=by
 simp[loadVar,isAgg,h,go_sem]
theorem AdE {Z:World} {r:Nat} {x:Value} (h:Z.cell? ⟨r,0,none⟩=some x):(loadVar 4 ⟨r,0,none⟩).run Tryz.prog Z=.ok x Z:=by
 simp[loadVar,isAgg,h,go_sem]
theorem Acg {P:Program} {fn:Func} {q q2:Tmp} {T T2:TypeId} (h:fn.results=#[.cell q T,.cell q2 T2]) {tmps:Array Value} {Z:World} {r r2:Nat} {x y:Value}
  (ht:tmps.getD q undef=.pointer (some ⟨r,0,none⟩)) (ht2:tmps.getD q2 undef=.pointer (some ⟨r2,0,none⟩)) (hZ:(loadVar T ⟨r,0,none⟩).run P Z=.ok x Z) (hZ2:(loadVar T2 ⟨r2,0,none⟩).run P Z=.ok y Z):(results fn tmps).run P Z=.ok (.tuple #[x,y]) Z:=by
 have ha:(asAddr (.pointer (some ⟨r,0,none⟩))).run P Z=.ok ⟨r,0,none⟩ Z:=by simp[go_sem]
 have ha2:(asAddr (.pointer (some ⟨r2,0,none⟩))).run P Z=.ok ⟨r2,0,none⟩ Z:=by simp[go_sem]
 have ht':tmps[q]?.getD undef=.pointer (some ⟨r,0,none⟩):=by simpa using ht
 have ht2':tmps[q2]?.getD undef=.pointer (some ⟨r2,0,none⟩):=by simpa using ht2
 simp only[results,h];simp[Sem.run_bind,Result.andThen,ht',ht2',ha,ha2,hZ,hZ2]
theorem AkJ (b:Bk) (v:Value) (w:World) (h:BkV w v b) :
  Calls Tryz.prog 178 #[v] w λe w'=>(∃u ss ok,e=.returned (.tuple #[u,.bool ok])/\OrderIs b ss ok/\OwnT w' w.heap.size u ss/\∀s∈ss,s.size<=maxLen)/\Below w.heap.size w w':=by
 obtain⟨a1,c1,a2,c2,rfl,-,-⟩:=h.parts;refine (callsIn_wide (n:=3)).1 ?_;refine callsIn_of_wp_marks Tryz.func178 rfl trivial ?_ rfl;simp only[Tryz.ntmps178,List.size_toArray,List.length_cons,List.length_nil,Nat.reduceAdd,Nat.reduceSub,Array.replicate_succ,Array.replicate_zero,List.push_toArray,List.append_toArray,List.nil_append,List.cons_append];obtain⟨W1,hW1,kA,k2,k3,hB1,hs1⟩:=Adv w [.slice a1 (b).things.length c1,.slice a2 (b).bs.length c2] 37 [.slice none 0 0] 22 [.bool false] 4;obtain⟨p0,p1⟩:=kA.c2';gi_wp2_with fail
 try rw[hW1]
 clear hW1;refine⟨trivial,(callsIn_wide.2 (AbY b _ _ (h.up hB1))).mono ?_⟩;rintro e w2 ⟨rfl,hb2⟩;clear p0 p1;have hz2:=hb2.size;have hB2:=D5 hB1 hb2;have kA:=kA.up hb2 kA.2.2;have k2:=k2.up hb2 k2.2.2;have k3:=k3.up hb2 k3.2.2;clear hb2 hB1;cases hq:bookB b
 ·have Hq:Hid (OrderIs b [] false):=.inr ⟨rfl,rfl,.inl (J0.1 hq)⟩
  obtain⟨x2,f2⟩:=k2.c1';obtain⟨x3,f3⟩:=k3.c1';have hne:¬w.heap.size+2=w.heap.size+1:=by omega
  gi_wp2_with fail
  refine⟨_,Acg (r:=w.heap.size+1) (r2:=w.heap.size+2) (x:=.slice none 0 0) (y:=.bool false) Tryz.results178 rfl rfl (AdD ?_) (AdE ?_),?_⟩
  ·exact (((k2.set (j:=0) (u:=.slice none 0 0) (by simp)).other (by omega)).c1').1
  ·exact (((k3.other (q:=w.heap.size+1) (j:=0) (u:=.slice none 0 0) (by omega)).set (j:=0) (u:=.bool false) (by simp)).c1').1
  exact⟨⟨_,[],false,rfl,Hq.out,⟨by simp,.inl ⟨rfl,rfl⟩⟩,λs hs=>by simp at hs⟩,(hB2.setCell (p:=⟨w.heap.size+1,0,none⟩) (by simp) _).setCell (p:=⟨w.heap.size+2,0,none⟩) (by simp) _⟩
 ·have hok:BookOk b:=F7.1 hq
  clear hq;obtain⟨p0,p1⟩:=kA.c2';gi_wp2_with fail
  refine⟨trivial,(callsIn_wide.2 (Ajl b _ _ _ _ _)).mono ?_⟩;rintro e W3 ⟨rfl,hW3⟩;obtain⟨kQ,hb3,hs3⟩:CB W3 w2.heap.size [.slice a1 b.things.length c1,.slice a2 b.bs.length c2]/\Below w2.heap.size w2 W3/\W3.heap.size=w2.heap.size+1:=by rw[hW3];exact cb1 w2 [.slice a1 b.things.length c1,.slice a2 b.bs.length c2] _
  clear hW3 p0 p1;have hB3:=D5 hB2 hb3;have kA:=kA.up hb3 kA.2.2;have k2:=k2.up hb3 k2.2.2;have k3:=k3.up hb3 k3.2.2;clear hb3 hB2;gi_wp2_with fail
  refine Ahd rfl (by omega) (gf:=216) (lb:=#[.pointer (some ⟨w2.heap.size,0,none⟩)]) rfl trivial (enters_of Tryz.func216 (by kernel_rfl) rfl) ?_;intro fn lp _ hlp;obtain⟨W4,hW4⟩:∃W4,(W3.alloc (.deferred (some []))).alloc (.loop lp)=W4:=⟨_,rfl⟩;rw[hW4]
  have hL:W4.heap[W3.heap.size+1]?=some (.loop lp):=by
   rw[← hW4];have:=World.alloc_heap_new (W3.alloc (.deferred (some []))) (.loop lp);rwa [World.size_alloc] at this
  have hD:W4.heap[W3.heap.size]?=some (.deferred (some [])):=by
   rw[← hW4];exact (Below.heap_alloc _ _ _ (by simp)).trans (World.alloc_heap_new W3 _)
  have hb4:Below W3.heap.size W3 W4:=by rw[← hW4];exact ((A4 _ W3).alloc (A3 _) _).alloc (by simp) _
  have hs4:W4.heap.size=W3.heap.size+2:=by rw[← hW4];simp
  clear hW4;have hB4:=D5 hB3 hb4;have kA:=kA.up hb4 kA.2.2;have k2:=k2.up hb4 k2.2.2;have k3:=k3.up hb4 k3.2.2;have kQ:=kQ.up hb4 kQ.2.2;have hbk4:=h.up hB4;have hz4:=hB4.size;clear hb4 hB3;refine CallsIn.mono (Afy 1 W4 w2.heap.size (W3.heap.size+1) b _ _ lp (λW' gone u=>CB W' (w.heap.size+1) [u]/\CB W' (w.heap.size+2) [.bool true]/\W'.heap[W3.heap.size]?=some (.deferred (some []))/\W'.heap[W3.heap.size+1]?=some (.loop {lp with state:=.done,pending:=some .ret})/\OwnT W' (W3.heap.size+2) u gone/\Below w.heap.size w W') kQ hbk4 (λX hX=>h.up (hB4.trans (hX.mono (by omega)))) hok hL ?hY) ?_
  case hY =>
   intro gone u W hB hgo hown hsz;have hlW:=(hB.block (W3.heap.size+1) (by omega)).trans hL;have hdW:=(hB.block W3.heap.size (by omega)).trans hD;have kA:=kA.up hB (by omega);have k2:=k2.up hB (by omega);have k3:=k3.up hB (by omega);have hBW:=hB4.trans (hB.mono (by omega));have hback:({lp with state:=.ready,pending:=none}:Loop)=lp:=by rw[hlp];rfl
   have Hback:Hid (({lp with state:=.ready,pending:=none}:Loop)=lp):=hback;obtain⟨au,cu,rfl⟩:=hown.lst.shape;clear kQ hbk4 hL hD hB hB4 hback hz4;refine Ahc hlW (congrArg Loop.state hlp) (congrArg Loop.assign hlp) (congrArg Loop.body hlp) (congrArg Loop.params hlp) (congrArg Loop.tmps hlp) rfl trivial ?_;dsimp only[recOf]
   clear hlp;have hlt:W3.heap.size+1<W.heap.size:=(D3.1 hlW).1;gi_wp2_with fail
   refine⟨hlW,?_⟩;have hg2:=grownBy_putObj' W (W3.heap.size+1) (.loop {lp with state:=.busy});have hl2:(W.putObj (W3.heap.size+1) (.loop {lp with state:=.busy})).heap[W3.heap.size+1]?=some (.loop {lp with state:=.busy}):=World.putObj_heap_same hlt;have kA:=kA.kept hg2 (by simp;omega);have k2:=k2.kept hg2 (by simp;omega);have k3:=k3.kept hg2 (by simp;omega);have hown:=E6 hown hg2 (by omega);have hdW:=(hg2.block W3.heap.size (by omega) (by simp)).trans hdW;have hBW:=S7 hBW hg2 (by omega);have Hg2:Hid (W.grownBy (W.putObj (W3.heap.size+1) (.loop {lp with state:=.busy})) (some (W3.heap.size+1))):=hg2;have hz2':=hg2.size;clear hg2 hlW;generalize W.putObj (W3.heap.size+1) (.loop {lp with state:=.busy})=X2 at *;obtain⟨p0,p1⟩:=kA.c2';by_cases h0:gone.length=b.bs.length
   ·have hlb:((gone.length:Int)==(b.bs.length:Int))=true:=by rw[beq_iff_eq];omega
    obtain⟨x2,f2⟩:=k2.c1';obtain⟨x3,f3⟩:=k3.c1';have hne:¬w.heap.size+2=w.heap.size+1:=by omega
    have hne2:¬w.heap.size+1=w.heap.size+2:=by omega
    have hn0:¬w.heap.size=w.heap.size+1:=by omega
    have hn1:¬w.heap.size=w.heap.size+2:=by omega
    have Hh0:Hid (gone.length=b.bs.length):=h0;clear h0;gi_wp2_with fail
    obtain⟨X3,hX3,hgX,y2,y3⟩:∃X3,(X2.setCell ⟨w.heap.size+1,0,none⟩ (.slice au gone.length cu)).setCell ⟨w.heap.size+2,0,none⟩ (.bool true)=X3/\(∀i,i≠w.heap.size+1->i≠w.heap.size+2->X3.heap[i]?=X2.heap[i]?)/\CB X3 (w.heap.size+1) [.slice au gone.length cu]/\CB X3 (w.heap.size+2) [.bool true] :=
     ⟨_,rfl,λi q1 q2=>(Below.heap_setCell _ _ _ _ q2).trans (Below.heap_setCell _ _ _ _ q1),(k2.set (j:=0) (by simp)).other (by omega),(k3.other (by omega)).set (j:=0) (by simp)⟩
    have hBX:Below w.heap.size w X3:=by rw[← hX3];exact (hBW.setCell (p:=⟨w.heap.size+1,0,none⟩) (by simp) _).setCell (p:=⟨w.heap.size+2,0,none⟩) (by simp) _
    have hoX:OwnT X3 (W3.heap.size+2) (.slice au gone.length cu) gone:=by
     rw[← hX3];exact E6 (E6 hown (D9 (off:=0) (E1 _ (some (w.heap.size+1))) _) (by omega)) (D9 (off:=0) (E1 _ (some (w.heap.size+2))) _) (by omega)
    have hlX:=(hgX (W3.heap.size+1) (by omega) (by omega)).trans hl2;have hdX:=(hgX W3.heap.size (by omega) (by omega)).trans hdW;try rw[hX3]
    clear hX3 x2 x3 f2 f3 p0 p1;refine⟨hlX,.inr ⟨Hh0.out,rfl,?_⟩⟩;have hlt3:W3.heap.size+1<X3.heap.size:=(D3.1 hlX).1;have hg4:=grownBy_putObj' X3 (W3.heap.size+1) (.loop {lp with state:=.done,pending:=some .ret});exact⟨y2.kept hg4 (by simp;omega),y3.kept hg4 (by simp;omega),(hg4.block W3.heap.size (by omega) (by simp)).trans hdX,World.putObj_heap_same hlt3,E6 hoX hg4 (by omega),S7 hBX hg4 (by omega)⟩
   ·have hlb:((gone.length:Int)==(b.bs.length:Int))=false:=by rw[beq_eq_false_iff_ne];omega
    gi_wp2_with fail
    have hlt3:W3.heap.size+1<X2.heap.size:=(D3.1 hl2).1;refine⟨hl2,.inl ⟨h0,rfl,?_⟩⟩;rw[Hback.out];exact⟨E3 Hg2.out (grownBy_putObj' _ _ _),World.putObj_heap_same hlt3⟩
  rintro e W ⟨⟨v,rfl⟩,⟨gone,u,hgo,hsz,y2,y3,hdW,hlW,hown,hBW⟩|⟨hB,n,gone,hn,hgo,hnx⟩⟩
  ·refine⟨⟨_,rfl⟩,.inl ⟨hlW,?_⟩⟩
   have HR:Hid (OrderIs b gone true):=.inl ⟨rfl,hok,hgo⟩;have hg4:=grownBy_putObj' W (W3.heap.size+1) (.loop {lp with state:=.exhausted,pending:=some .ret});have hlt3:W3.heap.size+1<W.heap.size:=(D3.1 hlW).1;have y2:=y2.kept hg4 (by simp;omega);have y3:=y3.kept hg4 (by simp;omega);have hdW:=(hg4.block W3.heap.size (by omega) (by simp)).trans hdW;have hown:=E6 hown hg4 (by omega);have hBW:=S7 hBW hg4 (by omega);clear hg4 hlW;generalize W.putObj (W3.heap.size+1) (.loop {lp with state:=.exhausted,pending:=some .ret})=V at *;have hgZ:=grownBy_putObj' V W3.heap.size (.deferred none);dsimp only
   gi_wp2_with fail
   refine⟨by simp,.inl ⟨_,_,rfl,run_takeDeferred hdW,?_⟩⟩;refine⟨_,Acg (r:=w.heap.size+1) (r2:=w.heap.size+2) (x:=u) (y:=.bool true) Tryz.results178 rfl rfl (AdD (y2.kept hgZ (by simp;omega)).c1'.1) (AdE (y3.kept hgZ (by simp;omega)).c1'.1),?_⟩;exact⟨⟨u,gone,true,rfl,HR.out,F9 (E6 hown hgZ (by omega)) (by omega),hsz⟩,S7 hBW hgZ (by omega)⟩
  ·have hlW:=(hB.block (W3.heap.size+1) (by omega)).trans hL
   have hdW:=(hB.block W3.heap.size (by omega)).trans hD;refine⟨⟨_,rfl⟩,.inr ⟨hlW,?_⟩⟩;have HR:Hid (OrderIs b [] false):=.inr ⟨rfl,rfl,.inr ⟨n,gone,hn,hgo,hnx⟩⟩;have k2:=k2.up hB (by omega);have k3:=k3.up hB (by omega);have hBW:=hB4.trans (hB.mono (by omega));have hlt3:W3.heap.size+1<W.heap.size:=(D3.1 hlW).1;have hg4:=grownBy_putObj' W (W3.heap.size+1) (.loop {lp with state:=.exhausted,pending:=none});have k2:=k2.kept hg4 (by simp;omega);have k3:=k3.kept hg4 (by simp;omega);have hdW:=(hg4.block W3.heap.size (by omega) (by simp)).trans hdW;have hBW:=S7 hBW hg4 (by omega);have hzV:=hg4.size;clear hg4 hlW kA kQ hbk4 hL hD hB hgo hnx hn;generalize W.putObj (W3.heap.size+1) (.loop {lp with state:=.exhausted,pending:=none})=V at *;obtain⟨x2,f2⟩:=k2.c1';obtain⟨x3,f3⟩:=k3.c1';have hne:¬w.heap.size+2=w.heap.size+1:=by omega
   dsimp only
   gi_wp2_with fail
   have y2:CB ((V.setCell ⟨w.heap.size+1,0,none⟩ (.slice none 0 0)).setCell ⟨w.heap.size+2,0,none⟩ (.bool false)) (w.heap.size+1) [.slice none 0 0]:=(k2.set (j:=0) (by simp)).other (by omega);have y3:CB ((V.setCell ⟨w.heap.size+1,0,none⟩ (.slice none 0 0)).setCell ⟨w.heap.size+2,0,none⟩ (.bool false)) (w.heap.size+2) [.bool false]:=(k3.other (by omega)).set (j:=0) (by simp);have hdZ:((V.setCell ⟨w.heap.size+1,0,none⟩ (.slice none 0 0)).setCell ⟨w.heap.size+2,0,none⟩ (.bool false)).heap[W3.heap.size]?=some (.deferred (some [])):=(Below.heap_setCell _ _ _ _ (by simp;omega)).trans ((Below.heap_setCell _ _ _ _ (by simp;omega)).trans hdW);have hBZ:=(hBW.setCell (p:=⟨w.heap.size+1,0,none⟩) (by simp) (.slice none 0 0)).setCell (p:=⟨w.heap.size+2,0,none⟩) (by simp) (.bool false);have hgZ:=grownBy_putObj' ((V.setCell ⟨w.heap.size+1,0,none⟩ (.slice none 0 0)).setCell ⟨w.heap.size+2,0,none⟩ (.bool false)) W3.heap.size (.deferred none);refine⟨by simp,.inl ⟨_,_,rfl,run_takeDeferred hdZ,?_⟩⟩;refine⟨_,Acg (r:=w.heap.size+1) (r2:=w.heap.size+2) (x:=.slice none 0 0) (y:=.bool false) Tryz.results178 rfl rfl (AdD (y2.kept hgZ (by simp;omega)).c1'.1) (AdE (y3.kept hgZ (by simp;omega)).c1'.1),?_⟩;exact⟨⟨_,[],false,rfl,HR.out,⟨by simp,.inl ⟨rfl,rfl⟩⟩,λs hs=>by simp at hs⟩,S7 hBZ hgZ (by omega)⟩
end Go.Proofs.YtgecdacgmehmbaaGreatDoor
namespace Go.Proofs.YtgecdacgmehmbaaGreatDoor
open Go.RowKit
theorem AaP (b:Bk) (v:Value) (w:World) (h:BkV w v b) :
  Calls Tryz.prog 58 #[v] w λe w'=>(∃ss ok,e=.returned (.bool ok)/\OrderIs b ss ok)/\Below w.heap.size w w':=by
 obtain⟨a1,c1,a2,c2,rfl,-,-⟩:=h.parts;have hC:CB (w.alloc (.cells #[.slice a1 (b).things.length c1,.slice a2 (b).bs.length c2] 37)) w.heap.size [.slice a1 b.things.length c1,.slice a2 b.bs.length c2]:=E8 w _ _;have hB0:=(A4 w.heap.size w).alloc (A3 _) (.cells #[.slice a1 (b).things.length c1,.slice a2 (b).bs.length c2] 37);go_enter Tryz.func58,Tryz.ntmps58
 go_upto_region 1 with fail
 generalize w.alloc (.cells #[.slice a1 (b).things.length c1,.slice a2 (b).bs.length c2] 37)=W1 at *;have hk:=h.up hB0;obtain⟨e0,e1⟩:=hC.c2';go_wp2_with fail
 refine (Afz b _ _ hk).mono ?_;rintro e w2 ⟨⟨u,ss,ok,rfl,hord,-,-⟩,hb2⟩;clear e0 e1;go_wp2_with fail
 go_ret
 exact⟨⟨ss,ok,rfl,hord⟩,D5 hB0 hb2⟩
def mkL (m:Int) (n:Nat):List ByteArray:=(List.range n).map λ(i:Nat)=>mkB (m+i)
theorem M5 (m:Int) (n:Nat):(mkL m n).length=n:=by simp[mkL]
theorem AaA (m:Int) (n:Nat):Marked (mkL m n) m n:=λi hi=>by simp[mkL,hi]
theorem Ach {ys:List ByteArray} {m:Int} {n:Nat} (hl:ys.length=n) (h:Marked ys m n):ys=mkL m n:=by
 refine List.ext_getElem? λi=>?_;by_cases hi:i<n
 ·rw[h i hi];exact (AaA m n i hi).symm
 ·rw[C6 (by omega),C6 (by rw[M5];omega)]
def mkBa (m:Int) (x:Ba):Ba:=⟨mkB m,mkL (m+1) x.has.length,mkL (m+1+x.has.length) x.needs.length⟩
def szBa (x:Ba):Nat:=1+x.has.length+x.needs.length
def mkBas:Int->List Ba->List Ba
 | _,[]=>[]
 | m,x::r=>mkBa m x::mkBas (m+szBa x) r
def szBas:List Ba->Nat
 | []=>0
 | x::r=>szBa x+szBas r
theorem L7:∀(m:Int) (bs:List Ba),(mkBas m bs).length=bs.length
 | _,[]=>rfl
 | m,x::r=>by simp[mkBas,L7 _ r]
theorem Aci:∀(l:List Ba) (x:Ba),szBas (l++[x])=szBas l+szBa x
 | [],x=>by simp[szBas]
 | y::r,x=>by simp[szBas,Aci r x];omega
theorem Aer:∀(m:Int) (l:List Ba) (x:Ba),mkBas m (l++[x])=mkBas m l++[mkBa (m+szBas l) x]
 | m,[],x=>by simp[mkBas,szBas]
 | m,y::r,x=>by
  simp only[List.cons_append,mkBas,Aer _ r x,szBas];rw[show m+(szBa y:Int)+(szBas r:Int)=m+((szBa y+szBas r:Nat):Int) by omega]
def curB (m:Int) (bs:List Ba) (k:Nat):List Ba:=mkBas m (bs.take k)++bs.drop k
theorem AkK (m:Int) (bs:List Ba):curB m bs 0=bs:=by simp[curB,mkBas]
theorem AlZ (m:Int) (bs:List Ba):curB m bs bs.length=mkBas m bs:=by simp[curB]
theorem Anc (m:Int) (bs:List Ba) (k:Nat) (hk:k<=bs.length):(curB m bs k)[k]?=bs[k]?:=by
 rw[curB,C8 (by rw[L7,B6];omega),List.getElem?_drop,L7,B6];congr 1;omega
theorem AkL (m:Int) (bs:List Ba) (k:Nat) (hk:k<bs.length):curB m bs (k+1)=(curB m bs k).set k (mkBa (m+szBas (bs.take k)) bs[k]):=by
 have hl:(mkBas m (bs.take k)).length=k:=by rw[L7,B6];omega
 rw[curB,curB,A7 hk,Aer,List.set_append_right _ _ (by omega),hl,Nat.sub_self,D4 hk,List.append_assoc];rfl
def mkBk (b:Bk):Bk:=⟨mkL 1 b.things.length,mkBas (1+b.things.length) b.bs⟩
def mkEnd (b:Bk):Int:=1+b.things.length+szBas b.bs
def Lit (b:Bk):Prop:=b.things.length<=100/\b.bs.length<=100/\∀x∈b.bs,x.has.length<=100/\x.needs.length<=100
theorem Aa2:∀(l:List Ba),(∀x∈l,x.has.length<=100/\x.needs.length<=100)->szBas l<=201*l.length
 | [],_=>by simp[szBas]
 | x::r,h=>by
  have h1:=Aa2 r λy hy=>h y (C7 _ hy);have h2:=h x List.mem_cons_self;simp only[szBas,szBa,List.length_cons];omega
end Go.Proofs.YtgecdacgmehmbaaGreatDoor
