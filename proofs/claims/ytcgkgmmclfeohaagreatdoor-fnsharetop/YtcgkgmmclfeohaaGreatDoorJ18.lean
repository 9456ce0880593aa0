/- The program's walks of chapter 12: bits of things. -/
import Derived.Test.YtcgkgmmclfeohaaGreatDoorJ12
import Derived.Test.YtcgkgmmclfeohaaGreatDoorJ3
import Derived.Laws.BitsAllLaws
import Derived.Test.YtcgkgmmclfeohaaGreatDoorShelf
import Derived.Test.YtcgkgmmclfeohaaGreatDoorJ14
import Derived.Laws.AppendOwnNone
import Derived.Test.YtcgkgmmclfeohaaGreatDoorKs2
import Derived.Laws.OwnMore
import Derived.Test.YtcgkgmmclfeohaaGreatDoorJ16
import Derived.Test.YtcgkgmmclfeohaaGreatDoorJ17
set_option maxRecDepth 20000
set_option maxHeartbeats 4000000
namespace Go.Proofs.YtcgkgmmclfeohaaGreatDoor
open Go.Proofs.Tryz
open Go.RowKit
variable{b:Bk}{nm s:BA}{x:Int}{l ss xs:List BA}{base k sb:Nat}{u v:Value}{w':World}
theorem We(ss:List BA)(v:Value)(s:BA)(w:World)(h:Ls w v ss):
  Calls prog 89 #[v,Tz s] w λe w'=>e=.returned (Iz (BK ss s))/\w'=w:=by
 obtain⟨a,c,rfl,hn,-,a0⟩:=h;unfold maxLen at hn;go_in;go_wp2;go_loop [8] (λi=>∃k:Nat,k<=ss.length/\i=.int .i64 k/\D7 (ss.take k) s=false) (λi=>ss.length-(intOf i).toNat)
 case atStart=>exact⟨0,by omega,rfl,rfl⟩
 case round =>
  obtain⟨k,hk,rfl,a1⟩:=hrel;have Hal:Hid (D7 (ss.take k) s=false):=a1;clear a1;by_cases hp:k<ss.length
  ·obtain⟨b,o,rfl,hS,hb⟩:=a0 (by omega);have c0:=hS.cell hp;cases hq:(s.toList==(ss[k]).toList)
   ·have Hq:Hid (((ss[k]).toList==s.toList)=false):=by show _=_;rw[Jk];exact hq
    go_wp2;go_round
    case rel=>exact⟨k+1,by omega,by go_num,FU hp Hal.out Hq.out⟩
    case measure=>simp[intOf];omega
   ·have Hq:Hid (((ss[k]).toList==s.toList)=true):=by show _=_;rw[Jk];exact hq
    go_wp2;go_ret;exact⟨GC (Gu hp Hal.out Hq.out).symm,rfl⟩
  ·go_wp2;go_ret;exact⟨GC (Cd (GN hp Hal.out)).symm,rfl⟩
theorem Gn(ss:List BA)(v:Value)(s:BA)(w:World)(h:Ls w v ss):
  Calls prog 72 #[v,Tz s] w λe w'=>e=.returned (.bool (D7 ss s))/\w'=w:=by
 obtain⟨a,c,rfl,-⟩:=id h;go_in;go_wp2_with (go_at_call 89;refine Swz (We ss _ _ _ h) ?_)
 all_goals
  go_ret;refine⟨J5 ?_,rfl⟩;rw[← Mf];try simp_all
theorem EW(h0:0<=x)(h1:x<18446744073709551616):IntKind.u64.wrap x=x:=by
 rw[IntKind.wrap_u64];omega
theorem AcN(_:k<=7):(2:Int) ^ k=((2 ^ k:Nat):Int):=by simp
theorem Wf(h:k<=7):2 ^ k<=128:=Nat.pow_le_pow_right (n:=2) (by omega) h
theorem Aa3{n:Nat}(hn:n<256)(hk:k<=7):IntKind.u64.wrap ((n:Int)+IntKind.u64.wrap (2 ^ k))=((n+2 ^ k:Nat):Int):=by
 have h:=Wf hk;rw[AcN hk];generalize 2 ^ k=m at *;rw[EW (x:=(m:Int)) (by omega) (by omega),EW (by omega) (by omega)];omega
theorem Wh{P:BA->Bool}(hk:k<l.length):G4 (l.take (k+1)) P=G4 (l.take k) P+(if P l[k]=true then 2 ^ k else 0):=by
 rw[A7 hk,MM,B8,Nat.min_eq_left (by omega)]
theorem Ju(tg picked:List BA)(u v:Value)(w:World)(h:Ls w u tg)(h2:Ls w v picked)(h8:tg.length<=8):
  Calls prog 58 #[u,v] w λe w'=>e=.returned (.int .u64 (G4 tg (D7 picked):Nat))/\w'=w:=by
 obtain⟨a,c,rfl,-,-,a0⟩:=h;obtain⟨a2,c2,rfl,-⟩:=id h2;go_in;go_wp2;go_loop [5,6,7,10] (λx _ _ i=>∃k:Nat,k<=tg.length/\i=.int .i64 k/\x=.int .u64 (G4 (tg.take k) (D7 picked):Nat)) (λ_ _ _ i=>tg.length-(intOf i).toNat)
 case atStart=>exact⟨0,by omega,rfl,rfl⟩
 case round =>
  obtain⟨k,hk,rfl,rfl⟩:=hrel;by_cases hp:k<tg.length
  ·obtain⟨b,o,rfl,hS,hb⟩:=a0 (by omega);have c0:=hS.cell hp;have Hb:=Wh (P:=D7 picked) hp;have a1:G4 (tg.take k) (D7 picked)<256:=U6 (by rw[B8];omega) _;cases hq:D7 picked tg[k]
   ·have HB:Hid (G4 (tg.take (k+1)) (D7 picked)=G4 (tg.take k) (D7 picked)):=by show _=_;rw[Hb,hq];simp
    clear Hb;go_wp2_with (go_at_call 72;refine Swz (Gn picked _ _ _ h2) ?_)
    go_round
    case rel=>exact⟨k+1,by omega,by go_num,by rw[HB.out]⟩
    case measure=>simp[intOf];omega
   ·have HB:Hid (G4 (tg.take (k+1)) (D7 picked)=G4 (tg.take k) (D7 picked)+2 ^ k):=by show _=_;rw[Hb,if_pos hq]
    clear Hb;go_wp2_with (go_at_call 72;refine Swz (Gn picked _ _ _ h2) ?_)
    go_round
    case rel =>
     refine⟨k+1,by omega,by go_num,?_⟩;rw[HB.out,Aa3 a1 (by omega)]
    case measure=>simp[intOf];omega
  ·have HB:Hid (G4 (tg.take k) (D7 picked)=G4 tg (D7 picked)):=by show _=_;rw[D1 (by omega)]
   go_wp2;go_ret;exact⟨congrArg (λn:Nat=>Ending.returned (.int .u64 (n:Int))) HB.out,rfl⟩
end Go.Proofs.YtcgkgmmclfeohaaGreatDoor
namespace Go.Proofs.YtcgkgmmclfeohaaGreatDoor
open Go.Proofs.Tryz
open Go.RowKit Go.Shelf
variable{b:Bk}{nm s:BA}{x:Int}{l ss xs:List BA}{base k sb:Nat}{u v:Value}{w':World}
theorem Ym(n:Nat)(w:World)(h1:1<=n)(h2:n<=1000):
  Calls prog 122 #[Nz,Iz (n:Int)] w
   λe w'=>(∃u,e=.returned u/\G3 w' w.heap.size u [])/\Up w w':=by
 obtain⟨ii,hi,a0,a3,a1⟩:=info_parts Bg;have h:=Any8.slices_Grow_grow Tryz.growS ii (Ez) hi a0 (by omega) none 0 0 n [] w (A3 _) (by omega) (by rw[a1];omega) (by omega) (by simp) (λ_=>rfl) (λa ha=>by cases ha);refine Calls.mono h ?_;rintro e w' ⟨rfl,rfl⟩;have a4:=grownCap_ge w (0+n) 0 9;have a2:=grownCap_le_maxLen w (0+n) 0 9 (by unfold maxLen;omega);refine⟨⟨_,rfl,rfl,.inr ⟨_,_,_,rfl,A3 _,heap_alloc_new _ _,Nat.zero_le _,a2,?_,by simp⟩⟩,(A4 _ _).drew.alloc (by simp) _⟩;have hz:(Value.string ⟨#[]⟩).cells.size=1:=rfl;rw[Array.size_append,Array.size_append,size_zeroCells,size_zeroCells,hz];simp only[List.size_toArray,List.length_nil];show 0+(0+n-0)*1+(grownCap w (0+n) 0 9-(0+n))*1=grownCap w (0+n) 0 9*1
 omega
theorem Yn(w:World):Calls prog 122 #[Nz,Iz 0] w λe w'=>(∃u,e=.returned u/\G3 w' w.heap.size u [])/\Up w w':=by
 go_in;go_wp2;go_ret;exact⟨⟨_,rfl,B9 _ _ _ _⟩,A4 _ _⟩
theorem Yo(n:Nat)(w:World)(h2:n<=1000):Calls prog 122 #[Nz,Iz (n:Int)] w λe w'=>(∃u,e=.returned u/\G3 w' w.heap.size u [])/\Up w w':=by
 rcases C4 n with h|h
 ·subst h;exact Yn w
 ·exact Ym n w h h2
theorem AeH{w:World}(ho:G3 w base u xs)(h:Ls w v ss)(hn:xs.length+ss.length<=1000)(hb:base<=w.heap.size):
  ∃u' w',(Builtin.append_ #[23,23] 23 #[u,v]).run prog w=.ok u' w'/\G3 w' base u' (xs++ss)/\w.grownBy w' u.ownBlock:=by
 obtain⟨ii,hi,a3,a4,a5⟩:=info_parts Bg;obtain⟨a,c,rfl,-,-,a1⟩:=h;rcases C4 ss.length with h0|h0
 ·obtain rfl:=C5.1 h0;exact⟨u,w,Dr base 23 23 9 ii 1 underlying23 hi _ _ _ ho a c,by simpa using ho,F4 _ _⟩
 ·obtain⟨g,o,rfl,hS,hg⟩:=a1 h0;obtain⟨v1,w1,hr,a0,a2,-⟩:=run_append_own (P:=prog) w base 23 23 9 ii _ 1 16 underlying23 hi a3 a4 a5 rfl (by decide) u xs.length (xs.map Value.string) ho ⟨g,o,none⟩ ss.length c (ss.map Value.string) (by simp) (CD hS) (Mc ss) (by unfold maxLen;omega) (by omega) hb;refine⟨v1,w1,hr,?_,a2⟩;unfold G3;rw[A9,List.map_append];exact a0
def AQ(L:List (Value×List BA))(k:Nat):List BA:=((L.take k).map (·.2)).flatten
theorem Im(L:List (Value×List BA))(k:Nat)(hk:k<L.length):AQ L (k+1)=AQ L k++(L[k]).2:=by
 rw[AQ,AQ,A7 hk,List.map_append,List.flatten_append];simp
theorem UD(L:List (Value×List BA)):∀(d k:Nat),k+d<=L.length->(AQ L k).length<=(AQ L (k+d)).length
 | 0,_,_=>A3 _
 | d+1,k,h=>by
  have h1:=UD L d k (by omega);have h2:=Im L (k+d) (by omega);rw[← Nat.add_assoc,h2,A9];omega
def GZ(w:World)(sb:Nat)(L:List (Value×List BA)):Prop:=∀(i:Nat)(f:Value×List BA),L[i]?=some f->w.cell? ⟨sb,i,none⟩=some f.1/\Ls w f.1 f.2
theorem GZ.up{w:World}{L:List (Value×List BA)}(h:GZ w sb L)(hb:Up w w')(hs:sb<w.heap.size):GZ w' sb L:=λi f hf=>⟨(hb.cell (p:=⟨sb,i,none⟩) hs).trans (h i f hf).1,(h i f hf).2.up hb⟩
theorem TL(L:List (Value×List BA))(sb:Nat)(w:World)(h:GZ w sb L)(hsb:sb<w.heap.size)(hL:L.length<=10)(hn:(AQ L L.length).length<=900):
  Calls prog 113 #[Sz sb L.length L.length] w
   λe w'=>(∃u,e=.returned u/\G3 w' w.heap.size u (AQ L L.length))/\Up w w':=by
 have Hle:Hid (∀k,k<=L.length->(AQ L k).length<=900):=λk hk=>by
  have:=UD L (L.length-k) k (by omega);rw[show k+(L.length-k)=L.length by omega] at this;omega
 go_in;go_wp2_with fail;go_loop [3,11] (λz i=>∃k:Nat,k<=L.length/\i=.int .i64 (k:Int)/\z=.int .i64 ((AQ L k).length:Int)) (λ_ i=>L.length-(intOf i).toNat)
 case atStart=>exact⟨0,by omega,rfl,by simp[AQ]⟩
 case round =>
  obtain⟨k,hk,rfl,rfl⟩:=hrel;have a5:=Hle.out k hk;by_cases hp:k<L.length
  ·obtain⟨c0,l0⟩:=h k _ (A0 hp);have a0:=Hle.out (k+1) hp;have HS:Hid ((AQ L (k+1)).length=(AQ L k).length+(L[k]).2.length):=by show _=_;rw[Im L k hp,A9]
   rw[HS.out] at a0;generalize L[k]=f0 at *;obtain⟨fv,fs⟩:=f0;simp only at c0 l0 a0 HS;obtain⟨fa,fc,a1,-⟩:=id l0;subst a1;clear l0;generalize hcl:(AQ L k).length=n0 at *;go_wp2_with fail;go_round
   case rel=>exact⟨k+1,by omega,by go_num,by rw[HS.out];go_num⟩
   case measure=>simp[intOf];omega
  ·obtain rfl:k=L.length:=by omega
   go_wp2_with fail;refine (Yo (AQ L L.length).length w (by omega)).mono ?_;rintro e w1 ⟨⟨u,rfl,ho⟩,a4⟩;have HC:Hid (GZ w sb L):=h;clear h hn a5;obtain⟨ua,uc,hu⟩:=L9 ho;subst hu;go_wp2_with fail;(try dsimp only[Iz,Sz,Sy,Nz,Vz,Tz,Ez,Pz]);go_loopw [6,27] (λu i w'=>∃(k:Nat),k<=L.length/\i=.int .i64 (k:Int)/\G3 w' w.heap.size u (AQ L k)/\Up w w') (λ_ i _=>L.length-(intOf i).toNat)
   case atStart=>exact⟨0,by omega,rfl,by simpa [AQ] using ho,a4⟩
   case round =>
    clear ho a4;obtain⟨k,hk,rfl,ho,hB⟩:=hrel;by_cases hp:k<L.length
    ·obtain⟨c0,l0⟩:=(HC.out.up hB hsb) k _ (A0 hp);have a0:=Hle.out (k+1) hp;rw[Im L k hp,A9] at a0;obtain⟨u',w',hr,a2,a3⟩:=AeH ho l0 (by omega) hB.size;have a6:=O6 hB ho a3 (A3 _);rw[← Im L k hp] at a2;generalize L[k]=f0 at *;obtain⟨fv,fs⟩:=f0;simp only at c0 l0 hr;obtain⟨fa,fc,a1,-⟩:=id l0;subst a1;clear a0 ho a3 l0;go_wp2_with (at_builtin;refine BJ _ rfl _ _ _ _ rfl _ _ _ _ rfl rfl hr ?_)
     go_roundw
     case rel=>exact⟨k+1,by omega,by go_num,a2,a6⟩
     case measure=>simp[intOf];omega
    ·obtain rfl:k=L.length:=by omega
     go_wp2_with fail;go_ret;exact⟨⟨_,rfl,ho⟩,hB⟩
end Go.Proofs.YtcgkgmmclfeohaaGreatDoor
namespace Go.Proofs.YtcgkgmmclfeohaaGreatDoor
open Go.Proofs.Tryz
open Go.RowKit
variable{b:Bk}{nm s:BA}{x:Int}{l ss xs:List BA}{base k sb:Nat}{u v:Value}{w':World}
theorem Aa4{L:List (Value×List BA)}(h:s∈AQ L L.length):∃i,∃hi:i<L.length,s∈(L[i]).2:=by
 rw[AQ,List.take_length,List.mem_flatten] at h;obtain⟨l,hl,hs⟩:=h;obtain⟨f,hf,rfl⟩:=List.mem_map.1 hl;obtain⟨i,hi,rfl⟩:=B7 hf;exact⟨i,hi,hs⟩
theorem Yp{w:World}{L:List (Value×List BA)}(h:GZ w sb L):∀s∈AQ L L.length,s.size<=maxLen:=λs hs=>by
 obtain⟨i,hi,hm⟩:=Aa4 hs;obtain⟨_,_,_,_,hz,_⟩:=(h i _ (A0 hi)).2;exact hz s hm
theorem Py{f:BA->Bool}(hk:k<ss.length):(ss.take (k+1)).filter f=(ss.take k).filter f++(if f ss[k]=true then [ss[k]] else []):=by
 rw[A7 hk,List.filter_append];congr 1
 by_cases h:f ss[k]=true
 ·simp[h]
 ·simp[h]
theorem Mp(ss:List BA)(f:BA->Bool)(k:Nat):((ss.take k).filter f).length<=k:=by
 have h1:=List.length_filter_le f (ss.take k);rw[B8] at h1;omega
theorem PA(ss:List BA)(v:Value)(L:List (Value×List BA))(sb:Nat)(w:World)(h:Ls w v ss)(hs:ss.length<=100)(hc:GZ w sb L)(hsb:sb<w.heap.size)(hL:L.length<=10)(hn:(AQ L L.length).length<=900):
  Calls prog 82 #[v,Sz sb L.length L.length] w λe w'=>(∃u,e=.returned u/\G3 w' w.heap.size u (ss.filter (D7 (AQ L L.length))))/\Up w w':=by
 obtain⟨ii,hi,a7,a8,a9⟩:=info_parts Bg;have Hz:=Yp hc;obtain⟨a,c,rfl,-,-,a1⟩:=h;go_in;go_wp2_with fail;refine (TL L sb w hc hsb hL hn).mono ?_;rintro e w1 ⟨⟨u,rfl,ho⟩,a3⟩;have HL:Hid (∀W,Up w1 W->Ls W u (AQ L L.length)):=λW hW=>(ho.lst.ls Hz).up hW;obtain⟨ua,uc,hu⟩:=L9 ho;subst hu;clear ho Hz hc hn;generalize hcat:AQ L L.length=cat at *;have Hcat:Hid (AQ L L.length=cat):=hcat;clear hcat
 have a2:Hid (0<ss.length->∃b o,a=some ⟨b,o,none⟩/\N3 w1 b o ss/\b<w1.heap.size):=λhp=>by
  obtain⟨g,o,e,hS,hg⟩:=a1 hp;exact⟨g,o,e,hS.up a3 hg,A1 hg a3.size⟩
 clear a1;go_wp2_with fail;(try dsimp only[Iz,Sz,Sy,Nz,Vz,Tz,Ez,Pz]);go_loopw [6,13] (λx i w'=>∃k:Nat,k<=ss.length/\i=.int .i64 (k:Int)/\G3 w' w1.heap.size x ((ss.take k).filter (D7 cat))/\Up w1 w') (λ_ i _=>ss.length-(intOf i).toNat)
 case atStart=>exact⟨0,by omega,rfl,B9 _ _ _ _,A4 _ _⟩
 case round =>
  obtain⟨k,hk,rfl,hx,hB⟩:=hrel;by_cases hp:k<ss.length
  ·obtain⟨g,o,rfl,hS,hg⟩:=a2.out (by omega);have c0:=(hS.up hB hg).cell hp;have HF:=Py (f:=D7 cat) hp;have Hl:=Mp ss (D7 cat) k;have HC:=HL.out wr hB;generalize ss[k]=s0 at *;go_wp2_with fail;refine (Gn cat _ s0 _ HC).mono ?_;rintro e w2 ⟨rfl,b4⟩;obtain rfl:=b4.symm;clear c0;cases hq:D7 cat s0
   ·rw[hq,if_neg (by simp),List.append_nil] at HF;have HX:Hid (G3 wr w1.heap.size u6 ((ss.take (k+1)).filter (D7 cat))):=by show _;rw[HF];exact hx
    clear hx HF;go_wp2_with fail;go_roundw
    case rel=>exact⟨k+1,by omega,by go_num,HX.out,hB⟩
    case measure=>simp[intOf];omega
   ·rw[hq,if_pos rfl] at HF;have HF':Hid ((ss.take (k+1)).filter (D7 cat)=(ss.take k).filter (D7 cat)++[s0]):=HF;clear HF;generalize (ss.take k).filter (D7 cat)=xs at *;have a0:=World.ownsRow.alloc hx (Kz [Tz s0] 9);have a5:=hB.alloc hB.size (Kz [Tz s0] 9);have b5:=hB.size;obtain⟨xa,xc,a4⟩:=L9 hx;subst a4;clear hx;go_wp2_with (at_builtin;refine wpList_append_own _ rfl _ _ 23 rfl w1.heap.size 9 ii _ 1 16 underlying23 hi a7 a8 a9 rfl (by decide) _ _ _ rfl a0 ⟨wr.heap.size,0,none⟩ 1 1 [Tz s0] rfl rfl (BZ _ _ _) (Gk s0) (by unfold maxLen;omega) (by omega) (by simp;omega) ?_)
    intro v' w2 hown2 hgr2 _;have b1:=O6 a5 a0 hgr2 (A3 _);have a6:G3 w2 w1.heap.size v' (xs++[s0]):=by unfold G3;simpa using hown2
    obtain⟨ya,yc,b0⟩:=L9 a6;subst b0;clear a0 hgr2 hown2 a5;go_wp2_with fail;go_roundw
    case rel=>exact⟨k+1,by omega,by go_num,by rw[HF'.out];exact a6,b1⟩
    case measure=>simp[intOf];omega
  ·obtain rfl:k=ss.length:=by omega
   rw[List.take_length] at hx;have b2:=D4 a3 hB;have b3:=a3.size;obtain⟨xa,xc,a4⟩:=L9 hx;subst a4;go_wp2_with fail;go_ret;have e:=Hcat.out;subst e;exact⟨⟨_,rfl,N1 hx b3⟩,b2⟩
theorem Dj(ss:List BA)(v:Value)(w:World)(h:Ls w v ss)(hn:ss.length<=1048576):
  Calls prog 30 #[v] w λe w'=>(∃u,e=.returned u/\G3 w' w.heap.size u ss/\NN u)/\Up w w':=by
 obtain⟨a,c,rfl,-,-,a0⟩:=h;obtain⟨ii,hi,a3,a4,a5⟩:=info_parts Bg;have ho:=EG w;have hb:=(A4 w.heap.size w).alloc (A3 _) (Kz [] 9);rcases C4 ss.length with h0|h0
 ·obtain rfl:=C5.1 h0;simp only[List.length_nil];go_in;go_wp2_with (at_builtin;refine Km _ rfl _ _ 23 rfl w.heap.size 9 ii 1 underlying23 hi _ 0 [] rfl ho a c rfl ?_)
  go_ret;exact⟨⟨_,rfl,ho,_,_,_,rfl⟩,hb⟩
 ·obtain⟨g,o,rfl,hS,hg⟩:=a0 h0;have a1:=CD (hS.alloc (Kz [] 9));go_in;go_wp2_with (at_builtin;refine wpList_append_own _ rfl _ _ 23 rfl w.heap.size 9 ii _ 1 16 underlying23 hi a3 a4 a5 rfl (by decide) _ 0 [] rfl ho ⟨g,o,none⟩ ss.length c (ss.map Value.string) rfl (by simp) a1 (Mc ss) (by unfold maxLen;omega) (by omega) hb.size ?_)
  intro v1 w1 hown1 hgr1 _;have a6:=O6 hb ho hgr1 (A3 _);have a2:G3 w1 w.heap.size v1 ss:=by unfold G3;simpa using hown1
  obtain⟨g1,k1,rfl⟩:=U5 a2 h0;clear hown1 hgr1 ho hb a1;go_wp2_with fail;go_ret;exact⟨⟨_,rfl,a2,_,_,_,rfl⟩,a6⟩
theorem Wi(b:Bk)(v gv:Value)(gone:List BA)(w:World)(h:K6 w v b)(hg:Ls w gv gone):
  Calls prog 66 #[v,gv] w λe w'=>(∃n:Int,e=.returned (Iz n)/\Ag b.bs gone n)/\Up w w':=by
 obtain⟨a1,c1,a2,c2,rfl,h1,h2⟩:=h.parts;obtain⟨ag,cg,rfl,-⟩:=id hg;have hC:CB (w.alloc (Kz [Vz a1 (b).tg.length c1,Vz a2 (b).bs.length c2] 26)) w.heap.size [Vz a1 b.tg.length c1,Vz a2 b.bs.length c2]:=O7 w _ _;have a0:=(A4 w.heap.size w).alloc (A3 _) (Kz [Vz a1 (b).tg.length c1,Vz a2 (b).bs.length c2] 26);have g2:=h2.at.1;unfold maxLen at g2;go_in;go_upto_region 1 with fail;generalize w.alloc (Kz [Vz a1 (b).tg.length c1,Vz a2 (b).bs.length c2] 26)=W1 at *;have l2:=h2.up a0;have hk:=h.up a0;have lg:=hg.up a0;clear h h1 h2 hg;obtain⟨e0,e1⟩:=hC.c2';have a7:=hC.2.2;obtain⟨-,a5⟩:=l2.at;have hB:Up W1 W1:=A4 _ _;go_wp2_with fail;(try dsimp only[Iz,Sz,Sy,Nz,Vz,Tz,Ez,Pz]);go_loopw [5] (λi w'=>∃k:Nat,k<=b.bs.length/\i=.int .i64 k/\(∀j,j<k->¬Good b.bs gone j)/\Up W1 w') (λi _=>b.bs.length-(intOf i).toNat)
 case atStart=>exact⟨0,by omega,rfl,λj hj=>by omega,hB⟩
 case round =>
  clear hB;obtain⟨k,b0,rfl,a6,hB⟩:=hrel;have Hal:Hid (∀j,j<k->¬Good b.bs gone j):=a6;clear a6;have f0:=(hB.cell (p:=⟨w.heap.size,0,none⟩) a7).trans e0;have f1:=(hB.cell (p:=⟨w.heap.size,1,none⟩) a7).trans e1;by_cases hp:k<b.bs.length
  ·obtain⟨bb,o,rfl,hS,hb⟩:=a5 (by omega);obtain⟨a3,d3,a4,d4,c3,c4,c5,-,-,-⟩:=((hS.at hp).up hB hb).cells;have HI:Hid (Good b.bs gone k↔D7 gone (b.bs[k]).nm=false/\ES b.bs k gone):=Aah hp;generalize b.bs[k]=x0 at *;clear hS;go_wp2_with fail;refine Swz (Ch gone _ x0.nm _ (lg.up hB)) ?_;cases hm:D7 gone x0.nm
   case true =>
    have Hs:Hid (∀j,j<k+1->¬Good b.bs gone j):=FI Hal.out λh=>by rw[(HI.out.1 h).1] at hm;cases hm
    clear HI;go_wp2_with fail;go_roundw
    case rel=>exact⟨k+1,by omega,by go_num,Hs.out,hB⟩
    case measure=>simp[intOf];omega
   go_wp2_with fail;refine (Yj b _ _ k gone _ (hk.up hB) (lg.up hB) hp).mono ?_;rintro e w2 ⟨rfl,a9⟩;have a8:=D4 hB a9;clear f0 f1 hB a9 c3 c4 c5;cases hcn:pB (ES b.bs k gone)
   ·have Hs:Hid (∀j,j<k+1->¬Good b.bs gone j):=FI Hal.out λh=>Cc.1 hcn (HI.out.1 h).2;clear HI;go_wp2_with fail;go_roundw
    case rel=>exact⟨k+1,by omega,by go_num,Hs.out,a8⟩
    case measure=>simp[intOf];omega
   ·have Hs:Hid (Ag b.bs gone (k:Int)):=.inr ⟨k,rfl,hp,HI.out.2 ⟨hm,U9.1 hcn⟩,Hal.out⟩;clear HI;go_wp2_with fail;go_ret;exact⟨⟨_,rfl,Hs.out⟩,D4 a0 a8⟩
  ·have Hs:Hid (Ag b.bs gone (-1)):=.inl ⟨rfl,λj hj=>Hal.out j (by omega)⟩;go_wp2_with fail;go_ret;exact⟨⟨_,rfl,Hs.out⟩,D4 a0 hB⟩
def AeI:Value->Nat
 | .slice _ n _=>n
 | _=>0
theorem Qo(b:Bk)(v:Value)(w:World)(h:K6 w v b):
  Calls prog 53 #[v] w λe w'=>(∃u ss ok,e=.returned (.tuple #[u,.bool ok])/\Y3 b ss ok/\G3 w' w.heap.size u ss/\∀s∈ss,s.size<=maxLen)/\Up w w':=by
 obtain⟨a1,c1,a2,c2,rfl,h1,h2⟩:=h.parts;obtain⟨W1,c7,kA,b0,d1⟩:=cbE1 w [Vz a1 (b).tg.length c1,Vz a2 (b).bs.length c2] 26;have e3:=b0.size;clear d1;obtain⟨ii,hi,d2,d5,d6⟩:=info_parts Bg;go_in;go_upto_region 1 with fail;try rw[c7]
 clear c7;have hk:=h.up b0;have l2:=h2.up b0;obtain⟨e0,e1⟩:=kA.c2';have b1:=kA.2.2;obtain⟨-,b4⟩:=l2.at;clear h h1 h2;have c8:=EG W1;have b2:=(A4 W1.heap.size W1).alloc (A3 _) (Kz [] 9);go_upto_region 2 with fail;generalize W1.alloc (Kz [] 9)=W2 at *;have f0:=(b2.cell (p:=⟨w.heap.size,0,none⟩) b1).trans e0;have f1:=(b2.cell (p:=⟨w.heap.size,1,none⟩) b1).trans e1;go_wp2_with fail;refine (DF b _ _ (hk.up b2)).mono ?_;rintro e w3 ⟨rfl,c4⟩;have b7:=D4 b2 c4;have b8:=c8.up c4;clear f0 f1 c4 c8 b2;cases hq:J6 b
 ·have Hq:Hid (Y3 b [] false):=.inr ⟨rfl,rfl,.inl (Cc.1 hq)⟩;go_wp2_with fail;go_returns
  exact⟨⟨_,[],false,rfl,Hq.out,N1 b8 (by omega),λs hs=>by simp at hs⟩,D4 b0 b7⟩
 have Hok:Hid (I8 b):=U9.1 hq;have h5:b.bs.length<=5:=Hok.out.2.1;clear hq;go_wp2_with fail;(try dsimp only[Iz,Sz,Sy,Nz,Vz,Tz,Ez,Pz]);go_loopw [4,5] (λu _ w'=>∃(n:Nat)(a0:List BA),n<=b.bs.length/\AD b.bs n a0/\G3 w' W1.heap.size u a0/\(∀s∈a0,s.size<=maxLen)/\Up W1 w') (λu _ _=>b.bs.length-AeI u)
 case atStart=>exact⟨0,[],by omega,.none,b8,λs hs=>by simp at hs,b7⟩
 case round =>
  clear b7 b8;obtain⟨n,a0,d7,b5,a6,b6,hB⟩:=hrel;have Hgo:Hid (AD b.bs n a0):=b5;have Hlen:Hid (a0.length=n):=b5.length;have c9:=a6.lst.ls b6;obtain⟨ag,cg,rfl⟩:=a6.lst.shape;have Hsz:Hid (∀s∈a0,s.size<=maxLen):=b6;clear b5 b6;have e4:a0.length<=b.bs.length:=by rw[Hlen.out];exact d7
  have f0:=(hB.cell (p:=⟨w.heap.size,0,none⟩) b1).trans e0;have f1:=(hB.cell (p:=⟨w.heap.size,1,none⟩) b1).trans e1;by_cases hp:a0.length<b.bs.length
  ·go_wp2_with fail;refine (Wi b _ _ a0 _ (hk.up hB) c9).mono ?_;rintro e w4 ⟨⟨nx,rfl,d0⟩,c6⟩;have a9:=D4 hB c6;have a8:=a6.up c6;have Hnx:Hid (Ag b.bs a0 nx):=d0;clear f0 f1 hB c6 a6 c9;rcases d0 with⟨rfl,-⟩|⟨k,rfl,hkl,-,-⟩
   ·have Hs:Hid (Y3 b [] false):=.inr ⟨rfl,rfl,.inr ⟨n,a0,by have:=Hlen.out;omega,Hgo.out,Hnx.out⟩⟩;have b3:=EG w4;have d8:=(A4 w4.heap.size w4).alloc (A3 _) (Kz [] 9);have e5:=a9.size;go_wp2_with fail;go_returns
    exact⟨⟨_,[],false,rfl,Hs.out,N1 b3 (by omega),λs hs=>by simp at hs⟩,D4 b0 (D4 a9 d8)⟩
   ·obtain⟨bb,o,rfl,hS,hb⟩:=b4 (by omega);have f1:=(a9.cell (p:=⟨w.heap.size,1,none⟩) b1).trans e1;obtain⟨a3,d3,a4,d4,c3,-,-,-,-,z0⟩:=((hS.at hkl).up a9 hb).cells;have Hs:Hid (AD b.bs (n+1) (a0++[(b.bs[k]).nm])):=.more Hgo.out Hnx.out (A0 hkl);generalize b.bs[k]=x0 at *;have e6:decide ((k:Int)<0)=false:=by simp
    have a7:=P0 a8 ((A4 w4.heap.size w4).alloc (A3 _) (Kz [Tz x0.nm] 9));have b9:=a9.alloc a9.size (Kz [Tz x0.nm] 9);clear hS;go_wp2_with (at_builtin;refine wpList_append_own _ rfl _ _ 23 rfl W1.heap.size 9 ii _ 1 16 underlying23 hi d2 d5 d6 rfl (by decide) _ _ _ rfl a7 ⟨w4.heap.size,0,none⟩ 1 1 [Tz x0.nm] rfl rfl (BZ _ _ _) (Gk _) (by unfold maxLen;omega) (by omega) b9.size ?_)
    intro v1 w5 hown5 hgr5 _;have d9:=O6 b9 a7 hgr5 (A3 _);have b3:G3 w5 W1.heap.size v1 (a0++[x0.nm]):=by unfold G3;rw[A9,List.map_append];exact hown5
    have e2:∃a c,v1=Vz a (a0.length+1) c:=by
     have:=b3.lst.shape;simpa using this
    obtain⟨a5,c5,rfl⟩:=e2;clear a7 b9 hown5 hgr5 a8 a9 f1 c3;go_wp2_with fail;go_roundw
    case rel =>
     refine⟨n+1,_,by have:=Hlen.out;omega,Hs.out,b3,λs hs=>?_,d9⟩;rcases C9.1 hs with h|h
     ·exact Hsz.out s h
     ·obtain rfl:s=x0.nm:=by simpa using h
      exact z0
    case measure=>simp[AeI];omega
  ·have Hs:Hid (Y3 b a0 true):=.inl ⟨rfl,Hok.out,by
    have e:b.bs.length=n:=by have:=Hlen.out;omega
    rw[e];exact Hgo.out⟩
   go_wp2_with fail;go_returns
   exact⟨⟨_,a0,true,rfl,Hs.out,N1 a6 (by omega),Hsz.out⟩,D4 b0 hB⟩
theorem KB(b:Bk)(v:Value)(w:World)(h:K6 w v b):
  Calls prog 33 #[v] w λe w'=>(∃ss ok,e=.returned (.bool ok)/\Y3 b ss ok)/\Up w w':=by
 obtain⟨a1,c1,a2,c2,rfl,-,-⟩:=h.parts;have hC:CB (w.alloc (Kz [Vz a1 (b).tg.length c1,Vz a2 (b).bs.length c2] 26)) w.heap.size [Vz a1 b.tg.length c1,Vz a2 b.bs.length c2]:=O7 w _ _;have a3:=(A4 w.heap.size w).alloc (A3 _) (Kz [Vz a1 (b).tg.length c1,Vz a2 (b).bs.length c2] 26);go_in;go_upto_region 1 with fail;generalize w.alloc (Kz [Vz a1 (b).tg.length c1,Vz a2 (b).bs.length c2] 26)=W1 at *;have hk:=h.up a3;obtain⟨e0,e1⟩:=hC.c2';go_wp2_with fail;refine (Qo b _ _ hk).mono ?_;rintro e w2 ⟨⟨u,ss,ok,rfl,a0,-,-⟩,a4⟩;clear e0 e1;go_wp2_with fail;go_ret;exact⟨⟨ss,ok,rfl,a0⟩,D4 a3 a4⟩
theorem K8.w{w:World}(h:K8 w base v b):N4 w base v b:=by
 obtain⟨a1,c1,a2,c2,ps,rfl,h1,h2,h3⟩:=h;exact⟨_,_,ps,rfl,h3.own _ List.mem_cons_self,h1,h2⟩
theorem K8.bk{w:World}(h:K8 w base v b)(hz:Ah b):K6 w v b:=h.w.bk hz
theorem PB(h:Ah b):Ah (S5 b nm):=by
 cases hb:J6 b
 ·rw[(GT hb).2];exact DA
 ·cases hm:D7 (I3 b.bs) nm
  ·rw[(DV hb hm).2];exact h
  ·rw[(DB hb hm).2];refine⟨h.1,λx hx=>h.2 x ?_⟩;rcases C9.1 hx with k|k
   ·exact List.mem_of_mem_take k
   ·exact List.mem_of_mem_drop k
end Go.Proofs.YtcgkgmmclfeohaaGreatDoor
