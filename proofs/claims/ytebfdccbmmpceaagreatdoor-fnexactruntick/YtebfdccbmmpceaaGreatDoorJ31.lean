/- Where a list is of what somebody needs. -/
import Derived.Test.YtebfdccbmmpceaaGreatDoorJ7
import Derived.Test.YtebfdccbmmpceaaGreatDoorShelf
import Derived.Test.YtebfdccbmmpceaaGreatDoorJ4
import Derived.Test.YtebfdccbmmpceaaGreatDoorJ19
import Derived.Laws.AppendOwnNone
import Derived.Test.YtebfdccbmmpceaaGreatDoorJ8
import Derived.Test.YtebfdccbmmpceaaGreatDoorJ10
import Derived.Test.YtebfdccbmmpceaaGreatDoorJ29
set_option maxRecDepth 20000
set_option maxHeartbeats 8000000
namespace Go.Proofs.YtebfdccbmmpceaaGreatDoor
open Go.RowKit
theorem AbU {b:Bk} {nm:ByteArray} {ls:List ByteArray} (h:ofC b nm ls=0):memS (nms b.bs) nm=true:=by
 cases hm:memS (nms b.bs) nm
 ·rw[Adx hm] at h;omega
 ·rfl
theorem Ad1 {b:Bk} {nm:ByteArray} {ls:List ByteArray} (h:ofC b nm ls=0):PartOk ls (needsAt b nm):=by
 have hm:=AbU h;cases hp:pB (PartOk ls (needsAt b nm))
 ·rw[Aex hm hp] at h;omega
 ·exact F8.1 hp
theorem AcA {b:Bk} {nm:ByteArray} {ls:List ByteArray} (hok:BookOk b) (h:ofC b nm ls=0):ls.length<=8:=by
 obtain⟨-,hpl⟩:=T8 (AbU h);have hp:=Ad1 h;rw[V7 (A0 hpl)] at hp;have h1:=N8 hp;have h2:=((O0 hok).2.2 b.bs[plN b nm] (by simp)).2;omega
end Go.Proofs.YtebfdccbmmpceaaGreatDoor
namespace Go.Proofs.YtebfdccbmmpceaaGreatDoor
open Go.RowKit Go.Shelf
theorem Al7 (n:Nat) (w:World) (h1:1<=n) (h2:n<=1000) :
  Calls Tryz.prog 211 #[.slice none 0 0,.int .i64 (n:Int)] w
   λe w'=>(∃u,e=.returned u/\OwnT w' w.heap.size u [])/\Below w.heap.size w w':=by
 obtain⟨ii,hi,iz0,iz1,iz2⟩:=info_parts M1;have h:=Any8.slices_Grow_grow Tryz.growS ii (.string ⟨#[]⟩) hi iz0 (by omega) none 0 0 n [] w (A3 _) (by omega) (by rw[iz2];omega) (by omega) (by simp) (λ_=>rfl) (λa ha=>by cases ha);refine Calls.mono h ?_;rintro e w' ⟨rfl,rfl⟩;have hge:=grownCap_ge w (0+n) 0 9;have hle:=grownCap_le_maxLen w (0+n) 0 9 (by unfold maxLen;omega);refine⟨⟨_,rfl,rfl,.inr ⟨_,_,_,rfl,A3 _,heap_alloc_new _ _,Nat.zero_le _,hle,?_,by simp⟩⟩,(A4 _ _).drew.alloc (by simp) _⟩;have hz:(Value.string ⟨#[]⟩).cells.size=1:=rfl;rw[Array.size_append,Array.size_append,size_zeroCells,size_zeroCells,hz];simp only[List.size_toArray,List.length_nil];show 0+(0+n-0)*1+(grownCap w (0+n) 0 9-(0+n))*1=grownCap w (0+n) 0 9*1
 omega
theorem Al8 (w:World):Calls Tryz.prog 211 #[.slice none 0 0,.int .i64 0] w λe w'=>(∃u,e=.returned u/\OwnT w' w.heap.size u [])/\Below w.heap.size w w':=by
 go_enter Tryz.func211,Tryz.ntmps211
 go_wp2
 go_ret
 exact⟨⟨_,rfl,B8 _ _ _ _⟩,A4 _ _⟩
theorem Al9 (n:Nat) (w:World) (h2:n<=1000):Calls Tryz.prog 211 #[.slice none 0 0,.int .i64 (n:Int)] w λe w'=>(∃u,e=.returned u/\OwnT w' w.heap.size u [])/\Below w.heap.size w w':=by
 rcases C4 n with h|h
 ·subst h;exact Al8 w
 ·exact Al7 n w h h2
theorem app_ls {w:World} {base:Nat} {u v:Value} {xs ss:List ByteArray} (ho:OwnT w base u xs) (h:Ls w v ss) (hn:xs.length+ss.length<=1000) (hb:base<=w.heap.size) :
  ∃u' w',(Builtin.append_ #[22,22] 22 #[u,v]).run Tryz.prog w=.ok u' w'/\OwnT w' base u' (xs++ss)/\w.grownBy w' u.ownBlock:=by
 obtain⟨ii,hi,iz0,iz1,iz2⟩:=info_parts M1;obtain⟨a,c,rfl,-,-,hpos⟩:=h;rcases C4 ss.length with h0|h0
 ·obtain rfl:=C5.1 h0
  exact⟨u,w,S7 base 22 22 9 ii 1 Tryz.underlying22 hi _ _ _ ho a c,by simpa using ho,E4 _ _⟩
 ·obtain⟨g,o,rfl,hS,hg⟩:=hpos h0
  obtain⟨v1,w1,hr,hown1,hgr1,-⟩:=run_append_own (P:=Tryz.prog) w base 22 22 9 ii _ 1 16 Tryz.underlying22 hi iz0 iz1 iz2 rfl (by decide) u xs.length (xs.map Value.string) ho ⟨g,o,none⟩ ss.length c (ss.map Value.string) (by simp) (K0 hS) (Aaa ss) (by unfold maxLen;omega) (by omega) hb;refine⟨v1,w1,hr,?_,hgr1⟩;unfold OwnT;rw[A9,List.map_append];exact hown1
def catL (L:List (Value×List ByteArray)) (k:Nat):List ByteArray:=((L.take k).map (·.2)).flatten
theorem AbA (L:List (Value×List ByteArray)) (k:Nat) (hk:k<L.length):catL L (k+1)=catL L k++(L[k]).2:=by
 rw[catL,catL,A7 hk,List.map_append,List.flatten_append];simp
theorem AiT (L:List (Value×List ByteArray)):∀(d k:Nat),k+d<=L.length->(catL L k).length<=(catL L (k+d)).length
 | 0,_,_=>A3 _
 | d+1,k,h=>by
  have h1:=AiT L d k (by omega);have h2:=AbA L (k+d) (by omega);rw[← Nat.add_assoc,h2,A9];omega
def CellsL (w:World) (sb:Nat) (L:List (Value×List ByteArray)):Prop:=∀(i:Nat) (f:Value×List ByteArray),L[i]?=some f->w.cell? ⟨sb,i,none⟩=some f.1/\Ls w f.1 f.2
theorem CellsL.up {w w':World} {sb:Nat} {L:List (Value×List ByteArray)} (h:CellsL w sb L) (hb:Below w.heap.size w w') (hs:sb<w.heap.size):CellsL w' sb L:=λi f hf=>⟨(hb.cell (p:=⟨sb,i,none⟩) hs).trans (h i f hf).1,(h i f hf).2.up hb⟩
theorem Aie (L:List (Value×List ByteArray)) (sb:Nat) (w:World) (h:CellsL w sb L) (hsb:sb<w.heap.size) (hL:L.length<=10) (hn:(catL L L.length).length<=900) :
  Calls Tryz.prog 188 #[.slice (some ⟨sb,0,none⟩) L.length L.length] w
   λe w'=>(∃u,e=.returned u/\OwnT w' w.heap.size u (catL L L.length))/\Below w.heap.size w w':=by
 have Hle:Hid (∀k,k<=L.length->(catL L k).length<=900):=λk hk=>by
  have:=AiT L (L.length-k) k (by omega);rw[show k+(L.length-k)=L.length by omega] at this;omega
 go_enter Tryz.func188,Tryz.ntmps188
 go_wp2_with fail
 go_loop [3,11] (λz i=>∃k:Nat,k<=L.length/\i=.int .i64 (k:Int)/\z=.int .i64 ((catL L k).length:Int)) (λ_ i=>L.length-(intOf i).toNat)
 case atStart=>exact⟨0,by omega,rfl,by simp[catL]⟩
 case round =>
  obtain⟨k,hk,rfl,rfl⟩:=hrel;have hb1:=Hle.out k hk;by_cases hp:k<L.length
  ·obtain⟨c0,l0⟩:=h k _ (A0 hp)
   have hb2:=Hle.out (k+1) hp;have HS:Hid ((catL L (k+1)).length=(catL L k).length+(L[k]).2.length):=by show _=_;rw[AbA L k hp,A9]
   rw[HS.out] at hb2;generalize L[k]=f0 at *;obtain⟨fv,fs⟩:=f0;simp only at c0 l0 hb2 HS;obtain⟨fa,fc,hfv,-⟩:=id l0;subst hfv;clear l0;generalize hcl:(catL L k).length=n0 at *;go_wp2_with fail
   go_round
   case rel=>exact⟨k+1,by omega,by go_num,by rw[HS.out];go_num⟩
   case measure=>simp[intOf];omega
  ·obtain rfl:k=L.length:=by omega
   go_wp2_with fail
   refine (Al9 (catL L L.length).length w (by omega)).mono ?_;rintro e w1 ⟨⟨u,rfl,ho⟩,hB1⟩;have HC:Hid (CellsL w sb L):=h;clear h hn hb1;obtain⟨ua,uc,hu⟩:=F2 ho;subst hu;go_wp2_with fail
   go_loopw [6,27] (λu i w'=>∃(k:Nat),k<=L.length/\i=.int .i64 (k:Int)/\OwnT w' w.heap.size u (catL L k)/\Below w.heap.size w w') (λ_ i _=>L.length-(intOf i).toNat)
   case atStart=>exact⟨0,by omega,rfl,by simpa [catL] using ho,hB1⟩
   case round =>
    clear ho hB1;obtain⟨k,hk,rfl,ho,hB⟩:=hrel;by_cases hp:k<L.length
    ·obtain⟨c0,l0⟩:=(HC.out.up hB hsb) k _ (A0 hp)
     have hb2:=Hle.out (k+1) hp;rw[AbA L k hp,A9] at hb2;obtain⟨u',w',hr,ho',hg'⟩:=app_ls ho l0 (by omega) hB.size;have hB':=I3 hB ho hg' (A3 _);rw[← AbA L k hp] at ho';generalize L[k]=f0 at *;obtain⟨fv,fs⟩:=f0;simp only at c0 l0 hr;obtain⟨fa,fc,hfv,-⟩:=id l0;subst hfv;clear hb2 ho hg' l0;go_wp2_with (at_builtin;refine X7 _ rfl _ _ _ _ rfl _ _ _ _ rfl rfl hr ?_)
     go_roundw
     case rel=>exact⟨k+1,by omega,by go_num,ho',hB'⟩
     case measure=>simp[intOf];omega
    ·obtain rfl:k=L.length:=by omega
     go_wp2_with fail
     go_ret
     exact⟨⟨_,rfl,ho⟩,hB⟩
end Go.Proofs.YtebfdccbmmpceaaGreatDoor
namespace Go.Proofs.YtebfdccbmmpceaaGreatDoor
open Go.RowKit
theorem AmS {L:List (Value×List ByteArray)} {s:ByteArray} (h:s∈catL L L.length):∃i,∃hi:i<L.length,s∈(L[i]).2:=by
 rw[catL,List.take_length,List.mem_flatten] at h;obtain⟨l,hl,hs⟩:=h;obtain⟨f,hf,rfl⟩:=List.mem_map.1 hl;obtain⟨i,hi,rfl⟩:=B6 hf;exact⟨i,hi,hs⟩
theorem AlA {w:World} {sb:Nat} {L:List (Value×List ByteArray)} (h:CellsL w sb L):∀s∈catL L L.length,s.size<=maxLen:=λs hs=>by
 obtain⟨i,hi,hm⟩:=AmS hs;obtain⟨_,_,_,_,hz,_⟩:=(h i _ (A0 hi)).2;exact hz s hm
theorem AlB {ss:List ByteArray} {f:ByteArray->Bool} {k:Nat} (hk:k<ss.length):(ss.take (k+1)).filter f=(ss.take k).filter f++(if f ss[k]=true then [ss[k]] else []):=by
 rw[A7 hk,List.filter_append];congr 1
 by_cases h:f ss[k]=true
 ·simp[h]
 ·simp[h]
theorem AmT (ss:List ByteArray) (f:ByteArray->Bool) (k:Nat):((ss.take k).filter f).length<=k:=by
 have h1:=List.length_filter_le f (ss.take k);rw[B7] at h1;omega
theorem Afz (ss:List ByteArray) (v:Value) (L:List (Value×List ByteArray)) (sb:Nat) (w:World) (h:Ls w v ss) (hs:ss.length<=100) (hc:CellsL w sb L) (hsb:sb<w.heap.size) (hL:L.length<=10) (hn:(catL L L.length).length<=900) :
  Calls Tryz.prog 207 #[v,.slice (some ⟨sb,0,none⟩) L.length L.length] w λe w'=>(∃u,e=.returned u/\OwnT w' w.heap.size u (ss.filter (memS (catL L L.length))))/\Below w.heap.size w w':=by
 obtain⟨ii,hi,iz0,iz1,iz2⟩:=info_parts M1;have Hz:=AlA hc;obtain⟨a,c,rfl,-,-,hpos⟩:=h;go_enter Tryz.func207,Tryz.ntmps207
 go_wp2_with fail
 refine (Aie L sb w hc hsb hL hn).mono ?_;rintro e w1 ⟨⟨u,rfl,ho⟩,hB1⟩;have HL:Hid (∀W,Below w1.heap.size w1 W->Ls W u (catL L L.length)):=λW hW=>(ho.lst.ls Hz).up hW;obtain⟨ua,uc,hu⟩:=F2 ho;subst hu;clear ho Hz hc hn;generalize hcat:catL L L.length=cat at *;have Hcat:Hid (catL L L.length=cat):=hcat;clear hcat
 have hpos1:Hid (0<ss.length->∃b o,a=some ⟨b,o,none⟩/\StrsAt w1 b o ss/\b<w1.heap.size):=λhp=>by
  obtain⟨g,o,e,hS,hg⟩:=hpos hp;exact⟨g,o,e,hS.up hB1 hg,A1 hg hB1.size⟩
 clear hpos;go_wp2_with fail
 go_loopw [6,13] (λx i w'=>∃k:Nat,k<=ss.length/\i=.int .i64 (k:Int)/\OwnT w' w1.heap.size x ((ss.take k).filter (memS cat))/\Below w1.heap.size w1 w') (λ_ i _=>ss.length-(intOf i).toNat)
 case atStart=>exact⟨0,by omega,rfl,B8 _ _ _ _,A4 _ _⟩
 case round =>
  obtain⟨k,hk,rfl,hx,hB⟩:=hrel;by_cases hp:k<ss.length
  ·obtain⟨g,o,rfl,hS,hg⟩:=hpos1.out (by omega)
   have c0:=(hS.up hB hg).cell hp;have HF:=AlB (f:=memS cat) hp;have Hl:=AmT ss (memS cat) k;have HC:=HL.out wr hB;generalize ss[k]=s0 at *;go_wp2_with fail
   refine (AaG cat _ s0 _ HC).mono ?_;rintro e w2 ⟨rfl,hw2⟩;obtain rfl:=hw2.symm;clear c0;cases hq:memS cat s0
   ·rw[hq,if_neg (by simp),List.append_nil] at HF
    have HX:Hid (OwnT wr w1.heap.size u6 ((ss.take (k+1)).filter (memS cat))):=by show _;rw[HF];exact hx
    clear hx HF;go_wp2_with fail
    go_roundw
    case rel=>exact⟨k+1,by omega,by go_num,HX.out,hB⟩
    case measure=>simp[intOf];omega
   ·rw[hq,if_pos rfl] at HF
    have HF':Hid ((ss.take (k+1)).filter (memS cat)=(ss.take k).filter (memS cat)++[s0]):=HF;clear HF;generalize (ss.take k).filter (memS cat)=xs at *;have hownA:=World.ownsRow.alloc hx (.cells #[.string s0] 9);have hBA:=hB.alloc hB.size (.cells #[.string s0] 9);have hzA:=hB.size;obtain⟨xa,xc,hxs⟩:=F2 hx;subst hxs;clear hx;go_wp2_with (at_builtin;refine wpList_append_own _ rfl _ _ 22 rfl w1.heap.size 9 ii _ 1 16 Tryz.underlying22 hi iz0 iz1 iz2 rfl (by decide) _ _ _ rfl hownA ⟨wr.heap.size,0,none⟩ 1 1 [.string s0] rfl rfl (Q8 _ _ _) (AaY s0) (by unfold maxLen;omega) (by omega) (by simp;omega) ?_)
    intro v' w2 hown2 hgr2 _;have hB2:=I3 hBA hownA hgr2 (A3 _);have hO2:OwnT w2 w1.heap.size v' (xs++[s0]):=by unfold OwnT;simpa using hown2
    obtain⟨ya,yc,hys⟩:=F2 hO2;subst hys;clear hownA hgr2 hown2 hBA;go_wp2_with fail
    go_roundw
    case rel=>exact⟨k+1,by omega,by go_num,by rw[HF'.out];exact hO2,hB2⟩
    case measure=>simp[intOf];omega
  ·obtain rfl:k=ss.length:=by omega
   rw[List.take_length] at hx;have hBB:=D6 hB1 hB;have hz1:=hB1.size;obtain⟨xa,xc,hxs⟩:=F2 hx;subst hxs;go_wp2_with fail
   go_ret
   have e:=Hcat.out;subst e;exact⟨⟨_,rfl,G4 hx hz1⟩,hBB⟩
theorem AgX:∀(ps:List Bv) (k:Nat) (p:Bv) (s:ByteArray),ps[k]?=some p->(rowsB ps).set (k*3) (.string s)=rowsB (ps.set k ((⟨s,p.1.has,p.1.needs⟩,p.2.1,p.2.2):Bv))
 | q::r,0,p,s,h=>by
  obtain rfl:q=p:=by simpa using h
  simp[rowsB,rowB]
 | q::r,k+1,p,s,h=>by
  have:=AgX r k p s (by simpa using h);rw[show (k+1)*3=k*3+3 by omega];simp[rowsB,rowB,this]
theorem AeE:∀(ps:List Bv) (k:Nat) (p:Bv) (x:Ba),ps[k]?=some p->x.nm=p.1.nm->rowsB (ps.set k ((x,p.2.1,p.2.2):Bv))=rowsB ps
 | q::r,0,p,x,h,e=>by
  obtain rfl:q=p:=by simpa using h
  simp[rowsB,rowB,e]
 | q::r,k+1,p,x,h,e=>by
  have:=AeE r k p x (by simpa using h) e;simp[rowsB,this]
theorem Afe:∀(qs:List Bv) (k:Nat) (p:Bv),qs[k]?=some p->(famB qs).Perm ((p.2.1,p.1.has)::(p.2.2,p.1.needs)::famB (qs.eraseIdx k))
 | [],_,_,h=>by simp at h
 | q::r,0,p,h=>by
  obtain rfl:q=p:=by simpa using h
  simp[famB]
 | q::r,k+1,p,h=>by
  have ih:=Afe r k p (by simpa using h);simp only[famB,List.eraseIdx_cons_succ];refine ((ih.cons _).cons _).trans ?_;exact (List.perm_append_comm (l₁:=[(q.2.1,q.1.has),(q.2.2,q.1.needs)]) (l₂:=[(p.2.1,p.1.has),(p.2.2,p.1.needs)])).append_right (famB (r.eraseIdx k))
theorem turn3 {α:Type} (t a b:α) (l:List α):(t::a::b::l).Perm (a::b::t::l):=(List.perm_append_comm (l₁:=[t]) (l₂:=[a,b])).append_right l
theorem Fam.front {w:World} {B:Nat} {q:Option Nat} {t:Value×List ByteArray} {ps:List Bv} {k:Nat} {p:Bv} (h:Fam w B q (t::famB ps)) (hp:ps[k]?=some p):Fam w B q ((p.2.1,p.1.has)::(p.2.2,p.1.needs)::t::famB (ps.eraseIdx k)) :=
 h.perm (((Afe ps k p hp).cons t).trans (turn3 _ _ _ _))
theorem Fam.back {w:World} {B:Nat} {q:Option Nat} {t:Value×List ByteArray} {ps:List Bv} {k:Nat} {p:Bv} (h:Fam w B q ((p.2.1,p.1.has)::(p.2.2,p.1.needs)::t::famB (ps.eraseIdx k))) (hk:k<ps.length):Fam w B q (t::famB (ps.set k p)):=by
 refine h.perm (List.Perm.symm ?_);have h1:=Afe (ps.set k p) k p (by rw[D0 hk]);rw[List.eraseIdx_set_eq] at h1;exact (h1.cons t).trans (turn3 _ _ _ _)
theorem Fam.over {w w':World} {B G:Nat} {u:Value} {ss ss':List ByteArray} {fs:List (Value×List ByteArray)} (h:Fam w B (some G) ((u,ss)::fs)) (hG:G<w.heap.size) (hg:w.grownBy w' u.ownBlock) (hu:OwnT w' B u ss'):Fam w' B (some G) ((u,ss')::fs) :=
 h.app hg hu (λ_ hg=>.inl hg) (λ_ h=>by cases h;exact hG)
theorem Fam.off {w w':World} {B G:Nat} {u:Value} {ss:List ByteArray} {fs:List (Value×List ByteArray)} (h:Fam w B (some G) ((u,ss)::fs)) (hG:G<w.heap.size) (hg:w.grownBy w' u.ownBlock):w'.heap[G]?=w.heap[G]? :=
 hg.block G hG (λe=>h.av _ List.mem_cons_self G e.symm rfl)
theorem Aeg {W W':World} {base b2 n:Nat} {u v:Value} {ss:List ByteArray} {xs:List Value} (hrow:W.ownsRow b2 128 3 v n xs) (h:OwnT W base u ss) (hg:W.grownBy W' u.ownBlock):W'.ownsRow b2 128 3 v n xs :=
 E2 hrow hg (E5 hrow h (by decide))
def BkG (w:World) (base:Nat) (q:Option Nat) (v:Value) (b:Bk):Prop:=∃a1 c1 a2 c2 ps,v=.agg #[.slice a1 b.things.length c1,.slice a2 b.bs.length c2]/\BsW w base (.slice a2 b.bs.length c2) ps/\ps.map (·.1)=b.bs/\Fam w base q ((.slice a1 b.things.length c1,b.things)::famB ps)/\∀g,(Value.slice a2 b.bs.length c2).ownBlock=some g->some g≠q
theorem BkF.off {w:World} {base G:Nat} {v:Value} {b:Bk} (h:BkF w base v b) (hG:w.heap.size<=G):BkG w base (some G) v b:=by
 obtain⟨a1,c1,a2,c2,ps,e,h1,h2,h3⟩:=h;refine⟨a1,c1,a2,c2,ps,e,h1,h2,h3.avoid hG,λg hg e=>?_⟩;have:=(h1.1.lt g hg).2;obtain rfl:=A5 e;omega
theorem BkG.free {w:World} {base:Nat} {q:Option Nat} {v:Value} {b:Bk} (h:BkG w base q v b):BkF w base v b:=by
 obtain⟨a1,c1,a2,c2,ps,e,h1,h2,h3,-⟩:=h;exact⟨a1,c1,a2,c2,ps,e,h1,h2,h3.free⟩
theorem BkG.up {w w':World} {base:Nat} {q:Option Nat} {v:Value} {b:Bk} (h:BkG w base q v b) (hb:Below w.heap.size w w'):BkG w' base q v b:=by
 obtain⟨a1,c1,a2,c2,ps,e,h1,h2,h3,h4⟩:=h;exact⟨a1,c1,a2,c2,ps,e,h1.up hb,h2,h3.up hb,h4⟩
def KpT (T:List Nat) (w w':World):Prop:=∀(base e s n:Nat) (v:Value) (xs:List Value),e∉T->w.ownsRow base e s v n xs->w'.ownsRow base e s v n xs
theorem KpT.refl (T:List Nat) (w:World):KpT T w w:=λ_ _ _ _ _ _ _ h=>h
theorem KpT.trans {T:List Nat} {a b c:World} (h:KpT T a b) (k:KpT T b c):KpT T a c:=λ_ _ _ _ _ _ he hr=>k _ _ _ _ _ _ he (h _ _ _ _ _ _ he hr)
theorem KpT.up {T:List Nat} {a b c:World} (h:KpT T a b) (hb:Below b.heap.size b c):KpT T a c:=λ_ _ _ _ _ _ he hr=>E1 (h _ _ _ _ _ _ he hr) hb
theorem KpT.gr {T:List Nat} {a b c:World} {base e s n:Nat} {u:Value} {xs:List Value} (h:KpT T a b) (hrow:b.ownsRow base e s u n xs) (he:e∈T) (hg:b.grownBy c u.ownBlock):KpT T a c:=λ_ _ _ _ _ _ he' hr=>by
 have h1:=h _ _ _ _ _ _ he' hr;exact E2 h1 hg (E5 h1 hrow λe=>he' (e ▸ he))
theorem KpT.more {T T':List Nat} {a b:World} (h:KpT T a b) (hs:∀t∈T,t∈T'):KpT T' a b:=λ_ _ _ _ _ _ he hr=>h _ _ _ _ _ _ (λh=>he (hs _ h)) hr
theorem AfZ {l:List ByteArray} (h:Asc l):(keys l).Pairwise (· < ·):=by
 rw[List.pairwise_iff_getElem];intro i j hi hj hij;have hi':i<l.length:=by simpa [keys] using hi
 have hj':j<l.length:=by simpa [keys] using hj
 have:=S0 h (j-i-1) i _ _ (A0 hi') (by rw[show i+1+(j-i-1)=j by omega];exact A0 hj');rw[AeQ] at this;simpa [keys] using this
theorem k_inj {a b:List ByteArray} (h:keys a=keys b):a=b:=by
 refine List.ext_getElem (by simpa [keys] using congrArg List.length h) λi h1 h2=>?_;have:(keys a)[i]?=(keys b)[i]?:=by rw[h]
 simp only[keys,B0,A0 h1,A0 h2,Option.map_some,Option.some.injEq] at this;exact M6 this
theorem AmU {a b:List ByteArray} (ha:Asc a) (hb:Asc b) (f g:ByteArray->Bool) (h:∀s,(s∈a/\f s=true)↔(s∈b/\g s=true)):a.filter f=b.filter g:=by
 refine k_inj (V9 _ _ ?_ ?_ λx=>?_)
 ·exact (AfZ ha).sublist (List.Sublist.map _ List.filter_sublist)
 ·exact (AfZ hb).sublist (List.Sublist.map _ List.filter_sublist)
 ·simp only[keys,List.mem_map,List.mem_filter]
  exact⟨λ⟨s,hs,e⟩=>⟨s,(h s).1 hs,e⟩,λ⟨s,hs,e⟩=>⟨s,(h s).2 hs,e⟩⟩
theorem Aif {a b:List ByteArray} (ha:Asc a) (hb:Asc b):a.filter (memS b)=b.filter (memS a):=AmU ha hb _ _ λs=>by
 rw[K1,K1];exact And.comm
theorem AgY:∀(ps:List Bv) (k:Nat) (p:Bv) (x:Ba) (u:Value),ps[k]?=some p->x.nm=p.1.nm->(rowsB ps).set (k*3+2) u=rowsB (ps.set k ((x,p.2.1,u):Bv))
 | q::r,0,p,x,u,h,e=>by
  obtain rfl:q=p:=by simpa using h
  simp[rowsB,rowB,e]
 | q::r,k+1,p,x,u,h,e=>by
  have:=AgY r k p x u (by simpa using h) e;rw[show (k+1)*3+2=(k*3+2)+3 by omega];simp[rowsB,rowB,this]
theorem Aeh:∀(ps:List Bv) (k:Nat) (p:Bv) (x:Ba) (u:Value),ps[k]?=some p->x.nm=p.1.nm->(rowsB ps).set (k*3+1) u=rowsB (ps.set k ((x,u,p.2.2):Bv))
 | q::r,0,p,x,u,h,e=>by
  obtain rfl:q=p:=by simpa using h
  simp[rowsB,rowB,e]
 | q::r,k+1,p,x,u,h,e=>by
  have:=Aeh r k p x u (by simpa using h) e;rw[show (k+1)*3+1=(k*3+1)+3 by omega];simp[rowsB,rowB,this]
theorem o2_up {W w0 w1:World} {q i j:Nat} {x0 x1:Value} (hq:q<W.heap.size) (h:Below W.heap.size W w0/\w0.cell? ⟨q,i,none⟩=some x0/\w0.cell? ⟨q,j,none⟩=some x1) (hB:Below w0.heap.size w0 w1):Below W.heap.size W w1/\w1.cell? ⟨q,i,none⟩=some x0/\w1.cell? ⟨q,j,none⟩=some x1:=by
 have lq:q<w0.heap.size:=A1 hq h.1.size;exact⟨D6 h.1 hB,(hB.cell (p:=⟨q,i,none⟩) lq).trans h.2.1,(hB.cell (p:=⟨q,j,none⟩) lq).trans h.2.2⟩
theorem Aoh (ps:List Bv) (k:Nat) (a b:Bv):(ps.set k a).set k b=ps.set k b:=by simp
theorem AgZ (f:Value×List ByteArray):catL [f] [f].length=f.2:=by simp[catL]
theorem AjU (ss has:List ByteArray) (v hv:Value) (sb:Nat) (w:World) (h:Ls w v ss) (hs:ss.length<=100) (hc:w.cell? ⟨sb,0,none⟩=some hv) (hl:Ls w hv has) (hsb:sb<w.heap.size) (hn:has.length<=900) :
  Calls Tryz.prog 207 #[v,.slice (some ⟨sb,0,none⟩) 1 1] w λe w'=>(∃u,e=.returned u/\OwnT w' w.heap.size u (ss.filter (memS has)))/\Below w.heap.size w w':=by
 have:=Afz ss v [(hv,has)] sb w h hs (λi f hf=>by
  match i,hf with
  | 0,hf =>
   obtain rfl:(hv,has)=f:=by simpa using hf
   exact⟨hc,hl⟩) hsb (by simp) (by rw[AgZ];exact hn)
 rw[AgZ] at this;exact this
theorem Aha (b:Bk) (v:Value) (nm:ByteArray) (lv:Value) (ls:List ByteArray) (w:World) (h:BkV w v b) (hl:Ls w lv ls) (hls:ls.length<=100) (hok:BookOk b) (hasc:Asc ls) (hm:memS (nms b.bs) nm=true) :
  Calls Tryz.prog 184 #[v,.iface 213 (.agg #[.string nm,lv])] w λe w'=>(∃u,e=.returned u/\BkF w' w.heap.size u (chg b (plN b nm) (lessF ls)))/\Below w.heap.size w w':=by
 have f1:=Ai9;have f2:=ta_LE;have f3:=ta_LA;have f4:=ta_LL;obtain⟨a1,c1,a2,c2,rfl,-,-⟩:=h.parts;obtain⟨la,lc,rfl,-,hzl,-⟩:=id hl;have hszb:=h.szb;obtain⟨s1,s2,s3⟩:=O0 hok;obtain⟨W1,hW1,kA,kR,hB1,hs1⟩:=L1 w [.slice a1 (b).things.length c1,.slice a2 (b).bs.length c2] 33 [.slice none 0 0,.slice none 0 0] 33;go_enter Tryz.func184,Tryz.ntmps184
 go_upto_region 1 with fail
 try rw[hW1]
 clear hW1;have hk:=h.up hB1;obtain⟨e0,e1⟩:=kA.c2';go_wp2_with fail
 refine (Z1 b _ _ hk (by omega) (by omega) (λy hy=>by have:=s3 y hy;omega)).mono ?_;rintro e w2 ⟨⟨a3,c3,a4,c4,ps,rfl,x2,x3,hF⟩,hb2⟩;have hz2:=hb2.size;have hlt2:∀g',(Value.slice a4 b.bs.length c4).ownBlock=some g'->g'<w2.heap.size:=λg' hg'=>(x2.1.lt g' hg').2;replace hF:=hF.avoid (A3 _);have Hnm:Hid (∀p∈ps,p.1.nm.size<=maxLen):=λp hp=>(x2.2 p hp).2.2;have kA2:=kA.up hb2 (by omega);have kR2:=kR.up hb2 (by omega);have hk2:=hk.up hb2;have hB2:=D6 hB1 hb2;clear e0 e1 kA kR hk hB1 hb2;go_upto_region 2 with fail
 obtain⟨W3,hW3,kX,hb3,hs3⟩:=K9 w2 [(.slice a3 b.things.length c3),.slice a4 b.bs.length c4] 33;try rw[hW3]
 clear hW3;have kA3:=kA2.up hb3 (by omega);have kR3:=kR2.up hb3 (by omega);have hk3:=hk2.up hb3;have hB3:=D6 hB2 hb3;have x23:=x2.up hb3;have hF3:=hF.up hb3;clear kA2 kR2 hk2 hB2 x2 hF hb3;obtain⟨e0,e1⟩:=kA3.c2';have hS0:Below W3.heap.size W3 W3/\W3.cell? ⟨w.heap.size,0,none⟩=some (.slice a1 b.things.length c1)/\W3.cell? ⟨w.heap.size,1,none⟩=some (.slice a2 b.bs.length c2):=⟨A4 _ _,e0,e1⟩;have hq3:w.heap.size<W3.heap.size:=by omega
 clear e0 e1;go_wp2_with fail
 go_region_held (λw'=>Below W3.heap.size W3 w'/\w'.cell? ⟨w.heap.size,0,none⟩=some (.slice a1 b.things.length c1)/\w'.cell? ⟨w.heap.size,1,none⟩=some (.slice a2 b.bs.length c2)) (first|exact AeT hS0|exact Ajh hq3 (by assumption) (by assumption))
  (first
   | (go_at_call 269;refine (AaA nm _).mono ?_;rintro e' w9 ⟨rfl,hb9⟩)
   | (go_at_call 180;refine (Abe b _ nm _ ((hk3.up (A4 _ _).drew).up hb9) hok).mono ?_;rintro e' wA ⟨rfl,hbA⟩))
 rename_i hHeld;have hBA:=hHeld.1;clear hHeld hS0 hb9 hbA;have hzA:=hBA.size;have kXA:=kX.up hBA (by omega);have kRA:=kR3.up hBA (by omega);have hBB:=D6 hB3 hBA;have x2A:=x23.up hBA;have hFA:=hF3.up hBA;clear kX kR3 kA3 hB3 x23 hF3 hk3 hBA;rw[Aew hok.2.2.2.1 hm];obtain⟨-,hpl⟩:=T8 hm;have hps:ps.length=b.bs.length:=by rw[← x3,B4]
 have hrow:=x2A.1;rw[hps] at hrow;obtain⟨g,cp,hgp⟩:=F4 hrow (by omega);obtain⟨rfl,-,rfl⟩:=Value.slice.inj hgp;clear hgp
 have hpk:∃hv nv,ps[plN b nm]?=some (b.bs[plN b nm],hv,nv):=by
  have h1:(ps.map (·.1))[plN b nm]?=some b.bs[plN b nm]:=by rw[x3,A0 hpl]
  rw[B0] at h1;obtain⟨p,hp,e⟩:=B5.1 h1;exact⟨p.2.1,p.2.2,by rw[hp,← e]⟩
 obtain⟨hv,nv,hpk⟩:=hpk;have Hchg:Hid (chg b (plN b nm) (lessF ls)=⟨b.things,b.bs.set (plN b nm) (lessF ls b.bs[plN b nm])⟩):=Abb (A0 hpl);have hhas:Asc (b.bs[plN b nm]).has:=(hok.2.2.2.2.1.at (k:=plN b nm) hpl hpl).2.2;obtain⟨s4,s5⟩:=s3 b.bs[plN b nm] (by simp);have hzx:=hszb.2 b.bs[plN b nm] (by simp);have Hflt:Hid (ls.filter (memS (b.bs[plN b nm]).has)=(b.bs[plN b nm]).has.filter (memS ls)):=Aif hasc hhas;have Hm3:Hid (∀(u1 u2:Value),(ps.set (plN b nm) ((lessF ls b.bs[plN b nm],u1,u2):Bv)).map (·.1)=b.bs.set (plN b nm) (lessF ls b.bs[plN b nm])):=λu1 u2=>by rw[List.map_set,x3]
 clear hhas hasc;generalize hp0:plN b nm=p at *;have Hp0:Hid (plN b nm=p):=hp0;clear hp0;generalize b.bs[p]=x0 at *;go_upto_region 14 with fail
 obtain⟨W5,hW5,kZ5,hb5,hs5⟩:=K9 wA [.string nm,.slice la ls.length lc] 213;try rw[hW5]
 clear hW5;have kX5:=kXA.up hb5 (by omega);have kR5:=kRA.up hb5 (by omega);have hB5:=D6 hBB hb5;have hF5:=hFA.up hb5;have hg2:=hlt2 g rfl;have hg1:=(hrow.lt g rfl).1;have hrow5:=E1 hrow hb5;have hl5:=hl.up hB5;clear kXA kRA hBB x2A hFA hb5 hrow hlt2 h hl;obtain⟨⟨y0,y1⟩,-⟩:=kX5.c2;obtain⟨z0,z1⟩:=kZ5.c2';go_wp2_with fail
 refine (AaJ ls _ _ hl5 (by omega)).mono ?_;rintro e w6 ⟨⟨un,rfl,hon⟩,hb6⟩;obtain⟨an,cn,rfl⟩:=hon.lst.shape;have hz6:=hb6.size;have kX6:=kX5.up hb6 (by omega);have kR6:=kR5.up hb6 (by omega);have hB6:=D6 hB5 hb6;have hF6:=hF5.up hb6;have hrow6:=E1 hrow5 hb6;have hFr5:=hF5.front hpk;have hFr6:=hF6.front hpk;have hG6:=(Fam.new hFr5.swap.tail hFr6.swap.tail hon (A3 _) (by omega) (AaI (by omega))).swap;have hoh6:OwnT w6 W1.heap.size hv x0.has:=hFr6.own _ List.mem_cons_self;obtain⟨ah,ch,hhv⟩:=hoh6.lst.shape;subst hhv;have c2:=hrow6.cellAt (p*3+2) (by omega);rw[K5 ps p _ hpk 2 _ rfl] at c2;have q2:=hrow6.frozenAt (p*3+2);have st:=hrow6.stored (p*3+2) (.slice an ls.length cn);have hrow7:=st.1;rw[AgY ps p _ ⟨x0.nm,x0.has,ls⟩ (.slice an ls.length cn) hpk rfl] at hrow7;have hG7:=hG6.row hrow6 st.2;have kX7:=kX6.kept st.2 (by simp;omega);have kR7:=kR6.kept st.2 (by simp;omega);have hB7:Below w.heap.size w (w6.setCell ⟨g,p*3+2,none⟩ (.slice an ls.length cn)):=I3 hB6 hrow6 st.2 (by omega);have Hz7:Hid ((w6.setCell ⟨g,p*3+2,none⟩ (.slice an ls.length cn)).heap.size=w6.heap.size):=by show _=_;simp
 clear y0 y1 z0 z1 kX5 kR5 kZ5 hF5 hF6 hFr5 hFr6 hG6 hrow5 hrow6 hB5 hB6 st hon hl5 hoh6 kX6 kR6 hb6;go_upto_region 16 with fail
 generalize w6.setCell ⟨g,p*3+2,none⟩ (.slice an ls.length cn)=W7 at *;clear c2 q2;have Hp2:Hid ((ps.set p ((⟨x0.nm,x0.has,ls⟩,.slice ah x0.has.length ch,.slice an ls.length cn):Bv))[p]?=some (⟨x0.nm,x0.has,ls⟩,.slice ah x0.has.length ch,.slice an ls.length cn)):=D0 (by omega);have d1:=hrow7.cellAt (p*3+1) (by omega);rw[K5 _ p _ Hp2.out 1 _ rfl] at d1;have d2:=hrow7.cellAt (p*3+2) (by omega);rw[K5 _ p _ Hp2.out 2 _ rfl] at d2;have hg7:g<W7.heap.size:=by have:=Hz7.out;omega
 have hw7:w2.heap.size+1<W7.heap.size:=by have:=Hz7.out;omega
 have hS1:Below W7.heap.size W7 W7.drew/\World.cell? W7.drew ⟨g,p*3+1,none⟩=some (.slice ah x0.has.length ch)/\World.cell? W7.drew ⟨g,p*3+2,none⟩=some (.slice an ls.length cn):=⟨(A4 _ _).drew,d1,d2⟩;have hsx:(∀s∈x0.has,s.size<=maxLen):=hzx.1;have hlh7:Ls W7 (.slice ah x0.has.length ch) x0.has:=(hG7.own _ List.mem_cons_self).lst.ls hsx;have hln7:Ls W7 (.slice an ls.length cn) ls:=(hG7.own _ (C8 _ List.mem_cons_self)).lst.ls hzl;have hb8:Below W7.drew.heap.size W7.drew (W7.alloc (.cells #[.slice ah x0.has.length ch] 22)).drew:=(A4 W7.drew.heap.size W7.drew).alloc (A3 _) (.cells #[.slice ah x0.has.length ch] 22);have hS8:Below W7.heap.size W7 (W7.alloc (.cells #[.slice ah x0.has.length ch] 22)).drew/\World.cell? (W7.alloc (.cells #[.slice ah x0.has.length ch] 22)).drew ⟨g,p*3+1,none⟩=some (.slice ah x0.has.length ch)/\World.cell? (W7.alloc (.cells #[.slice ah x0.has.length ch] 22)).drew ⟨g,p*3+2,none⟩=some (.slice an ls.length cn):=o2_up hg7 hS1 hb8;clear d1 d2;go_wp2_with fail
 refine F5 13 (λw'=>Below W7.heap.size W7 w'/\World.cell? w' ⟨g,p*3+1,none⟩=some (.slice ah x0.has.length ch)/\World.cell? w' ⟨g,p*3+2,none⟩=some (.slice an ls.length cn)) (by kernel_rfl) ?_;refine G3 (i:=0) (v:=?_) rfl (by kernel_rfl) (by kernel_rfl) (by kernel_rfl) (by kernel_rfl) (λ_ _ _ h=>h) (by rfl) hS1 ?_ ?_;rotate_left;focus (intro w hSw;(try dsimp only at hSw);go_simp;try with_reducible rfl);(try simp only[Act.put,List.setIfInBounds_toArray,List.set_cons_zero,List.set_cons_succ])
 refine G3 (i:=1) (v:=?_) rfl (by kernel_rfl) (by kernel_rfl) (by kernel_rfl) (by kernel_rfl) (λ_ _ _ h=>h) (by rfl) hS1 ?_ ?_;rotate_left;focus (intro w hSw;(try dsimp only at hSw);go_simp;try with_reducible rfl);(try simp only[Act.put,List.setIfInBounds_toArray,List.set_cons_zero,List.set_cons_succ])
 refine G3 (i:=2) (v:=?_) rfl (by kernel_rfl) (by kernel_rfl) (by kernel_rfl) (by kernel_rfl) (λ_ _ _ h=>h) (by rfl) hS1 ?_ ?_;rotate_left;focus (intro w hSw;(try dsimp only at hSw);go_simp;try with_reducible rfl);(try simp only[Act.put,List.setIfInBounds_toArray,List.set_cons_zero,List.set_cons_succ])
 refine G3 (i:=3) (v:=?_) rfl (by kernel_rfl) (by kernel_rfl) (by kernel_rfl) (by kernel_rfl) (λ_ _ _ h=>h) (by rfl) hS1 ?_ ?_;rotate_left;focus (intro w hSw;(try dsimp only at hSw);go_simp;try with_reducible rfl);(try simp only[Act.put,List.setIfInBounds_toArray,List.set_cons_zero,List.set_cons_succ])
 refine G3 (i:=4) (v:=?_) rfl (by kernel_rfl) (by kernel_rfl) (by kernel_rfl) (by kernel_rfl) (λ_ _ _ h=>h) (by rfl) hS1 ?_ ?_;rotate_left;focus (intro w hSw;(try dsimp only at hSw);go_simp;try with_reducible rfl);(try simp only[Act.put,List.setIfInBounds_toArray,List.set_cons_zero,List.set_cons_succ])
 refine G3 (i:=5) (v:=?_) rfl (by kernel_rfl) (by kernel_rfl) (by kernel_rfl) (by kernel_rfl) (λ_ _ _ h=>h) (by rfl) hS1 ?_ ?_;rotate_left;focus (intro w hSw;(try dsimp only at hSw);go_simp;try with_reducible rfl);(try simp only[Act.put,List.setIfInBounds_toArray,List.set_cons_zero,List.set_cons_succ])
 refine G3 (i:=6) (v:=?_) rfl (by kernel_rfl) (by kernel_rfl) (by kernel_rfl) (by kernel_rfl) (λ_ _ _ h=>h) (by rfl) hS1 ?_ ?_;rotate_left;focus (intro w hSw;(try dsimp only at hSw);go_simp;try with_reducible rfl);(try simp only[Act.put,List.setIfInBounds_toArray,List.set_cons_zero,List.set_cons_succ])
 refine G3 (i:=7) (v:=?_) rfl (by kernel_rfl) (by kernel_rfl) (by kernel_rfl) (by kernel_rfl) (λ_ _ _ h=>h) (by rfl) hS1 ?_ ?_;rotate_left;focus (intro w hSw;(try dsimp only at hSw);go_simp;try with_reducible rfl);(try simp only[Act.put,List.setIfInBounds_toArray,List.set_cons_zero,List.set_cons_succ])
 refine G3 (i:=8) (v:=?_) rfl (by kernel_rfl) (by kernel_rfl) (by kernel_rfl) (by kernel_rfl) (λ_ _ _ h=>h) (by rfl) hS1 ?_ ?_;rotate_left;focus (intro w hSw;(try dsimp only at hSw);go_simp;try with_reducible rfl);(try simp only[Act.put,List.setIfInBounds_toArray,List.set_cons_zero,List.set_cons_succ])
 refine D8 (i:=9) (by kernel_rfl) rfl (λK hK=>?_);go_simp
 refine hK.out _ _ (λ_=>hS8) ?_;clear hK K;(try simp only[Act.put,List.setIfInBounds_toArray,List.set_cons_zero,List.set_cons_succ]);have hn8:Below W7.heap.size W7 (W7.alloc (.cells #[.slice ah x0.has.length ch] 22)).drew:=hS8.1;have hcell8:(W7.alloc (.cells #[.slice ah x0.has.length ch] 22)).drew.cell? ⟨W7.heap.size,0,none⟩=some (.slice ah x0.has.length ch):=(E7 W7 [.slice ah x0.has.length ch] 22).1 0 _ rfl;have hlh8:=hlh7.up hn8;have hln8:=hln7.up hn8;have Hz8:Hid ((W7.alloc (.cells #[.slice ah x0.has.length ch] 22)).drew.heap.size=W7.heap.size+1):=by show _=_;simp
 generalize (W7.alloc (.cells #[.slice ah x0.has.length ch] 22)).drew=W8 at *;have hl8:W7.heap.size<W8.heap.size:=by have:=Hz8.out;omega
 refine D8 (i:=10) (by kernel_rfl) rfl (λK hK=>?_);go_simp
 go_wp2_with (go_at_call 207;refine (AjU ls x0.has _ _ W7.heap.size _ hln8 hls hcell8 hlh8 hl8 (by omega)).mono ?_;rintro e w9 ⟨⟨uh,rfl,hoh⟩,hb9⟩)
 obtain⟨xh,yh,hxh⟩:=hoh.lst.shape;rw[Hflt.out] at hxh hoh;subst hxh;have hS9:Below W7.heap.size W7 w9/\World.cell? w9 ⟨g,p*3+1,none⟩=some (.slice ah x0.has.length ch)/\World.cell? w9 ⟨g,p*3+2,none⟩=some (.slice an ls.length cn):=o2_up hg7 hS8 hb9;refine hK.out _ _ (λ_=>hS9) ?_;clear hK K;(try simp only[Act.put,List.setIfInBounds_toArray,List.set_cons_zero,List.set_cons_succ]);refine D8 (i:=11) (by kernel_rfl) rfl (λK hK=>?_);go_simp
 refine hK.out _ _ (λ_=>hS9) ?_;clear hK K;(try simp only[Act.put,List.setIfInBounds_toArray,List.set_cons_zero,List.set_cons_succ]);refine G3 (i:=12) (v:=?_) rfl (by kernel_rfl) (by kernel_rfl) (by kernel_rfl) (by kernel_rfl) (λ_ _ _ h=>h) (by rfl) hS9 ?_ ?_;rotate_left;focus (intro w hSw;(try dsimp only at hSw);go_simp;try with_reducible rfl);(try simp only[Act.put,List.setIfInBounds_toArray,List.set_cons_zero,List.set_cons_succ])
 have hz9:=hb9.size;have hB79:=hS9.1;have kX9:=kX7.up hB79 (by omega);have kR9:=kR7.up hB79 (by omega);have hB9:=D6 hB7 hB79;have hrow9:=E1 hrow7 hB79;have hG9:=hG7.up hB79;have hH9:=Fam.new hG7.tail hG9.tail hoh (by omega) (by omega) (AaI (by omega));have d1:=hS9.2.1;have q1:=hrow9.frozenAt (p*3+1);have st:=hrow9.stored (p*3+1) (.slice xh (x0.has.filter (memS ls)).length yh);have hrow10:=st.1;rw[Aeh _ p _ (lessF ls x0) (.slice xh (x0.has.filter (memS ls)).length yh) Hp2.out rfl,Aoh] at hrow10;have hH10:=hH9.row hrow9 st.2;have kX10:=kX9.kept st.2 (by simp;omega);have kR10:=kR9.kept st.2 (by simp;omega);have hB10:Below w.heap.size w (w9.setCell ⟨g,p*3+1,none⟩ (.slice xh (x0.has.filter (memS ls)).length yh)):=I3 hB9 hrow9 st.2 (by omega);clear hS1 hS8 kX7 kR7 hB7 hrow7 hG7 hlh7 hln7 hb8 hn8 hcell8 hlh8 hln8 hoh hb9 hB79 kX9 kR9 hB9 hrow9 hG9 hH9 st;refine D8 (i:=13) (by kernel_rfl) rfl (λK hK=>?_);go_simp
 refine hK.out _ _ (λh=>absurd rfl h) ?_;clear hK K;refine F0 (by kernel_rfl) ?_ _;clear d1 q1 hS9;have Hlf:Hid (lessF ls x0=⟨x0.nm,x0.has.filter (memS ls),ls⟩):=rfl;generalize x0.has.filter (memS ls)=fl at *;generalize w9.setCell ⟨g,p*3+1,none⟩ (.slice xh fl.length yh)=W10 at *;obtain⟨⟨y0,y1⟩,-⟩:=kX10.c2;obtain⟨⟨r0,r1⟩,q0,q1⟩:=kR10.c2;have hW1z:w.heap.size+1<W1.heap.size:=by omega
 have hF10:Fam W10 W1.heap.size (some w2.heap.size) (((.slice a3 b.things.length c3),b.things)::famB (ps.set p ((lessF ls x0,.slice xh fl.length yh,.slice an ls.length cn):Bv))):=by
  refine Fam.back ?_ (by omega);rw[Hlf.out];exact hH10
 clear hH10;go_wp2_with fail
 refine AaW Tryz.results184 Tryz.underlying33 rfl J0 kR10 rfl ?_;have hrow8:=E9 (E9 hrow10 (E0 (rb:=w.heap.size+1) (off:=0) (E4 _ _) (.slice a3 b.things.length c3)) hW1z) (E0 (rb:=w.heap.size+1) (off:=1) (E4 _ _) (.slice (some ⟨g,0,none⟩) b.bs.length c4)) hW1z;have hF8:=(hF10.free.setLow hW1z 0 (.slice a3 b.things.length c3)).setLow hW1z 1 (.slice (some ⟨g,0,none⟩) b.bs.length c4)
 have hW8:=hF8.bsW (fs:=[((.slice a3 b.things.length c3),b.things)]) (v:=.slice (some ⟨g,0,none⟩) b.bs.length c4) (by rw[List.length_set,hps];exact hrow8) (λq hq=>by
  rcases List.mem_or_eq_of_mem_set hq with h|h
  ·exact Hnm.out q h
  ·subst h
   exact Hnm.out ((x0,.slice ah x0.has.length ch,nv):Bv) (A6 hpk))
 have hm3:=Hm3.out (.slice xh fl.length yh) (.slice an ls.length cn);have hchg:=Hchg.out;rw[← Hp0.out] at hchg;rw[hchg];refine⟨⟨_,rfl,a3,c3,some ⟨g,0,none⟩,c4,_,?_,?_,by rw[Hp0.out];exact hm3,hF8.low (by omega)⟩,F9 hB10 (Nat.le_succ _) _ _⟩
 ·show Value.agg #[_,_]=Value.agg #[_,.slice _ (b.bs.set _ _).length _]
  rw[List.length_set]
 ·show BsW _ _ (.slice _ (b.bs.set _ _).length _) _
  rw[List.length_set];exact hW8.low (by omega)
theorem AmV {needs has things:List ByteArray} (hn:Asc needs) (h1:PartOk has needs) (h2:PartOk things needs):needs.filter (memS (has++things))=insAll has things:=by
 obtain⟨bm,bp⟩:=O7 things has;refine k_inj (V9 _ _ ((AfZ hn).sublist (List.Sublist.map _ List.filter_sublist)) (bp (AfZ h1.2)) λx=>?_);refine Iff.trans ?_ (bm x).symm;simp only[keys,List.mem_map,List.mem_filter,K1,D1];constructor
 ·rintro⟨s,⟨-,hs|hs⟩,e⟩
  ·exact .inl ⟨s,hs,e⟩
  ·exact .inr ⟨s,hs,e⟩
 ·rintro (⟨s,hs,e⟩|⟨s,hs,e⟩)
  ·exact⟨s,⟨Acd h1.1 hs,.inl hs⟩,e⟩
  ·exact⟨s,⟨Acd h2.1 hs,.inr hs⟩,e⟩
def Other (b:Bk) (nm s:ByteArray):Prop:=whoB b.bs s≠⟨#[]⟩/\whoB b.bs s≠nm
theorem AlC {s:ByteArray} (h:nameB s=true):s≠⟨#[]⟩:=λe=>by subst e;revert h;decide
theorem nm_at {b:Bk} {nm:ByteArray} (hm:memS (nms b.bs) nm=true):∃hpl:plN b nm<b.bs.length,(b.bs[plN b nm]).nm=nm:=by
 obtain⟨hi,hlt⟩:=T8 hm;obtain⟨k,hk,hkl,hkn⟩:=Ai5 (l:=nms b.bs) (s:=nm) (by omega);obtain rfl:plN b nm=k:=by omega
 exact⟨hlt,by rw[← Q9 b.bs _ hlt];exact hkn⟩
theorem Af0 {b:Bk} {nm s:ByteArray} (hok:BookOk b) (hm:memS (nms b.bs) nm=true):Other b nm s↔∃(i:Nat) (x:Ba),i≠plN b nm/\b.bs[i]?=some x/\memS x.has s=true:=by
 obtain⟨hpl,hpn⟩:=nm_at hm;constructor
 ·rintro⟨h1,h2⟩
  cases hf:b.bs.find? (λx=>memS x.has s) with
  | none=>exact absurd (by rw[whoB,hf];rfl) h1
  | some x =>
   obtain⟨hx,k,hk,e,-⟩:=List.find?_eq_some_iff_getElem.1 hf;refine⟨k,x,λhp=>h2 ?_,by rw[A0 hk,e],hx⟩;rw[whoB,hf];subst hp;rw[← e];exact hpn
 ·rintro⟨i,x,hip,hx,hs⟩
  obtain⟨hi,rfl⟩:=A2.1 hx
  have hw:whoB b.bs s=(b.bs[i]).nm:=Ai1 hi (λj y hj hy=>by
   cases hq:memS y.has s
   ·rfl
   ·have:=hok.2.2.2.2.2 i j _ y hj (by omega) (A0 hi) hy
    rw[N9] at this;exact absurd ((K1 _ _).1 hq) (this s ((K1 _ _).1 hs))) hs
  rw[Other,hw];refine⟨AlC ?_,λe=>hip ?_⟩
  ·exact hok.2.2.1 i _ (by rw[I6];exact hi) (by rw[A0 (by rw[I6];exact hi),Q9 _ _ hi])
  ·refine AbN hok.2.2.2.1 (a:=nm) ?_ ?_
   ·rw[A0 (by rw[I6];exact hi),Q9 _ _ hi,e]
   ·rw[A0 (by rw[I6];exact hpl),Q9 _ _ hpl,hpn]
theorem Af1 {b:Bk} {nm:ByteArray} {things:List ByteArray} (hok:BookOk b) (hm:memS (nms b.bs) nm=true):Taken b.bs (plN b nm:Int) things↔∃s∈things,Other b nm s:=by
 constructor
 ·rintro⟨i,x,hi,hx,hs⟩
  obtain⟨s,h1,h2⟩:=(Acb _ _).1 hs;exact⟨s,h2,(Af0 hok hm).2 ⟨i,x,by omega,hx,(K1 _ _).2 h1⟩⟩
 ·rintro⟨s,hs,ho⟩
  obtain⟨i,x,hi,hx,h1⟩:=(Af0 hok hm).1 ho;exact⟨i,x,by omega,hx,(Acb _ _).2 ⟨s,(K1 _ _).1 h1,hs⟩⟩
def SafeQ (b:Bk):Prop:=∃ss,OrderIs b ss true
theorem Aa0 {b:Bk} {ss:List ByteArray} {ok:Bool} (h:OrderIs b ss ok):ok=pB (SafeQ b):=by
 cases ok with
 | true=>exact (I7 ⟨ss,h⟩).symm
 | false=>exact (F3 λ⟨ss',h'⟩=>by have:=(h.uniq h').2;cases this).symm
noncomputable def askR (b:Bk) (nm:ByteArray) (things:List ByteArray):Int :=
 if ofC b nm things≠0 then ofC b nm things else if pB (Taken b.bs (plN b nm:Int) things)=true then 5 else if (pB (SafeQ b) && !pB (SafeQ (chg b (plN b nm) (askF things))))=true then 6 else 0
theorem Ad2 {b:Bk} {nm:ByteArray} {things:List ByteArray} (h:ofC b nm things≠0):askR b nm things=ofC b nm things:=by simp[askR,h]
theorem Af2 {b:Bk} {nm:ByteArray} {things:List ByteArray} (h:ofC b nm things=0) (ht:Taken b.bs (plN b nm:Int) things):askR b nm things=5:=by simp[askR,h,I7 ht]
theorem Adl {b:Bk} {nm:ByteArray} {things:List ByteArray} (h:ofC b nm things=0) (ht:¬Taken b.bs (plN b nm:Int) things):askR b nm things=if (pB (SafeQ b) && !pB (SafeQ (chg b (plN b nm) (askF things))))=true then 6 else 0:=by simp[askR,h,F3 ht]
theorem Adm {b:Bk} {nm:ByteArray} {things:List ByteArray} (h:askR b nm things=0):ofC b nm things=0:=by
 by_cases h0:ofC b nm things=0
 ·exact h0
 ·rw[Ad2 h0] at h;exact absurd h h0
theorem ask_is {b b':Bk} {nm:ByteArray} {things:List ByteArray} {cd:Int} (h:AskIs b nm things cd b'):cd=askedC b (askR b nm things)/\b'=askedB b (askR b nm things) (chg b (plN b nm) (askF things)):=by
 rcases h with⟨h1,rfl,hb⟩|⟨h1,h2,rfl,hb⟩|⟨h1,h2,h3,rfl,hb⟩|⟨h1,h2,h3,h4,rfl,hb⟩|⟨h1,h2,h3,h4,⟨ss,h5⟩,⟨st,h6⟩,rfl,hb⟩|⟨h1,h2,h3,h4,h5,rfl,hb⟩
 ·exact⟨by simp[askedC,h1],by rw[hb];simp[askedB,h1]⟩
 ·have e:askR b nm things=3:=by rw[Ad2 (by rw[Adx h2];omega),Adx h2]
  exact⟨by simp[askedC,h1,e],by rw[hb];simp[askedB,h1,e]⟩
 ·have e:askR b nm things=2:=by rw[Ad2 (by rw[Aex h2 h3];omega),Aex h2 h3]
  exact⟨by simp[askedC,h1,e],by rw[hb];simp[askedB,h1,e]⟩
 ·have e:=Af2 (AcV h2 h3) h4
  exact⟨by simp[askedC,h1,e],by rw[hb];simp[askedB,h1,e]⟩
 ·have e:=Adl (AcV h2 h3) h4
  rw[← Aa0 h5,← Aa0 h6] at e;simp at e;exact⟨by simp[askedC,h1,e],by rw[hb];simp[askedB,h1,e]⟩
 ·have e:askR b nm things=0:=by
   rw[Adl (AcV h2 h3) h4];rcases h5 with⟨ss,h5⟩|⟨ss,h5⟩
   ·rw[← Aa0 h5];simp
   ·rw[← Aa0 h5];simp
  exact⟨by simp[askedC,h1,e],by rw[hb];simp[askedB,h1,e]⟩
end Go.Proofs.YtebfdccbmmpceaaGreatDoor
