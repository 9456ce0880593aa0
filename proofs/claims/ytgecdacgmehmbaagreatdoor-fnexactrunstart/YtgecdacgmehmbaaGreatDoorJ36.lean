/- The laws' own helpers over those that ended. -/
import Derived.Test.YtgecdacgmehmbaaGreatDoorJ26
import Derived.Test.YtgecdacgmehmbaaGreatDoorJ32
import Derived.Test.YtgecdacgmehmbaaGreatDoorJ33
import Derived.Test.YtgecdacgmehmbaaGreatDoorJ27
import Derived.Test.YtgecdacgmehmbaaGreatDoorJ10
import Derived.Test.YtgecdacgmehmbaaGreatDoorJ14
import Derived.Laws.IdiomCopy
import Derived.Test.YtgecdacgmehmbaaGreatDoorJ11
import Derived.Test.YtgecdacgmehmbaaGreatDoorKf
import Derived.Shelf.Spec.SlicesInsert
import Derived.Test.YtgecdacgmehmbaaGreatDoorJ21
import Derived.Test.YtgecdacgmehmbaaGreatDoorJ8
set_option maxRecDepth 20000
set_option maxHeartbeats 4000000
namespace Go.Proofs.YtgecdacgmehmbaaGreatDoor
open Go.RowKit
def Done.cellsL (x:Done):List Value:=[.string x.nm,.int .i64 x.e,.int .i64 x.t]
theorem DnsAt.cells {w:World} {b o:Nat} {l:List Done} (h:DnsAt w b o l) (i:Nat) (hi:i<l.length):w.cell? ⟨b,o+i*3,none⟩=some (.string (l[i]).nm)/\w.cell? ⟨b,o+i*3+1,none⟩=some (.int .i64 (l[i]).e)/\w.cell? ⟨b,o+i*3+2,none⟩=some (.int .i64 (l[i]).t):=by
 have hr:=(h i l[i] (by simp)).1;exact⟨hr 0 _ rfl,hr 1 _ rfl,hr 2 _ rfl⟩
theorem Aju (x:Done) (l:Int) (w:World) (hl:0<=l) (hl':l<=1048576) (hs:x.nm.size<=maxLen) :
  Calls Tryz.prog 56 #[.agg #[.string x.nm,.int .i64 x.e,.int .i64 x.t],.int .i64 l] w λe' w'=>(∃y:Int,e'=.returned (.int .i64 y)/\y<=l/\-1<=y)/\Below w.heap.size w w':=by
 unfold maxLen at *;go_enter Tryz.func56,Tryz.ntmps56
 go_wp2
 all_goals
  go_ret
  exact⟨⟨_,rfl,by omega,by omega⟩,(A4 _ _).alloc (A3 _) _⟩
theorem AhC (ls:List Done) (v:Value) (l:Int) (w:World) (hl:0<=l) (hl':l<=1048576) (h:Dns w v ls) :
  Calls Tryz.prog 21 #[v,.int .i64 l] w
   λe' w'=>(∃x:Int,e'=.returned (.int .i64 x)/\(0<=x->(ls.length:Int)<=l)/\x<=1048576)/\Below w.heap.size w w':=by
 obtain⟨a,c,rfl,hn,hpos⟩:=h;unfold maxLen at hn;by_cases h0:l-ls.length<0
 ·go_enter Tryz.func21,Tryz.ntmps21
  go_wp2
  go_ret
  exact⟨⟨_,rfl,by omega,by omega⟩,A4 _ _⟩
 have H0:Hid ((ls.length:Int)<=l):=by show _<=_;omega
 go_enter Tryz.func21,Tryz.ntmps21
 go_wp2
 go_loopw [1,5] (λx i w'=>∃(k:Nat) (y:Int),k<=ls.length/\i=.int .i64 k/\x=.int .i64 y/\0<=y/\y<=1048576/\Below w.heap.size w w') (λ_ i _=>ls.length-(intOf i).toNat)
 case atStart=>exact⟨0,_,by omega,rfl,rfl,by omega,by omega,A4 _ _⟩
 case round =>
  obtain⟨k,y,hk,rfl,rfl,hy,hy',hB⟩:=hrel;by_cases hp:k<ls.length
  ·obtain⟨b,o,ha,hr,hb⟩:=hpos (by omega)
   subst ha;obtain⟨c0,c1,c2⟩:=hr.cells k hp;have z0:=(hr k _ (A0 hp)).2;obtain⟨hc,hf⟩:=E2 hB;generalize ls[k]=s0 at *;go_wp2_with fail
   refine (Aju s0 _ _ hy hy' z0).mono ?_;rintro e' w1 ⟨⟨x,rfl,hx1,-⟩,hb1⟩;have hB1:=D5 hB hb1;by_cases hx:x<0
   ·go_wp2_with fail
    go_ret
    exact⟨⟨_,rfl,by omega,by omega⟩,hB1⟩
   ·go_wp2_with fail
    go_roundw
    case rel=>exact⟨k+1,x,by omega,by go_num,rfl,by omega,by omega,hB1⟩
    case measure=>simp[intOf];omega
  ·go_wp2_with fail
   go_ret
   exact⟨⟨_,rfl,λ_=>H0.out,hy'⟩,hB⟩
theorem Ajv (x:Done) (w:World):Calls Tryz.prog 79 #[.agg #[.string x.nm,.int .i64 x.e,.int .i64 x.t]] w λe' w'=>e'=.returned (.agg #[.string x.nm,.int .i64 x.e,.int .i64 x.t])/\Below w.heap.size w w':=by
 go_enter Tryz.func79,Tryz.ntmps79
 go_wp2
 go_returns
 exact⟨rfl,by go_grown⟩
theorem Ajw (x:Done) (w:World):Calls Tryz.prog 90 #[.agg #[.string x.nm,.int .i64 x.e,.int .i64 x.t],.agg #[.string x.nm,.int .i64 x.e,.int .i64 x.t]] w λe w'=>e=.returned (.bool true)/\Below w.heap.size w w':=by
 go_enter Tryz.func90,Tryz.ntmps90
 go_wp2
 go_ret
 exact⟨rfl,by go_grown⟩
theorem Amm:(Tryz.prog.info? 124).map (λi=>(i.zero,i.size,i.bytes))=some (some (.agg #[.string ⟨#[]⟩,.int .i64 0,.int .i64 0]),3,32):=by kernel_rfl
theorem Amn:(Tryz.prog.info? 124).map (·.size)=some 3:=by kernel_rfl
theorem Af1 (n:Nat) (hn:n<=1048576):∃C:Array Value,C.size=n*3/\∀w,(Instr.makeSlice 39 (.int .i64 (n:Int)) (.int .i64 (n:Int))).run Tryz.prog w=.ok (.slice (some ⟨w.heap.size,0,none⟩) n n) (w.alloc (.cells C 124)):=by
 obtain⟨i,hi,hz⟩:=B4.1 Amm;simp only[Prod.mk.injEq] at hz;obtain⟨hz,hs,hb⟩:=hz;refine⟨madeCells (Value.agg #[.string ⟨#[]⟩,.int .i64 0,.int .i64 0]).cells (n*3),size_madeCells _ _,λw=>?_⟩;have:=run_make (P:=Tryz.prog) w 39 124 i _ Tryz.underlying39 hi hz .i64 .i64 (n:Int) (n:Int) (by omega) (by omega) (by rw[hb];omega) (by omega);simp only[Int.toNat_natCast,hs] at this;exact this
def DnR (w:World) (b:Nat) (l:List Done):Prop:=∀(i:Nat) (x:Done),l[i]?=some x->w.rangeAt b (i*3) x.cellsL
theorem AkY {w1:World} {b k:Nat} {l:List Done} (hk:k<l.length) (h:DnR w1 b (l.take k)) (ht:w1.there b 0 (l.length*3)):DnR (w1.setCells b (k*3) (l[k]).cellsL) b (l.take (k+1)):=by
 intro i p hp;by_cases hi:i<k
 ·refine World.rangeAt_setCells_apart (h i p ?_) b (k*3) _ (.inr (.inl ?_))
  ·rw[List.getElem?_take] at hp ⊢;rw[if_pos (by omega)] at hp;rw[if_pos hi];exact hp
  ·simp[Done.cellsL];omega
 ·have hik:i=k:=by
   rw[List.getElem?_take] at hp;split at hp
   ·omega
   ·cases hp
  subst hik;rw[List.getElem?_take,if_pos (by omega),A0 hk] at hp;obtain rfl:=A5 hp;refine World.rangeAt_setCells_same _ _ _ _ (λj hj=>?_);have:=ht (i*3+j) (by simp[Done.cellsL] at hj;omega);simpa using this
theorem DnR.up {w w':World} {b B:Nat} {l:List Done} (h:DnR w b l) (hb:Below B w w') (hB:b<B):DnR w' b l:=λi x hx=>AaQ (h i x hx) hb hB
theorem AhD (l:List Done) (v:Value) (w:World) (h:Dns w v l) (hn:l.length<=1048576) :
  Calls Tryz.prog 35 #[v] w λe w'=>(∃b,e=.returned (.slice (some ⟨b,0,none⟩) l.length l.length)/\Dns w' (.slice (some ⟨b,0,none⟩) l.length l.length) l/\w.heap.size<=b/\b<w'.heap.size/\w'.there b 0 (l.length*3))/\Below w.heap.size w w':=by
 have Hz:Hid (∀x∈l,x.nm.size<=maxLen):=λx hx=>by
  obtain⟨i,hi,rfl⟩:=B5 hx;obtain⟨_,_,_,_,hpos⟩:=h;obtain⟨b,o,-,hr,-⟩:=hpos (by omega);exact (hr i _ (A0 hi)).2
 obtain⟨a,c,rfl,hmax,hpos⟩:=h;have Hmax:Hid (l.length<=maxLen):=hmax;clear hmax;obtain⟨C,hC,hmk⟩:=Af1 l.length hn;have HC:Hid (C.size=l.length*3):=hC;clear hC;go_enter Tryz.func35,Tryz.ntmps35
 go_wp2
 go_loopw [4] (λi w'=>∃k:Nat,k<=l.length/\i=.int .i64 k/\DnR w' w.heap.size (l.take k)/\w'.there w.heap.size 0 (l.length*3)/\w.heap.size<w'.heap.size/\Below w.heap.size w w') (λi _=>l.length-(intOf i).toNat)
 case atStart=>exact⟨0,by omega,rfl,λi p hp=>by simp at hp,by rw[← HC.out];exact S2 _ _ _,by simp,by go_grown⟩
 case round =>
  obtain⟨k,hk,rfl,hra,hth,hlt,hB⟩:=hrel;have Hra:Hid (DnR wr w.heap.size (l.take k)):=hra;have Hth:Hid (wr.there w.heap.size 0 (l.length*3)):=hth;clear hra hth;by_cases hp:k<l.length
  ·obtain⟨b,o,ha,hr,hb⟩:=hpos (by omega)
   subst ha;obtain⟨c0,c1,c2⟩:=hr.cells k hp;obtain⟨hc,hf⟩:=E2 hB;have Hst:Hid (∀w1,Below wr.heap.size wr w1->DnR (w1.setCells w.heap.size (k*3) (l[k]).cellsL) w.heap.size (l.take (k+1))):=λw1 hb1=>AkY hp (Hra.out.up hb1 hlt) (I3 Hth.out hb1 hlt);generalize l[k]=s0 at *;go_wp2_with fail
   refine (Ajv s0 _).mono ?_;rintro e' w1 ⟨rfl,hb1⟩;clear hc hf c0 c1 c2
   go_wp2_with (refine wpList_store_mid rfl 124 _ _ rfl w.heap.size (k*3) _ rfl rfl (λj hj=>by
     have:=I3 Hth.out hb1 hlt (k*3+j) (by simp at hj;omega);simpa using this) Amn (by simp[Value.oneCell']) ?_)
   go_roundw
   case rel=>exact⟨k+1,by omega,by go_num,Hst.out w1 hb1,World.there_setCells (I3 Hth.out hb1 hlt) _ _ _,A1 (A1 hlt hb1.size) (R8 _ _ _ _),M0 _ _ _ _ _ _ (D5 hB hb1) (A3 _)⟩
   case measure=>simp[intOf];omega
  ·have HD:Hid (DnR wr w.heap.size l):=by have:=Hra.out;rwa [D2 (by omega)] at this
   go_wp2_with fail
   go_ret
   exact⟨⟨_,rfl,⟨_,_,rfl,Hmax.out,λ_=>⟨w.heap.size,0,rfl,λi x hx=>⟨by rw[Nat.zero_add];exact HD.out i x hx,Hz.out x (A6 hx)⟩,hlt⟩⟩,A3 _,hlt,Hth.out⟩,hB⟩
theorem AhE (l:List Done) (va vb:Value) (w:World) (ha:Dns w va l) (hb:Dns w vb l) :
  Calls Tryz.prog 43 #[va,vb] w λe w'=>e=.returned (.bool true)/\Below w.heap.size w w':=by
 obtain⟨a1,k1,rfl,hmax,hp1⟩:=ha;obtain⟨a2,k2,rfl,-,hp2⟩:=hb;unfold maxLen at hmax;go_enter Tryz.func43,Tryz.ntmps43
 go_wp2
 go_loopw [5] (λi w'=>∃k:Nat,k<=l.length/\i=.int .i64 k/\Below w.heap.size w w') (λi _=>l.length-(intOf i).toNat)
 case atStart=>exact⟨0,by omega,rfl,A4 _ _⟩
 case round =>
  obtain⟨k,hk,rfl,hB⟩:=hrel;by_cases hp:k<l.length
  ·obtain⟨b1,o1,e1,hr1,hb1⟩:=hp1 (by omega)
   obtain⟨b2,o2,e2,hr2,hb2⟩:=hp2 (by omega);subst e1 e2;obtain⟨c0,c1,c2⟩:=hr1.cells k hp;obtain⟨d0,d1,d2⟩:=hr2.cells k hp;obtain⟨hc,hf⟩:=E2 hB;generalize l[k]=s0 at *;go_wp2_with fail
   go_region_with (go_at_call 90;refine (Ajw s0 _).mono ?_;rintro e w1 ⟨rfl,hbx⟩)
   all_goals
    have hB1:=D5 hB.drew hbx;clear hc hf c0 c1 c2 d0 d1 d2;go_wp2_with fail
    go_roundw
    case rel=>exact⟨k+1,by omega,by go_num,hB1⟩
    case measure=>simp[intOf];omega
  ·go_wp2_with fail
   go_ret
   exact⟨rfl,hB⟩
def RsAt (w:World) (b o:Nat) (bs:List Rb):Prop:=∀(i:Nat) (x:Rb),bs[i]?=some x->∃rv sv,w.rangeAt b (o+i*6) [.string x.nm,rv,sv,.string x.ad,.int .i64 x.si,.int .i64 x.st]/\RbSrc w x rv sv
def RsSrc (w:World) (v:Value) (bs:List Rb):Prop:=∃a c,v=.slice a bs.length c/\bs.length<=maxLen/\(0<bs.length->∃b o,a=some ⟨b,o,none⟩/\RsAt w b o bs/\b<w.heap.size)
theorem RsAt.up {w w':World} {b o:Nat} {bs:List Rb} (h:RsAt w b o bs) (hb:Below w.heap.size w w') (hB:b<w.heap.size):RsAt w' b o bs:=λi x hx=>by
 obtain⟨rv,sv,h1,h2⟩:=h i x hx;exact⟨rv,sv,AaQ h1 hb hB,h2.up hb⟩
theorem RsSrc.up {w w':World} {v:Value} {bs:List Rb} (h:RsSrc w v bs) (hb:Below w.heap.size w w'):RsSrc w' v bs:=by
 obtain⟨a,c,rfl,h1,h2⟩:=h;exact⟨a,c,rfl,h1,λhp=>by obtain⟨b,o,e,hr,hlt⟩:=h2 hp;exact⟨b,o,e,hr.up hb hlt,A1 hlt hb.size⟩⟩
theorem RsAt.open {w:World} {b o:Nat} {bs:List Rb} (h:RsAt w b o bs) {k:Nat} (hk:k<bs.length):∃a1 c1 a2 c2,(w.cell? ⟨b,o+k*6,none⟩=some (.string (bs[k]).nm)/\w.cell? ⟨b,o+k*6+1,none⟩=some (.slice a1 (bs[k]).ps.length c1)/\w.cell? ⟨b,o+k*6+2,none⟩=some (.slice a2 (bs[k]).sl.length c2)/\w.cell? ⟨b,o+k*6+3,none⟩=some (.string (bs[k]).ad)/\w.cell? ⟨b,o+k*6+4,none⟩=some (.int .i64 (bs[k]).si)/\w.cell? ⟨b,o+k*6+5,none⟩=some (.int .i64 (bs[k]).st))/\RbSrc w bs[k] (.slice a1 (bs[k]).ps.length c1) (.slice a2 (bs[k]).sl.length c2):=by
 obtain⟨rv,sv,hr,hv⟩:=h k _ (A0 hk);obtain⟨a1,c1,rfl⟩:=hv.r.shape;obtain⟨a2,c2,rfl⟩:=hv.s.shape;exact⟨a1,c1,a2,c2,⟨hr 0 _ rfl,hr 1 _ rfl,hr 2 _ rfl,hr 3 _ rfl,hr 4 _ rfl,hr 5 _ rfl⟩,hv⟩
def RsSmall (bs:List Rb) (k:Nat):Prop:=∀(i:Nat) (x:Rb),i<k->bs[i]?=some x->x.ps.length<=1048576/\x.sl.length<=1048576
theorem AkZ (bs:List Rb) (v:Value) (l:Int) (w:World) (hl:0<=l) (hl':l<=1048576) (h:RsSrc w v bs) :
  Calls Tryz.prog 20 #[v,.int .i64 l] w
   λe' w'=>(∃x:Int,e'=.returned (.int .i64 x)/\(0<=x->(bs.length:Int)<=l/\RsSmall bs bs.length)/\x<=1048576)/\Below w.heap.size w w':=by
 obtain⟨a,c,rfl,hn,hpos⟩:=h;unfold maxLen at hn;by_cases h0:l-bs.length<0
 ·go_enter Tryz.func20,Tryz.ntmps20
  go_wp2
  go_ret
  exact⟨⟨_,rfl,by omega,by omega⟩,A4 _ _⟩
 have H0:Hid ((bs.length:Int)<=l):=by show _<=_;omega
 go_enter Tryz.func20,Tryz.ntmps20
 go_wp2
 go_loopw [1,5] (λx i w'=>∃(k:Nat) (y:Int),k<=bs.length/\i=.int .i64 k/\x=.int .i64 y/\0<=y/\y<=1048576/\RsSmall bs k/\Below w.heap.size w w') (λ_ i _=>bs.length-(intOf i).toNat)
 case atStart=>exact⟨0,_,by omega,rfl,rfl,by omega,by omega,λi x hi=>by omega,A4 _ _⟩
 case round =>
  obtain⟨k,y,hk,rfl,rfl,hy,hy',hsm,hB⟩:=hrel;have Hsm:Hid (RsSmall bs k):=hsm;clear hsm;by_cases hp:k<bs.length
  ·obtain⟨b,o,ha,hr,hb⟩:=hpos (by omega)
   subst ha;obtain⟨a1,c1,a2,c2,⟨e0,e1,e2,e3,e4,e5⟩,hv⟩:=(hr.up hB hb).open hp;have YES:Hid ((bs[k]).ps.length<=1048576/\(bs[k]).sl.length<=1048576->RsSmall bs (k+1)):=λhy=>Y7 (P:=λ_ (x:Rb)=>x.ps.length<=1048576/\x.sl.length<=1048576) Hsm.out hp hy;generalize bs[k]=x0 at *;clear hr;go_wp2_with fail
   refine (Amf x0 _ _ _ hv _ hy hy').mono ?_;rintro e' w1 ⟨⟨x,rfl,hx1,hx2⟩,hb1⟩;have hB1:=D5 hB hb1;clear e0 e1 e2 e3 e4 e5;by_cases hx:x<0
   ·go_wp2_with fail
    go_ret
    exact⟨⟨_,rfl,by omega,by omega⟩,hB1⟩
   ·have HY:Hid (RsSmall bs (k+1)):=YES.out ⟨(hx1 (by omega)).1,(hx1 (by omega)).2.1⟩
    clear hx1;go_wp2_with fail
    go_roundw
    case rel=>exact⟨k+1,x,by omega,by go_num,rfl,by omega,by omega,HY.out,hB1⟩
    case measure=>simp[intOf];omega
  ·have HY:Hid (RsSmall bs bs.length):=by
    have:=Hsm.out;rwa [show k=bs.length by omega] at this
   go_wp2_with fail
   go_ret
   exact⟨⟨_,rfl,λ_=>⟨H0.out,HY.out⟩,hy'⟩,hB⟩
theorem Aiv:(Tryz.prog.info? 73).map (λi=>(i.zero,i.size,i.bytes))=some (some (.agg #[.string ⟨#[]⟩,.int .i64 0,.string ⟨#[]⟩,.string ⟨#[]⟩,.int .i64 0,.int .i64 0,.string ⟨#[]⟩,.string ⟨#[]⟩]),8,104):=by kernel_rfl
theorem Aiw:(Tryz.prog.info? 81).map (λi=>(i.zero,i.size,i.bytes))=some (some (.agg #[.string ⟨#[]⟩,.string ⟨#[]⟩]),2,32):=by kernel_rfl
theorem AcZ:(Tryz.prog.info? 71).map (λi=>(i.zero,i.size,i.bytes))=some (some (.agg #[.string ⟨#[]⟩,.slice none 0 0,.slice none 0 0,.string ⟨#[]⟩,.int .i64 0,.int .i64 0]),6,96):=by kernel_rfl
theorem Aix:(Tryz.prog.info? 124).map (λi=>(i.zero,i.size,i.bytes))=some (some (.agg #[.string ⟨#[]⟩,.int .i64 0,.int .i64 0]),3,32):=by kernel_rfl
theorem Ada:(Tryz.prog.info? 71).map (·.size)=some 6:=by kernel_rfl
theorem oneP (ps:List Ph):∀u∈rowsF Ph.cells ps,u.oneCell'=true:=AcK ps λa _ u hu=>by
 simp only[Ph.cells,List.mem_cons,List.not_mem_nil,or_false] at hu;rcases hu with rfl|rfl|rfl|rfl|rfl|rfl|rfl|rfl<;>rfl
theorem oneSl (ps:List Sl):∀u∈rowsF Sl.cells ps,u.oneCell'=true:=AcK ps λa _ u hu=>by
 simp only[Sl.cells,List.mem_cons,List.not_mem_nil,or_false] at hu;rcases hu with rfl|rfl<;>rfl
theorem AaB (ps:List Done):∀u∈rowsF Done.cells ps,u.oneCell'=true:=AcK ps λa _ u hu=>by
 simp only[Done.cells,List.mem_cons,List.not_mem_nil,or_false] at hu;rcases hu with rfl|rfl|rfl<;>rfl
theorem AdI (w:World) (e k:Nat):(w.alloc (.cells #[] e)).ownsRow w.heap.size e k (.slice (some ⟨w.heap.size,0,none⟩) 0 0) 0 []:=B8 w #[] 0 (A3 _) (by unfold maxLen;omega) (by simp)
theorem L0 (w:World) (b:Nat) (x0 x1 x2 x3 x4 x5:Value):w.grownBy ((((((w.setCell ⟨b,0,none⟩ x0).setCell ⟨b,1,none⟩ x1).setCell ⟨b,2,none⟩ x2).setCell ⟨b,3,none⟩ x3).setCell ⟨b,4,none⟩ x4).setCell ⟨b,5,none⟩ x5) (some b) :=
 D9 (rb:=b) (D9 (rb:=b) (D9 (rb:=b) (D9 (rb:=b) (D9 (rb:=b) (D9 (rb:=b) (E1 w _) _) _) _) _) _) _
theorem Aeu (x:Rb) (rv sv:Value) (w:World) (H:RbV w x rv sv) :
  Calls Tryz.prog 29 #[.agg #[.string x.nm,rv,sv,.string x.ad,.int .i64 x.si,.int .i64 x.st]] w λe w'=>(∃ru su,e=.returned (.agg #[.string x.nm,ru,su,.string x.ad,.int .i64 x.si,.int .i64 x.st])/\RcW w' w.heap.size (x,ru,su))/\Below w.heap.size w w':=by
 obtain⟨b,o,c,rfl,hr,hb,-,-⟩:=H.r;obtain⟨g,q,d,rfl,hs,hg⟩:=H.s;have hnp:=H.np;have hns:=H.ns;obtain⟨ip,hip,p0,p1,p2⟩:=info_parts Aiv;obtain⟨is,his,s0,s1,s2⟩:=info_parts Aiw;obtain⟨W1,hW1,kA,kR,hB1,hs1⟩:=L8 w [.string x.nm,.slice (some ⟨b,o,none⟩) x.ps.length c,.slice (some ⟨g,q,none⟩) x.sl.length d,.string x.ad,.int .i64 x.si,.int .i64 x.st] 71 [.string ⟨#[]⟩,.slice none 0 0,.slice none 0 0,.string ⟨#[]⟩,.int .i64 0,.int .i64 0] 71;go_enter Tryz.func29,Tryz.ntmps29
 go_upto_region 1 with fail
 try rw[hW1]
 clear hW1;have hr1:=hr.up hB1 hb;have hs9:=hs.up hB1 hg;have hA0:w.heap.size<W1.heap.size:=by omega
 have hR0:w.heap.size+1<W1.heap.size:=by omega
 have hb0:b<W1.heap.size:=by omega
 have hg0:g<W1.heap.size:=by omega
 have Hs1:Hid (W1.heap.size=w.heap.size+2):=hs1;clear hs1;obtain⟨W2,hW2,ho2,hb2⟩:∃W2,W1.alloc (.cells #[] 73)=W2/\W2.ownsRow W1.heap.size 73 8 (.slice (some ⟨W1.heap.size,0,none⟩) 0 0) 0 []/\Below W1.heap.size W1 W2:=⟨_,rfl,AdI _ _ _,(A4 _ _).alloc (A3 _) _⟩;have kA2:=kA.up hb2 hA0;obtain⟨e0,e1,e2,e3,e4,e5⟩:=kA2.c6;have hn2:=Y8 (f:=Ph.cells) (by decide) G5 (hr1.up hb2 hb0);go_wp2_with (at_builtin;(try rw[hW2]);refine M9 _ rfl _ _ 45 rfl W1.heap.size 73 ip _ 8 104 Tryz.underlying45 hip p0 p1 p2 rfl (by decide) _ 0 [] rfl ho2 (some ⟨b,o,none⟩) x.ps.length c (rowsF Ph.cells x.ps) rfl (I6 G5 _) (λ_=>⟨_,rfl,hn2⟩) (oneP _) (by unfold maxLen;omega) (by omega) hb2.size ?_)
 intro v1 w1 hown1 hgr1 hnn1;have ho3:w1.ownsRow W1.heap.size 73 8 v1 x.ps.length (rowsF Ph.cells x.ps):=by simpa using hown1
 have hnn:=hnn1 ⟨_,_,_,rfl⟩;have hB2:Below W1.heap.size W1 w1:=F5 hb2 hb2.size ho2 hgr1 (A3 _);have kA3:=kA.up hB2 hA0;have kR3:=kR.up hB2 hR0;clear hown1 hgr1 hnn1 ho2 hn2 e0 e1 e2 e3 e4 e5 kA2 kA kR hW2 hb2;obtain⟨e0,e1,e2,e3,e4,e5⟩:=kA3.c6;obtain⟨f0,f1,f2,f3,f4,f5⟩:=kA3.f6;obtain⟨g1,n1,m1,rfl⟩:=hnn;go_upto_region 2 with fail
 obtain⟨W3,hW3,kA4,kR4,ho4,hB3⟩:∃W3,w1.setCell ⟨w.heap.size,1,none⟩ (.slice (some ⟨g1,0,none⟩) n1 m1)=W3/\CB W3 w.heap.size [.string x.nm,.slice (some ⟨g1,0,none⟩) n1 m1,.slice (some ⟨g,q,none⟩) x.sl.length d,.string x.ad,.int .i64 x.si,.int .i64 x.st]/\CB W3 (w.heap.size+1) [.string ⟨#[]⟩,.slice none 0 0,.slice none 0 0,.string ⟨#[]⟩,.int .i64 0,.int .i64 0]/\W3.ownsRow W1.heap.size 73 8 (.slice (some ⟨g1,0,none⟩) n1 m1) x.ps.length (rowsF Ph.cells x.ps)/\Below w.heap.size w W3 :=
  ⟨_,rfl,kA3.set (j:=1) (by simp),kR3.other (by omega),E6 ho3 (D9 (E1 _ _) _) hA0,(hB1.trans (hB2.mono (by omega))).setCell (p:=⟨w.heap.size,1,none⟩) (A3 _) _⟩
 try rw[hW3]
 have hz3:W1.heap.size<=W3.heap.size:=by rw[← hW3];have:=hB2.size;simpa using this
 clear hW3 e0 e1 e2 e3 e4 e5 f0 f1 f2 f3 f4 f5 kA3 kR3 ho3 hB2;obtain⟨W4,hW4,ho5,hb4⟩:∃W4,W3.alloc (.cells #[] 81)=W4/\W4.ownsRow W3.heap.size 81 2 (.slice (some ⟨W3.heap.size,0,none⟩) 0 0) 0 []/\Below W3.heap.size W3 W4:=⟨_,rfl,AdI _ _ _,(A4 _ _).alloc (A3 _) _⟩;have hn5:=Y8 (f:=Sl.cells) (by decide) M8 ((hs.up hB3 hg).up hb4 (by omega));have kA5:=kA4.up hb4 (by omega);obtain⟨e0,e1,e2,e3,e4,e5⟩:=kA5.c6;go_wp2_with (at_builtin;(try rw[hW4]);refine M9 _ rfl _ _ 47 rfl W3.heap.size 81 is _ 2 32 Tryz.underlying47 his s0 s1 s2 rfl (by decide) _ 0 [] rfl ho5 (some ⟨g,q,none⟩) x.sl.length d (rowsF Sl.cells x.sl) rfl (I6 M8 _) (λ_=>⟨_,rfl,hn5⟩) (oneSl _) (by unfold maxLen;omega) (by omega) hb4.size ?_)
 intro v2 w2 hown2 hgr2 hnn2;have ho6:w2.ownsRow W3.heap.size 81 2 v2 x.sl.length (rowsF Sl.cells x.sl):=by simpa using hown2
 have hnn:=hnn2 ⟨_,_,_,rfl⟩;have hB4:Below W3.heap.size W3 w2:=F5 hb4 hb4.size ho5 hgr2 (A3 _);have kA6:=kA4.up hB4 (by omega);have kR6:=kR4.up hB4 (by omega);have ho7:=E0 ho4 hB4;clear hown2 hgr2 hnn2 ho5 hn5 e0 e1 e2 e3 e4 e5 kA5 kA4 kR4 hW4 hb4 ho4;obtain⟨e0,e1,e2,e3,e4,e5⟩:=kA6.c6;obtain⟨f0,f1,f2,f3,f4,f5⟩:=kA6.f6;obtain⟨g2,n2,m2,rfl⟩:=hnn;go_upto_region 3 with fail
 obtain⟨W5,hW5,kA8,kR8,ho8,ho9,hB5⟩:∃W5,w2.setCell ⟨w.heap.size,2,none⟩ (.slice (some ⟨g2,0,none⟩) n2 m2)=W5/\CB W5 w.heap.size [.string x.nm,.slice (some ⟨g1,0,none⟩) n1 m1,.slice (some ⟨g2,0,none⟩) n2 m2,.string x.ad,.int .i64 x.si,.int .i64 x.st]/\CB W5 (w.heap.size+1) [.string ⟨#[]⟩,.slice none 0 0,.slice none 0 0,.string ⟨#[]⟩,.int .i64 0,.int .i64 0]/\W5.ownsRow W1.heap.size 73 8 (.slice (some ⟨g1,0,none⟩) n1 m1) x.ps.length (rowsF Ph.cells x.ps)/\W5.ownsRow W3.heap.size 81 2 (.slice (some ⟨g2,0,none⟩) n2 m2) x.sl.length (rowsF Sl.cells x.sl)/\Below w.heap.size w W5 :=
  ⟨_,rfl,kA6.set (j:=2) (by simp),kR6.other (by omega),E6 ho7 (D9 (E1 _ _) _) hA0,E6 ho6 (D9 (E1 _ _) _) (by omega),(hB3.trans (hB4.mono (by omega))).setCell (p:=⟨w.heap.size,2,none⟩) (A3 _) _⟩
 try rw[hW5]
 clear hW5 e0 e1 e2 e3 e4 e5 f0 f1 f2 f3 f4 f5 kA6 kR6 ho6 ho7 hB4;obtain⟨e0,e1,e2,e3,e4,e5⟩:=kA8.c6;obtain⟨y0,y1,y2,y3,y4,y5⟩:=kR8.c6;obtain⟨f0,f1,f2,f3,f4,f5⟩:=kR8.f6;go_wp2_with fail
 refine Aaq Tryz.results29 Tryz.underlying71 rfl Ada kR8 rfl ?_;refine⟨⟨_,_,rfl,?_,?_,⟨_,_,_,rfl⟩,⟨_,_,_,rfl⟩,H.zp,H.zs,H.zn,H.np,H.ns⟩,J2 hB5 (by omega) _ _ _ _ _ _⟩
 ·exact F9 (E6 ho8 (L0 _ _ _ _ _ _ _ _) hR0) (by omega)
 ·exact F9 (E6 ho9 (L0 _ _ _ _ _ _ _ _) (by omega)) (by omega)
theorem Amo {m:Int} {bs:List Ba} {k:Nat} {ps:List Bv} (h:ps.map (·.1)=curB m bs k) (hk:k<bs.length):∃hv nv,ps[k]?=some (bs[k],hv,nv):=by
 have h1:(ps.map (·.1))[k]?=some bs[k]:=by rw[h,Anc m bs k (Nat.le_of_lt hk),A0 hk]
 rw[B0] at h1;obtain⟨p,hp,e⟩:=B4.1 h1;exact⟨p.2.1,p.2.2,by rw[hp,← e]⟩
theorem Ala (ps:List Bv) (k:Nat) (a b:Bv):(ps.set k a).set k b=ps.set k b:=by simp
theorem Alb (t:Value×List ByteArray) (bs:List Ba) (base:Nat) (v:Value) (qs:List Bv) (m:Int) (w:World) (hrow:w.ownsRow base 118 3 v bs.length (rowsB qs)) (hq:qs.map (·.1)=bs) (G:Nat) (hG:G<w.heap.size) (hvG:∀g,v.ownBlock=some g->some g≠some G) (hF:Fam w base (some G) (t::famB qs)) (hz:base<=w.heap.size)
  (hn:bs.length<=100) (hs:∀x∈bs,x.has.length<=100/\x.needs.length<=100) (hm:1<=m) (hm9:m<=1000) :
  Calls Tryz.prog 92 #[v,.int .i64 m] w λe w'=>e=.returned (.int .i64 (m+szBas bs))/\(∃ps:List Bv,w'.ownsRow base 118 3 v bs.length (rowsB ps)/\ps.map (·.1)=mkBas m bs/\Fam w' base (some G) (t::famB ps))/\Below base w w'/\w'.heap[G]?=w.heap[G]?/\KpT [9,118] w w':=by
 rcases C3 bs.length with h0|h0
 ·obtain rfl:bs=[]:=C4.1 h0
  obtain rfl:qs=[]:=by simpa using hq
  obtain⟨a,c,rfl⟩:=E9 hrow;have HR:Hid (w.ownsRow base 118 3 (.slice a 0 c) 0 []):=hrow;have HF:Hid (Fam w base (some G) [t]):=hF;clear hrow hF hq;simp only[List.length_nil];go_enter Tryz.func92,Tryz.ntmps92
  go_wp2
  go_rounds 1
  go_ret
  exact⟨by simp[szBas],⟨[],HR.out,rfl,HF.out⟩,A4 _ _,rfl,KpT.refl _ _⟩
 obtain⟨g,cap,rfl⟩:=F2 hrow h0;have hgb:=(hrow.lt g rfl).1;have hgG:g≠G:=λe=>hvG g rfl (by rw[e]);have Hq:Hid (qs.map (·.1)=curB m bs 0):=by show _=_;rw[AkK];exact hq
 clear hq;go_enter Tryz.func92,Tryz.ntmps92
 go_wp2
 go_loopw [1,5] (λkk i w'=>∃(k:Nat) (ps:List Bv) (y:Int),k<=bs.length/\i=.int .i64 k/\kk=.int .i64 y/\y=m+szBas (bs.take k)/\1<=y/\y<=1000+201*(k:Int)/\ps.map (·.1)=curB m bs k/\w'.ownsRow base 118 3 (.slice (some ⟨g,0,none⟩) bs.length cap) bs.length (rowsB ps)/\Fam w' base (some G) (t::famB ps)/\Below base w w'/\w'.heap[G]?=w.heap[G]?/\KpT [9,118] w w') (λ_ i _=>bs.length-(intOf i).toNat)
 case atStart=>exact⟨0,qs,m,by omega,rfl,rfl,by simp[szBas],hm,by omega,Hq.out,hrow,hF,A4 _ _,rfl,KpT.refl _ _⟩
 case round =>
  clear hrow hF Hq;obtain⟨k,ps,y,hk,rfl,rfl,hy,hy1,hy9,hps,hrow,hF,hB,hK,hP⟩:=hrel;have HP0:Hid (KpT [9,118] w wr):=hP;clear hP;have HK:Hid (wr.heap[G]?=w.heap[G]?):=hK;clear hK;have Hps:Hid (ps.map (·.1)=curB m bs k):=hps;have Hy:Hid (y=m+szBas (bs.take k)):=hy;clear hps hy;by_cases hp:k<bs.length
  ·obtain⟨s1,s2⟩:=hs bs[k] (by simp)
   obtain⟨hv,nv,hpk⟩:=Amo Hps.out hp
   have hpl:ps.length=bs.length:=by
    have:=congrArg List.length Hps.out;rw[B3,curB,A9,L7,B6,A8] at this;omega
   have Hstep:Hid ((ps.set k ((mkBa y bs[k],hv,nv):Bv)).map (·.1)=curB m bs (k+1)):=by
    show _=_
    rw[List.map_set,Hps.out,AkL m bs k hp,← Hy.out]
   have Hsz:Hid (m+(szBas (bs.take (k+1)):Int)=y+szBa bs[k]):=by
    show _=_
    rw[A7 hp,Aci,Hy.out];omega
   have Hpk:Hid (ps[k]?=some (bs[k],hv,nv)):=hpk;have Hpl:Hid (ps.length=bs.length):=hpl;have hsz:=hB.size;generalize bs[k]=x0 at *;clear hpk hpl;go_wp2_with fail
   refine (F8 y wr (by omega)).mono ?_;rintro e w1 ⟨rfl,hB1⟩;have hz1:=hB1.size;have HK1:Hid (w1.heap[G]?=w.heap[G]?):=(hB1.block G (by omega)).trans HK.out;have HP1:Hid (KpT [9,118] w w1):=HP0.out.up hB1;have hrow1:=E0 hrow hB1;have hF1:=hF.up hB1;have hBB1:Below base w w1:=hB.trans (hB1.mono (by omega));have c0:=hrow1.cellAt (k*3) (by omega);rw[show (rowsB ps)[k*3]?=some (Value.string x0.nm) from M4 ps k _ Hpk.out 0 _ rfl] at c0;have f0:=hrow1.frozenAt (k*3);have st:=hrow1.stored (k*3) (.string (mkB y));have hrow2:=st.1;rw[Ag6 ps k _ (mkB y) Hpk.out] at hrow2;have hF2:=hF1.row hrow1 st.2;have HK2:Hid ((w1.setCell ⟨g,k*3,none⟩ (.string (mkB y))).heap[G]?=w.heap[G]?):=(st.2.block G (by omega) (by simp;omega)).trans HK1.out;have hB2:Below base w (w1.setCell ⟨g,k*3,none⟩ (.string (mkB y))):=F5 hBB1 (by omega) hrow1 st.2 (A3 _);have HP2:Hid (KpT [9,118] w (w1.setCell ⟨g,k*3,none⟩ (.string (mkB y)))):=HP1.out.gr hrow1 (by decide) st.2;have hz2:(w1.setCell ⟨g,k*3,none⟩ (.string (mkB y))).heap.size=w1.heap.size:=by simp
   have Hmb:Hid (mkBa y x0=⟨mkB y,mkL (y+1) x0.has.length,mkL (y+1+x0.has.length) x0.needs.length⟩):=rfl;clear hrow hF hB hB1 hrow1 hF1 hBB1 st;generalize mkB y=mb at *;go_upto_region 6 with fail
   clear c0 f0;generalize w1.setCell ⟨g,k*3,none⟩ (.string mb)=W2 at *;have Hp2:Hid ((ps.set k ((⟨mb,x0.has,x0.needs⟩,hv,nv):Bv))[k]?=some (⟨mb,x0.has,x0.needs⟩,hv,nv)):=C9 (by rw[Hpl.out];exact hp);have hF3:=hF2.front Hpk.out;have hoh:=hF3.own _ List.mem_cons_self;obtain⟨ah,ch,hhv⟩:=hoh.lst.shape;have hon:=hF3.own _ (C7 _ List.mem_cons_self);obtain⟨an,cn,hnv⟩:=hon.lst.shape;simp only at hhv hnv;subst hhv hnv;have c1:=hrow2.cellAt (k*3+1) (by omega);rw[M4 _ k _ Hp2.out 1 _ rfl] at c1;go_wp2_with fail
   refine (AcG x0.has base _ (y+1) _ hoh (by omega) (by omega) (by omega)).mono ?_;rintro e w3 ⟨rfl,⟨ys,hyl,hym,hoy⟩,hg3⟩;obtain rfl:=Ach hyl hym;have hz3:=hg3.size;have hF4:=hF3.over (by omega) hg3 hoy;have HK3:Hid (w3.heap[G]?=w.heap[G]?):=(hF3.off (by omega) hg3).trans HK2.out;have HP3:Hid (KpT [9,118] w w3):=HP2.out.gr hoh (by decide) hg3;have hrow3:=AdB hrow2 hoh hg3;have hB3:Below base w w3:=F5 hB2 (by omega) hoh hg3 (A3 _);have hon3:=hF4.own _ (C7 _ List.mem_cons_self);have hF5:=hF4.swap;clear c1 hrow2 hF2 hF3 hoh hon hF4 hg3 hB2 hyl hym hoy;have c2:=hrow3.cellAt (k*3+2) (by omega);rw[M4 _ k _ Hp2.out 2 _ rfl] at c2;go_wp2_with fail
   refine (AcG x0.needs base _ (y+1+x0.has.length) _ hon3 (by omega) (by omega) (by omega)).mono ?_;rintro e w4 ⟨rfl,⟨ys,hyl,hym,hoy⟩,hg4⟩;obtain rfl:=Ach hyl hym;have hF6:=(hF5.over (by omega) hg4 hoy).swap;have HK4:Hid (w4.heap[G]?=w.heap[G]?):=(hF5.off (by omega) hg4).trans HK3.out;have HP4:Hid (KpT [9,118] w w4):=HP3.out.gr hon3 (by decide) hg4;have hrow4:=AdB hrow3 hon3 hg4;have hB4:Below base w w4:=F5 hB3 (by omega) hon3 hg4 (A3 _);clear c2 hrow3 hF5 hon3 hg4 hB3 hyl hym hoy
   have Hrow:Hid (w4.ownsRow base 118 3 (.slice (some ⟨g,0,none⟩) bs.length cap) bs.length (rowsB (ps.set k ((mkBa y x0,.slice ah x0.has.length ch,.slice an x0.needs.length cn):Bv)))):=by
    have:=Ael (ps.set k ((⟨mb,x0.has,x0.needs⟩,.slice ah x0.has.length ch,.slice an x0.needs.length cn):Bv)) k _ (mkBa y x0) Hp2.out (by rw[Hmb.out]);rw[Ala] at this;show _
    rw[this];exact hrow4
   have HF:Hid (Fam w4 base (some G) (t::famB (ps.set k ((mkBa y x0,.slice ah x0.has.length ch,.slice an x0.needs.length cn):Bv)))):=by
    refine Fam.back ?_ (by rw[Hpl.out];exact hp);rw[Hmb.out];exact hF6
   clear hrow4 hF6;go_wp2_with fail
   go_roundw
   case rel=>exact⟨k+1,_,_,by omega,by go_num,rfl,by rw[Hsz.out];simp[szBa];omega,by omega,by omega,Hstep.out,Hrow.out,HF.out,hB4,HK4.out,HP4.out⟩
   case measure=>simp[intOf];omega
  ·obtain rfl:k=bs.length:=by omega
   have HE:Hid (y=m+szBas bs):=by have:=Hy.out;rwa [List.take_length] at this
   have HP:Hid (ps.map (·.1)=mkBas m bs):=by have:=Hps.out;rwa [AlZ] at this
   go_wp2_with fail
   go_ret
   exact⟨by rw[← HE.out];rfl,⟨ps,hrow,HP.out,hF⟩,hB,HK.out,HP0.out⟩
theorem Abn {P:Program} (w:World) (dT sT ty elem:TypeId) (size b o dLen dCap:Nat) (a:Addr) (sLen sCap:Nat) (cs:List Value)
  (hu:P.underlying dT=some (.slice elem)) (hs:(P.info? elem).map (·.size)=some size) (hn:cs.length=Nat.min sLen dLen*size)
  (hsrc:∀j v,cs[j]?=some v->w.cell? (a.add j)=some v) (hc:∀j,j<cs.length->(w.cell? ⟨b,o+j,none⟩).isSome=true) (hf:∀j,j<cs.length->w.frozen? ⟨b,o+j,none⟩=false) (h1:∀v∈cs,v.oneCell'=true) :
  (Builtin.copy_ #[dT,sT] ty #[.slice (some ⟨b,o,none⟩) dLen dCap,.slice (some a) sLen sCap]).run P w=.ok (goInt (Nat.min sLen dLen)) (w.setCells b o cs):=by
 have hl:=run_loadCells_list (P:=P) w a cs hsrc;have hst:=run_storeCells_cells (P:=P) b o cs 0 w (by simpa using hc) (by simpa using hf) h1;cases hq:P.info? elem with
 | none=>simp[hq] at hs
 | some i =>
  have hi:i.size=size:=by simpa [hq] using hs
  simp[Builtin.copy_,run_underlying hu,Builtin.lenOf,Builtin.firstCells,sizeOf,typeInfo,hq,hi,← hn,hl,hst]
theorem Amp {w:World} {base e size n m c g:Nat} {xs:List Value} (h:w.ownsRow base e size (.slice (some ⟨g,0,none⟩) n c) n xs) (hn:n<=m) (hm:m<=c):∃ys,ys.length=(m-n)*size/\w.ownsRow base e size (.slice (some ⟨g,0,none⟩) m c) m (xs++ys):=by
 have hl:=h.1;rcases h.2 with⟨h0,_⟩|⟨g',cap,cur,h',h1,h2,h3,h4,h5,h6⟩
 ·simp at h0
 ·obtain⟨e1,-,rfl⟩:=Value.slice.inj h'
  obtain rfl:g=g':=by simpa using e1
  have hmul:n*size<=m*size:=Nat.mul_le_mul_right _ hn;have hmul2:m*size<=c*size:=Nat.mul_le_mul_right _ hm;have hcl:cur.toList.length=c*size:=by simpa using h5
  refine⟨(cur.toList.take (m*size)).drop (n*size),?_,?_,.inr ⟨g,c,cur,rfl,h1,h2,hm,h4,h5,?_⟩⟩
  ·rw[A8,B6,hcl,Nat.min_eq_left hmul2,Nat.sub_mul]
  ·rw[A9,hl,A8,B6,hcl,Nat.min_eq_left hmul2];omega
  ·rw[← h6]
   conv=>lhs;rw[← List.take_append_drop (n*size) (cur.toList.take (m*size))]
   rw[List.take_take,Nat.min_eq_left hmul]
theorem Aah {base e size n c g:Nat}:∀(vs:List Value) (o:Nat) (w:World) (xs:List Value),w.ownsRow base e size (.slice (some ⟨g,0,none⟩) n c) n xs->o+vs.length<=xs.length->
  (w.setCells g o vs).ownsRow base e size (.slice (some ⟨g,0,none⟩) n c) n (xs.take o++vs++xs.drop (o+vs.length))/\w.grownBy (w.setCells g o vs) (some g)
 | [],o,w,xs,h,_=>by
  refine⟨?_,E1 _ _⟩;simpa [World.setCells] using h
 | v::r,o,w,xs,h,ho=>by
  obtain⟨s1,s2⟩:=B2 h o v;simp only[List.length_cons] at ho;obtain⟨t1,t2⟩:=Aah r (o+1) (w.setCell ⟨g,o,none⟩ v) (xs.set o v) s1 (by rw[List.length_set];omega);refine⟨?_,E3 s2 t2⟩
  have e:(xs.set o v).take (o+1)++r++(xs.set o v).drop (o+1+r.length)=xs.take o++(v::r)++xs.drop (o+(v::r).length):=by
   have hlt:o<xs.length:=by omega
   rw[List.take_set,List.drop_set_of_lt (by omega),A7 hlt,List.set_append_right _ _ (by rw[B6];omega),B6,Nat.min_eq_left (by omega),Nat.sub_self];simp[Nat.add_assoc,Nat.add_comm 1]
  rw[e] at t1;exact t1
end Go.Proofs.YtgecdacgmehmbaaGreatDoor
namespace Go.Proofs.YtgecdacgmehmbaaGreatDoor
open Go.RowKit Go.Shelf Go.Lib
def NewB (w:World) (vb:Nat) (p:Bv):Prop:=w.heap[vb]?=some (.cells #[.string p.1.nm,p.2.1,p.2.2] 118 (0,0))
theorem NewB.cell {w:World} {vb:Nat} {p:Bv} (h:NewB w vb p):∀(j:Nat) (u:Value),(rowB p)[j]?=some u->w.cell? ((⟨vb,0,none⟩:Addr).add j)=some u:=λj u hu=>by
 rw[Addr.add_mid,Nat.zero_add,cell_of_row w vb j _ 118 (0,0) h];match j,hu with
 | 0,hu=>simpa [rowB] using hu
 | 1,hu=>simpa [rowB] using hu
 | 2,hu=>simpa [rowB] using hu
theorem NewB.frozen {w:World} {vb:Nat} {p:Bv} (h:NewB w vb p) (j:Nat):w.frozen? ⟨vb,j,none⟩=false:=by
 simp[World.frozen?,show w.heap[vb]?=_ from h]
theorem NewB.shape {w:World} {vb:Nat} {p:Bv} (h:NewB w vb p):w.shape? vb=some (118,3):=by
 simp[World.shape?,show w.heap[vb]?=_ from h]
theorem Ajx {w:World} {base e size n c g:Nat} {xs:List Value} (h:w.ownsRow base e size (.slice (some ⟨g,0,none⟩) n c) n xs):w.shape? g=some (e,c*size):=by
 rcases h.2 with⟨h0,_⟩|⟨g',cap,cur,h',h1,h2,h3,h4,h5,h6⟩
 ·simp at h0
 ·obtain⟨e1,-,rfl⟩:=Value.slice.inj h'
  obtain rfl:g=g':=by simpa using e1
  simp[World.shape?,h2,h5]
theorem Amq (w:World):(Go.sizeOf 118).run Tryz.prog w=.ok 3 w:=by kernel_rfl
theorem Ajy (ps:List Bv) (p:Bv) (v:Value) (base vb:Nat) (w:World) (hn:ps.length<=100) (hrow:w.ownsRow base 118 3 v ps.length (rowsB ps)) (hB:NewB w vb p) (hone:∀u∈rowB p,u.oneCell'=true) (hz:base<=w.heap.size) :
  Calls Tryz.prog 187 #[v,.int .i64 ps.length,.slice (some ⟨vb,0,none⟩) 1 1] w
   λe w'=>∃u,e=.returned u/\w'.ownsRow base 118 3 u (ps.length+1) (rowsB (ps++[p]))/\w.grownBy w' v.ownBlock/\Where w v u:=by
 obtain⟨ii,hi,iz0,iz1,iz2⟩:=info_parts Aan;obtain⟨v1,w1,hr,hown1,hgr1,-⟩:=run_append_own (P:=Tryz.prog) w base 35 35 118 ii _ 3 64 Tryz.underlying35 hi iz0 iz1 iz2 rfl (by decide) v ps.length (rowsB ps) hrow ⟨vb,0,none⟩ 1 1 (rowB p) rfl hB.cell hone (by unfold maxLen;omega) (by omega) hz;have hwh:Where w v v1:=AfS base 35 35 118 ii _ 3 64 Tryz.underlying35 hi iz0 iz1 iz2 v ps.length (rowsB ps) hrow ⟨vb,0,none⟩ 1 1 (rowB p) rfl hB.cell hone (by omega) (by unfold maxLen;omega) (by omega) hr
 have hown2:w1.ownsRow base 118 3 v1 (ps.length+1) (rowsB (ps++[p])):=by
  rw[Aa4];exact hown1
 obtain⟨a,c,hv⟩:=E9 hrow;subst hv
 have hc:ps.length<=c/\c<=9223372036854775807:=by
  rcases hrow.2 with⟨h0,h1⟩|⟨g',cap,cur,h',h1,h2,h3,h4,h5,h6⟩
  ·obtain⟨-,-,rfl⟩:=Value.slice.inj h0
   omega
  ·obtain⟨-,-,rfl⟩:=Value.slice.inj h'
   unfold maxLen at h4;omega
 obtain⟨hc1,hc2⟩:=hc;obtain⟨b1,d1,hv1⟩:=E9 hown1;subst hv1;clear hown1;go_enter Tryz.func187,Tryz.ntmps187
 go_wp2_with (at_builtin;refine N6 _ rfl _ _ _ _ rfl _ _ _ _ rfl rfl hr ?_)
 all_goals
  go_ret
  exact⟨_,rfl,hown2,by cases a<;>exact hgr1,by cases a<;>exact hwh⟩
theorem Amr (ps:List Bv) (p:Bv) (k:Nat) (ys:List Value) (hk:k<ps.length) (hy:ys.length=3) :
  let xs:=rowsB ps++ys
  let xs2:=xs.take ((k+1)*3)++rowsB (ps.drop k)++xs.drop ((k+1)*3+(rowsB (ps.drop k)).length)
  xs2.take (k*3)++rowB p++xs2.drop (k*3+(rowB p).length)=rowsB (ps.take k++p::ps.drop k):=by
 intro xs xs2;have h1:(rowsB ps).length=ps.length*3:=J3 ps;have h2:(rowsB (ps.drop k)).length=(ps.length-k)*3:=by rw[J3,A8]
 have hxl:xs.length=(ps.length+1)*3:=by show (rowsB ps++ys).length=_;rw[A9,h1,hy];omega
 have h3:xs.drop ((k+1)*3+(rowsB (ps.drop k)).length)=[]:=List.drop_eq_nil_of_le (by rw[hxl,h2];omega);have h4:xs2=xs.take ((k+1)*3)++rowsB (ps.drop k):=by show _++_++_=_;rw[h3,List.append_nil]
 have h5:(xs.take ((k+1)*3)).length=(k+1)*3:=by rw[B6,hxl];omega
 have h6:xs2.take (k*3)=rowsB (ps.take k):=by
  rw[h4,List.take_append_of_le_length (by rw[h5];omega),List.take_take,Nat.min_eq_left (by omega)];show (rowsB ps++ys).take (k*3)=_
  rw[List.take_append_of_le_length (by rw[h1];omega),AiI ps k (by omega)]
 have h7:xs2.drop (k*3+(rowB p).length)=rowsB (ps.drop k):=by
  have hb:(rowB p).length=3:=rfl;rw[h4,hb,show k*3+3=(k+1)*3 by omega];exact List.drop_left' h5
 rw[h6,h7,Q9];simp[rowsB]
theorem AhF (ps:List Bv) (p:Bv) (k g c base vb:Nat) (w:World) (hk:k<ps.length) (_:ps.length<=100) (hroom:ps.length+1<=c) (hrow:w.ownsRow base 118 3 (.slice (some ⟨g,0,none⟩) ps.length c) ps.length (rowsB ps)) (hone:∀u∈rowsB ps,u.oneCell'=true) (hB:NewB w vb p) (hop:∀u∈rowB p,u.oneCell'=true) (hne:vb≠g) :
  (∀lb cb,(callFunc 207 #[.slice (some ⟨vb,0,none⟩) 1 1,.slice (some ⟨g,(k+1)*3,none⟩) lb cb]).run Tryz.prog w=.ok (.value (.bool false)) w)/\
  ∃W w',(∀ty dc sc,(Builtin.copy_ #[35,35] ty #[.slice (some ⟨g,(k+1)*3,none⟩) (ps.length-k) dc,.slice (some ⟨g,k*3,none⟩) (ps.length+1-k) sc]).run Tryz.prog w.drew=.ok (goInt ((ps.length-k:Nat):Int)) W)/\
   (∀ty dc,(Builtin.copy_ #[35,35] ty #[.slice (some ⟨g,k*3,none⟩) (ps.length+1-k) dc,.slice (some ⟨vb,0,none⟩) 1 1]).run Tryz.prog W=.ok (goInt ((1:Nat):Int)) w')/\
   w'.ownsRow base 118 3 (.slice (some ⟨g,0,none⟩) (ps.length+1) c) (ps.length+1) (rowsB (ps.take k++p::ps.drop k))/\w.grownBy W (some g)/\w.grownBy w' (some g)/\c<=9223372036854775807:=by
 have hsz:(Tryz.prog.info? 118).map (·.size)=some 3:=by kernel_rfl
 obtain⟨ys,hyl,hrow1⟩:=Amp hrow (Nat.le_succ _) hroom;have hy3:ys.length=3:=by rw[hyl];omega
 have hrowd:w.drew.ownsRow base 118 3 (.slice (some ⟨g,0,none⟩) (ps.length+1) c) (ps.length+1) (rowsB ps++ys):=hrow1;have hl1:(rowsB ps).length=ps.length*3:=J3 ps;have hld:(rowsB (ps.drop k)).length=(ps.length-k)*3:=by rw[J3,A8]
 have hxl:(rowsB ps++ys).length=(ps.length+1)*3:=by rw[A9,hl1,hy3];omega
 obtain⟨t1,t2⟩:=Aah (rowsB (ps.drop k)) ((k+1)*3) w.drew (rowsB ps++ys) hrowd (by rw[hxl,hld];omega);have hxl2:((rowsB ps++ys).take ((k+1)*3)++rowsB (ps.drop k)++(rowsB ps++ys).drop ((k+1)*3+(rowsB (ps.drop k)).length)).length=(ps.length+1)*3:=t1.1;obtain⟨s1,s2⟩:=Aah (rowB p) (k*3) (w.drew.setCells g ((k+1)*3) (rowsB (ps.drop k))) _ t1 (by rw[hxl2];show k*3+3<=_;omega);rw[Amr ps p k ys hk hy3] at s1
 have hBd:NewB (w.drew.setCells g ((k+1)*3) (rowsB (ps.drop k))) vb p:=by
  have:=t2.block vb (D3.1 (show w.heap[vb]?=_ from hB)).1 (by simpa using hne);unfold NewB;rw[this];exact hB
 refine⟨λlb cb=>?_,_,_,λty dc sc=>?_,λty dc=>?_,s1,E3 (Z1 (E1 w _)) t2,E3 (Z1 (E1 w _)) (E3 t2 s2),?_⟩
 ·rw[run_callFunc_extern Tryz.func207 (by kernel_rfl) (by kernel_rfl) (by kernel_rfl) (e:=Extern.SlicesOverlaps.overlaps #[35,35] #[4]) (by kernel_rfl),
   Lib.run_overlaps_apart w 35 4 118 Tryz.underlying35 3 Amq ⟨vb,0,none⟩ ⟨g,(k+1)*3,none⟩ 1 1 lb cb hne _ _ _ _ hB.shape (Ajx hrow) (by omega) (hB.frozen 0) (hB.frozen 3)]
  rfl
 ·have h:=Abn (P:=Tryz.prog) w.drew 35 35 ty 118 3 g ((k+1)*3) (ps.length-k) dc ⟨g,k*3,none⟩ (ps.length+1-k) sc (rowsB (ps.drop k)) Tryz.underlying35 hsz (by rw[hld,show Nat.min (ps.length+1-k) (ps.length-k)=ps.length-k from Nat.min_eq_right (by omega)])
   (Aaa hrow k (ps.drop k) (Ae8 ps k)) (λj hj=>?_) (λj hj=>hrowd.frozenAt _) (λu hu=>hone u (by
    rw[← List.take_append_drop k ps,Q9];exact List.mem_append_right _ hu))
  ·rw[h,show Nat.min (ps.length+1-k) (ps.length-k)=ps.length-k from Nat.min_eq_right (by omega)]
  ·rw[hrowd.cellAt _ (by rw[hld] at hj;omega),A0 (by rw[hxl];rw[hld] at hj;omega)];rfl
 ·have h:=Abn (P:=Tryz.prog) (w.drew.setCells g ((k+1)*3) (rowsB (ps.drop k))) 35 35 ty 118 3 g (k*3) (ps.length+1-k) dc ⟨vb,0,none⟩ 1 1 (rowB p) Tryz.underlying35 hsz (by rw[show Nat.min 1 (ps.length+1-k)=1 from Nat.min_eq_left (by omega)];rfl)
   hBd.cell (λj hj=>?_) (λj hj=>t1.frozenAt _) hop
  ·rw[h,show Nat.min 1 (ps.length+1-k)=1 from Nat.min_eq_left (by omega)]
  ·have hj3:j<3:=hj
   rw[t1.cellAt _ (by omega),A0 (by rw[hxl2];omega)];rfl
 ·have:=(AbZ hrow).2
  unfold maxLen at this;omega
theorem AhG (ps:List Bv) (p:Bv) (k g c base vb:Nat) (w:World) (hk:k<ps.length) (hn:ps.length<=100) (hroom:ps.length+1<=c) (hrow:w.ownsRow base 118 3 (.slice (some ⟨g,0,none⟩) ps.length c) ps.length (rowsB ps)) (hone:∀u∈rowsB ps,u.oneCell'=true) (hB:NewB w vb p) (hop:∀u∈rowB p,u.oneCell'=true) (hne:vb≠g) :
  Calls Tryz.prog 187 #[(.slice (some ⟨g,0,none⟩) ps.length c),.int .i64 k,.slice (some ⟨vb,0,none⟩) 1 1] w
   λe w'=>e=.returned (.slice (some ⟨g,0,none⟩) (ps.length+1) c)/\w'.ownsRow base 118 3 (.slice (some ⟨g,0,none⟩) (ps.length+1) c) (ps.length+1) (rowsB (ps.take k++p::ps.drop k))/\w.grownBy w' (some g):=by
 obtain⟨hov,W,w4,hc1,hc2,hown,hgW,hg4,hcm⟩:=AhF ps p k g c base vb w hk hn hroom hrow hone hB hop hne;have hS1:Below 0 w w.drew:=(A4 _ _).drew;have hS2:Below 0 w W:=F5 (A4 0 w) (Nat.zero_le _) hrow hgW (Nat.zero_le _);have hb1:¬((k:Int)=(ps.length:Int)):=by omega
 have hb2:¬(c=k+1):=by omega
 have hb4:¬(c=k):=by omega
 have hb5:k<=ps.length:=by omega
 have hb6:(k:Int)<=(ps.length:Int):=by omega
 have hb7:¬((c:Int)<(ps.length:Int)+1):=by omega
 have hb8:(ps.length:Int)+1<=(c:Int):=by omega
 have hw1:IntKind.i64.wrap ((k:Int)+1)=(k:Int)+1:=by rw[IntKind.wrap_i64];omega
 have hw3:0<=(k:Int)+1:=by omega
 have hw4:(k:Int)+1<=(ps.length:Int)+1:=by omega
 have hw5:(k:Int)<=(ps.length:Int)+1:=by omega
 have hn1:((k:Int)+1).toNat=k+1:=by omega
 have hn2:((ps.length:Int)+1).toNat=ps.length+1:=by omega
 clear hrow hone hB hop hgW;go_enter Tryz.func187,Tryz.ntmps187
 go_wp2_with (simp only[hov])
 refine F6 99 (λw'=>Below 0 w w') (by kernel_rfl) ?_;refine F3 (i:=0) (v:=?_) rfl (by kernel_rfl) (by kernel_rfl) (by kernel_rfl) (by kernel_rfl) (λ_ _ _ h=>h) (by rfl) hS1 ?_ ?_;rotate_left;focus (intro w hSw;(try dsimp only at hSw);go_simp;try with_reducible rfl);(try simp only[Act.put,List.setIfInBounds_toArray,List.set_cons_zero,List.set_cons_succ])
 refine F3 (i:=1) (v:=?_) rfl (by kernel_rfl) (by kernel_rfl) (by kernel_rfl) (by kernel_rfl) (λ_ _ _ h=>h) (by rfl) hS1 ?_ ?_;rotate_left;focus (intro w hSw;(try dsimp only at hSw);go_simp;try with_reducible rfl);(try simp only[Act.put,List.setIfInBounds_toArray,List.set_cons_zero,List.set_cons_succ])
 refine F3 (i:=2) (v:=?_) rfl (by kernel_rfl) (by kernel_rfl) (by kernel_rfl) (by kernel_rfl) (λ_ _ _ h=>h) (by rfl) hS1 ?_ ?_;rotate_left;focus (intro w hSw;(try dsimp only at hSw);go_simp;try with_reducible rfl);(try simp only[Act.put,List.setIfInBounds_toArray,List.set_cons_zero,List.set_cons_succ])
 refine F3 (i:=3) (v:=?_) rfl (by kernel_rfl) (by kernel_rfl) (by kernel_rfl) (by kernel_rfl) (λ_ _ _ h=>h) (by rfl) hS1 ?_ ?_;rotate_left;focus (intro w hSw;(try dsimp only at hSw);go_simp;try with_reducible rfl);(try simp only[Act.put,List.setIfInBounds_toArray,List.set_cons_zero,List.set_cons_succ])
 refine F3 (i:=4) (v:=?_) rfl (by kernel_rfl) (by kernel_rfl) (by kernel_rfl) (by kernel_rfl) (λ_ _ _ h=>h) (by rfl) hS1 ?_ ?_;rotate_left;focus (intro w hSw;(try dsimp only at hSw);go_simp;try with_reducible rfl);(try simp only[Act.put,List.setIfInBounds_toArray,List.set_cons_zero,List.set_cons_succ])
 refine F3 (i:=5) (v:=?_) rfl (by kernel_rfl) (by kernel_rfl) (by kernel_rfl) (by kernel_rfl) (λ_ _ _ h=>h) (by rfl) hS1 ?_ ?_;rotate_left;focus (intro w hSw;(try dsimp only at hSw);go_simp;try with_reducible rfl);(try simp only[Act.put,List.setIfInBounds_toArray,List.set_cons_zero,List.set_cons_succ])
 refine F3 (i:=6) (v:=?_) rfl (by kernel_rfl) (by kernel_rfl) (by kernel_rfl) (by kernel_rfl) (λ_ _ _ h=>h) (by rfl) hS1 ?_ ?_;rotate_left;focus (intro w hSw;(try dsimp only at hSw);go_simp;try with_reducible rfl);(try simp only[Act.put,List.setIfInBounds_toArray,List.set_cons_zero,List.set_cons_succ])
 refine F3 (i:=7) (v:=?_) rfl (by kernel_rfl) (by kernel_rfl) (by kernel_rfl) (by kernel_rfl) (λ_ _ _ h=>h) (by rfl) hS1 ?_ ?_;rotate_left;focus (intro w hSw;(try dsimp only at hSw);go_simp;try with_reducible rfl);(try simp only[Act.put,List.setIfInBounds_toArray,List.set_cons_zero,List.set_cons_succ])
 refine D7 (i:=8) (by kernel_rfl) rfl (λK hK=>?_);refine step_copy_runI rfl _ _ 35 35 rfl (.slice (some ⟨g,(k+1)*3,none⟩) (ps.length-k) (c-(k+1))) (.slice (some ⟨g,k*3,none⟩) (ps.length+1-k) (c-k)) (by simp[Act.eval,Act.put]) (by simp[Act.eval,Act.put]) (hc1 _ _ _) ?_;refine hK.out _ _ (λ_=>hS2) ?_;clear hK K;(try simp only[Act.put,List.setIfInBounds_toArray]);refine F0 (by kernel_rfl) ?_ _;go_wp2_with (at_builtin;refine wpList_copy_runI _ rfl _ _ 35 35 rfl _ _ rfl rfl (hc2 _ _) ?_)
 go_ret
 exact⟨rfl,hown,hg4⟩
end Go.Proofs.YtgecdacgmehmbaaGreatDoor
namespace Go.Proofs.YtgecdacgmehmbaaGreatDoor
open Go.ChangeShapes Go.WideShapes Go.ChangeAt Go.RowKit
theorem Aev:Tryz.prog.cellsOf 61=8:=by kernel_rfl
theorem Ajz {H:Type} {enc:TypeId×Value->H} {w:World} {base:Nat} {sp:Nat->Bool} {held:Bool} {fuel:Nat} {cs:List Value} {x:DataW H×List MemPlace}
  (h:DataW.trod enc Tryz.prog w base sp held fuel 61 cs=some x) :
  ∃(nm:ByteArray) (k:Int) (a b:ByteArray) (n wi:Int) (t e:ByteArray),cs=[.string nm,.int .i64 k,.string a,.string b,.int .i64 n,.int .i64 wi,.string t,.string e]/\x.2=[]/\
   nm.size<=maxLen/\a.size<=maxLen/\b.size<=maxLen/\t.size<=maxLen/\e.size<=maxLen:=by
 obtain⟨xs,m,_,rfl,hl,hlen,hf⟩:=DataW.trod_struct Tryz.underlying61 h;rw[Aev] at hl;obtain⟨c0,c1,c2,c3,c4,c5,c6,c7,rfl⟩:=list8 hl;obtain⟨y0,y1,y2,y3,y4,y5,y6,y7,rfl⟩:=list8 (hlen.trans rfl:xs.length=8);have h0:DataW.trod enc Tryz.prog w base sp held m 9 (([c0,c1,c2,c3,c4,c5,c6,c7].drop 0).take (Tryz.prog.cellsOf 9))=some y0:=hf 0 {name:= "Name",type:=9,offset:=0,embedded:=false,tag:= "",pkgPath:= "",byteOffset:=0} rfl;have h1:DataW.trod enc Tryz.prog w base sp held m 3 (([c0,c1,c2,c3,c4,c5,c6,c7].drop 1).take (Tryz.prog.cellsOf 3))=some y1:=hf 1 {name:= "Kind",type:=3,offset:=1,embedded:=false,tag:= "",pkgPath:= "",byteOffset:=16} rfl;have h2:DataW.trod enc Tryz.prog w base sp held m 9 (([c0,c1,c2,c3,c4,c5,c6,c7].drop 2).take (Tryz.prog.cellsOf 9))=some y2:=hf 2 {name:= "A",type:=9,offset:=2,embedded:=false,tag:= "",pkgPath:= "",byteOffset:=24} rfl;have h3:DataW.trod enc Tryz.prog w base sp held m 9 (([c0,c1,c2,c3,c4,c5,c6,c7].drop 3).take (Tryz.prog.cellsOf 9))=some y3:=hf 3 {name:= "B",type:=9,offset:=3,embedded:=false,tag:= "",pkgPath:= "",byteOffset:=40} rfl;have h4:DataW.trod enc Tryz.prog w base sp held m 3 (([c0,c1,c2,c3,c4,c5,c6,c7].drop 4).take (Tryz.prog.cellsOf 3))=some y4:=hf 4 {name:= "N",type:=3,offset:=4,embedded:=false,tag:= "",pkgPath:= "",byteOffset:=56} rfl;have h5:DataW.trod enc Tryz.prog w base sp held m 3 (([c0,c1,c2,c3,c4,c5,c6,c7].drop 5).take (Tryz.prog.cellsOf 3))=some y5:=hf 5 {name:= "Within",type:=3,offset:=5,embedded:=false,tag:= "",pkgPath:= "",byteOffset:=64} rfl;have h6:DataW.trod enc Tryz.prog w base sp held m 9 (([c0,c1,c2,c3,c4,c5,c6,c7].drop 6).take (Tryz.prog.cellsOf 9))=some y6:=hf 6 {name:= "Then",type:=9,offset:=6,embedded:=false,tag:= "",pkgPath:= "",byteOffset:=72} rfl;have h7:DataW.trod enc Tryz.prog w base sp held m 9 (([c0,c1,c2,c3,c4,c5,c6,c7].drop 7).take (Tryz.prog.cellsOf 9))=some y7:=hf 7 {name:= "Else",type:=9,offset:=7,embedded:=false,tag:= "",pkgPath:= "",byteOffset:=88} rfl;clear hf h;rw[O9] at h0 h2 h3 h6 h7;rw[AbU] at h1 h4 h5;simp only[List.drop_succ_cons,List.drop_zero,List.take_succ_cons,List.take_zero] at h0 h1 h2 h3 h4 h5 h6 h7;obtain⟨nm,rfl,rfl,z0⟩:=J4 h0;obtain⟨k,rfl,rfl,_⟩:=M7 h1;obtain⟨a,rfl,rfl,z2⟩:=J4 h2;obtain⟨b,rfl,rfl,z3⟩:=J4 h3;obtain⟨n,rfl,rfl,_⟩:=M7 h4;obtain⟨wi,rfl,rfl,_⟩:=M7 h5;obtain⟨t,rfl,rfl,z6⟩:=J4 h6;obtain⟨e,rfl,rfl,z7⟩:=J4 h7;exact⟨nm,k,a,b,n,wi,t,e,rfl,rfl,z0,z2,z3,z6,z7⟩
theorem Adn {H:Type} {enc:TypeId×Value->H} {W:World} {base:Nat} {sp:Nat->Bool} {held:Bool} {v:Value} {d:DataW H} {p:List MemPlace} (hv:∃a l c,v=.slice a l c)
  (h:DataW.Trod enc Tryz.prog W base sp held 30 v d p):∃ps,Src W v ps/\Sized ps:=by
 obtain⟨a0,l0,k0,rfl⟩:=hv;obtain⟨fuel,hf⟩:=h;rcases DataW.trod_slice Tryz.underlying30 hf with⟨hcs,_⟩|⟨a,len,cap,elems,rest,n,_,hcs,_,hb,hl,hm,hlen,hel,_,_⟩
 ·have:Value.slice a0 l0 k0=.slice none 0 0:=by simpa [Value.cells] using hcs
  rw[this];exact⟨[],.inl ⟨_,_,rfl,rfl⟩,λp hp=>by simp at hp⟩
 ·have:Value.slice a0 l0 k0=.slice (some a) len cap:=by simpa [Value.cells] using hcs
  rw[this];clear this hcs hf;rw[Aev] at hel
  have each:∀i,i<len->∃q:Ph,W.cells? base (a.add (i*8)) 8=some q.cells/\(q.nm.size<=maxLen/\q.a.size<=maxLen/\q.b.size<=maxLen/\q.t.size<=maxLen/\q.e.size<=maxLen):=by
   intro i hi;have h1:=hel i hi;rw[A0 (by omega)] at h1;obtain⟨cs,hc,ht⟩:=Option.bind_eq_some_iff.1 h1;obtain⟨nm,k,a',b',n',wi,t,e,rfl,_,z0,z2,z3,z6,z7⟩:=Ajz ht;exact⟨⟨nm,k,a',b',n',wi,t,e⟩,hc,z0,z2,z3,z6,z7⟩
  obtain⟨ps,hpl,hps⟩:=AaH len _ each;rcases C3 len with h0|h0
  ·subst h0
   exact⟨[],.inl ⟨_,_,rfl,rfl⟩,λp hp=>by simp at hp⟩
  ·obtain⟨b,o,spot⟩:=a
   have hs:spot=none:=by
    obtain⟨q,hq,_⟩:=each 0 h0;unfold World.cells? at hq;split at hq
    ·obtain⟨x,_,hc⟩:=Lib.mapM_at hq 0 0 (by simp)
     simpa [Addr.add] using World.cell?_spot hc
    ·cases hq
   subst hs
   have hra:RecAt W b o ps:=by
    intro i q hq;have:=(hps i q hq).1;rw[Addr.add_mid] at this;exact M2 this
   subst hpl;refine⟨ps,.inr ⟨b,o,cap,rfl,hra,?_,by omega⟩,λq hq=>?_⟩
   ·have:=hra 0 ps[0] (by simp[h0]) 0 _ rfl
    exact World.block_lt_of_cell? W _ this
   ·obtain⟨i,hi,rfl⟩:=B5 hq
    exact (hps i ps[i] (by simp[hi])).2
theorem Afh:Tryz.prog.cellsOf 64=2:=by kernel_rfl
theorem Aiy:Tryz.prog.cellsOf 102=6:=by kernel_rfl
theorem Ams:Tryz.prog.cellsOf 30=1:=by kernel_rfl
theorem Amt:Tryz.prog.cellsOf 31=1:=by kernel_rfl
theorem Aj0 {α:Type} {l:List α} (h:l.length=6):∃a b c d e f,l=[a,b,c,d,e,f]:=by
 match l,h with
 | [a,b,c,d,e,f],_=>exact⟨a,b,c,d,e,f,rfl⟩
theorem Alc {H:Type} {enc:TypeId×Value->H} {w:World} {base:Nat} {sp:Nat->Bool} {held:Bool} {fuel:Nat} {cs:List Value} {x:DataW H×List MemPlace}
  (h:DataW.trod enc Tryz.prog w base sp held fuel 64 cs=some x):∃y:Sl,cs=y.cells/\y.s.size<=maxLen/\y.t.size<=maxLen:=by
 obtain⟨xs,m,_,rfl,hl,hlen,hf⟩:=DataW.trod_struct Tryz.underlying64 h;rw[Afh] at hl;obtain⟨c0,c1,rfl⟩:=Af9 hl;obtain⟨y0,y1,rfl⟩:=Af9 (hlen.trans rfl:xs.length=2);have h0:DataW.trod enc Tryz.prog w base sp held m 9 (([c0,c1].drop 0).take (Tryz.prog.cellsOf 9))=some y0:=hf 0 {name:= "Slot",type:=9,offset:=0,embedded:=false,tag:= "",pkgPath:= "",byteOffset:=0} rfl;have h1:DataW.trod enc Tryz.prog w base sp held m 9 (([c0,c1].drop 1).take (Tryz.prog.cellsOf 9))=some y1:=hf 1 {name:= "Thing",type:=9,offset:=1,embedded:=false,tag:= "",pkgPath:= "",byteOffset:=16} rfl;clear hf h;rw[O9] at h0 h1;simp only[List.drop_succ_cons,List.drop_zero,List.take_succ_cons,List.take_zero] at h0 h1;obtain⟨s,rfl,rfl,z0⟩:=J4 h0;obtain⟨t,rfl,rfl,z1⟩:=J4 h1;exact⟨⟨s,t⟩,rfl,z0,z1⟩
theorem Acs {H:Type} {enc:TypeId×Value->H} {W:World} {base:Nat} {sp:Nat->Bool} {held:Bool} {fuel:Nat} {v:Value} {x:DataW H×List MemPlace}
  (h:DataW.trod enc Tryz.prog W base sp held fuel 31 [v]=some x):∃l,SlSrc W v l/\SlZ l:=by
 rcases DataW.trod_slice Tryz.underlying31 h with⟨hcs,_⟩|⟨a,len,cap,elems,rest,n,_,hcs,_,hb,hl,hm,hlen,hel,_,_⟩
 ·obtain rfl:v=.slice none 0 0:=by simpa using hcs
  exact⟨[],.inl ⟨_,_,rfl,rfl⟩,λy hy=>by simp at hy⟩
 ·obtain rfl:v=.slice (some a) len cap:=by simpa using hcs
  clear hcs h;rw[Afh] at hel
  have each:∀i,i<len->∃y:Sl,W.cells? base (a.add (i*2)) 2=some y.cells/\y.s.size<=maxLen/\y.t.size<=maxLen:=by
   intro i hi;have h1:=hel i hi;rw[A0 (by omega)] at h1;obtain⟨cs,hc,ht⟩:=Option.bind_eq_some_iff.1 h1;obtain⟨y,rfl,r⟩:=Alc ht;exact⟨y,hc,r⟩
  obtain⟨l,hpl,hps⟩:=AaH len _ each;rcases C3 len with h0|h0
  ·subst h0
   exact⟨[],.inl ⟨_,_,rfl,rfl⟩,λy hy=>by simp at hy⟩
  ·obtain⟨b,o,spot⟩:=a
   have hs:spot=none:=by
    obtain⟨q,hq,_⟩:=each 0 h0;unfold World.cells? at hq;split at hq
    ·obtain⟨x,_,hc⟩:=Lib.mapM_at hq 0 0 (by simp)
     simpa [Addr.add] using World.cell?_spot hc
    ·cases hq
   subst hs
   have hra:SlAt W b o l:=by
    intro i q hq;have:=(hps i q hq).1;rw[Addr.add_mid] at this;exact M2 this
   subst hpl;refine⟨l,.inr ⟨b,o,cap,rfl,hra,?_,by omega⟩,λy hy=>?_⟩
   ·have:=hra 0 l[0] (by simp[h0]) 0 _ rfl
    exact World.block_lt_of_cell? W _ this
   ·obtain⟨i,hi,rfl⟩:=B5 hy
    exact (hps i l[i] (by simp[hi])).2
theorem Aj1 {H:Type} {enc:TypeId×Value->H} {w:World} {base:Nat} {sp:Nat->Bool} {held:Bool} {fuel:Nat} {cs:List Value} {x:DataW H×List MemPlace}
  (h:DataW.trod enc Tryz.prog w base sp held fuel 102 cs=some x):∃(y:Rb) (rv sv:Value),cs=[.string y.nm,rv,sv,.string y.ad,.int .i64 y.si,.int .i64 y.st]/\RbSrc w y rv sv:=by
 obtain⟨xs,m,_,rfl,hl,hlen,hf⟩:=DataW.trod_struct Tryz.underlying102 h;rw[Aiy] at hl;obtain⟨c0,c1,c2,c3,c4,c5,rfl⟩:=Aj0 hl;obtain⟨y0,y1,y2,y3,y4,y5,rfl⟩:=Aj0 (hlen.trans rfl:xs.length=6);have h0:DataW.trod enc Tryz.prog w base sp held m 9 (([c0,c1,c2,c3,c4,c5].drop 0).take (Tryz.prog.cellsOf 9))=some y0:=hf 0 {name:= "Name",type:=9,offset:=0,embedded:=false,tag:= "",pkgPath:= "",byteOffset:=0} rfl;have h1:DataW.trod enc Tryz.prog w base sp held m 30 (([c0,c1,c2,c3,c4,c5].drop 1).take (Tryz.prog.cellsOf 30))=some y1:=hf 1 {name:= "Recipe",type:=30,offset:=1,embedded:=false,tag:= "",pkgPath:= "",byteOffset:=16} rfl;have h2:DataW.trod enc Tryz.prog w base sp held m 31 (([c0,c1,c2,c3,c4,c5].drop 2).take (Tryz.prog.cellsOf 31))=some y2:=hf 2 {name:= "Slots",type:=31,offset:=2,embedded:=false,tag:= "",pkgPath:= "",byteOffset:=40} rfl;have h3:DataW.trod enc Tryz.prog w base sp held m 9 (([c0,c1,c2,c3,c4,c5].drop 3).take (Tryz.prog.cellsOf 9))=some y3:=hf 3 {name:= "At",type:=9,offset:=3,embedded:=false,tag:= "",pkgPath:= "",byteOffset:=64} rfl;have h4:DataW.trod enc Tryz.prog w base sp held m 3 (([c0,c1,c2,c3,c4,c5].drop 4).take (Tryz.prog.cellsOf 3))=some y4:=hf 4 {name:= "Since",type:=3,offset:=4,embedded:=false,tag:= "",pkgPath:= "",byteOffset:=80} rfl;have h5:DataW.trod enc Tryz.prog w base sp held m 3 (([c0,c1,c2,c3,c4,c5].drop 5).take (Tryz.prog.cellsOf 3))=some y5:=hf 5 {name:= "Start",type:=3,offset:=5,embedded:=false,tag:= "",pkgPath:= "",byteOffset:=88} rfl;clear hf h;rw[O9] at h0 h3;rw[AbU] at h4 h5;rw[Ams] at h1;rw[Amt] at h2;simp only[List.drop_succ_cons,List.drop_zero,List.take_succ_cons,List.take_zero] at h0 h1 h2 h3 h4 h5;obtain⟨nm,rfl,rfl,z0⟩:=J4 h0;obtain⟨ad,rfl,rfl,z3⟩:=J4 h3;obtain⟨si,rfl,rfl,_⟩:=M7 h4;obtain⟨st,rfl,rfl,_⟩:=M7 h5;obtain⟨l,l2,zl⟩:=Acs h2
 have hsh:∃a l c,c1=.slice a l c:=by
  rcases DataW.trod_slice Tryz.underlying30 h1 with⟨hcs,_⟩|⟨a,len,cap,elems,rest,n,_,hcs,_⟩
  ·exact⟨_,_,_,by simpa using hcs⟩
  ·exact⟨_,_,_,by simpa using hcs⟩
 obtain⟨ps,l1,zp⟩:=Adn (enc:=enc) (base:=base) (sp:=sp) (held:=held) (v:=c1) (d:=y1.1) (p:=y1.2) hsh ⟨m,by
  obtain⟨a,l,c,rfl⟩:=hsh;simpa [Value.cells] using h1⟩
 exact⟨⟨nm,ps,l,ad,si,st⟩,c1,c2,rfl,⟨l1,l2,zp,zl,z0,z3⟩⟩
end Go.Proofs.YtgecdacgmehmbaaGreatDoor
