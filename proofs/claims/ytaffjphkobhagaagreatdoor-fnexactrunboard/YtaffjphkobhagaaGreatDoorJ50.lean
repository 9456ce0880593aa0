/- Houses as they are handed to a law: lists of batches that are alike; their sizes. -/
import Derived.Test.YtaffjphkobhagaaGreatDoorJ47
import Derived.Conc.LeavingOf
import Derived.Test.YtaffjphkobhagaaGreatDoorJ48
set_option maxRecDepth 20000
set_option maxHeartbeats 8000000
namespace Go.Proofs.YtaffjphkobhagaaGreatDoor
open Proofs.Tryz
variable{a:Act}{K:Act->World->Prop}{ops:Array Oper}{cur:Array Value}{held:Bool}{s sep:BA}{l:List (Nat×Value)}{ss ws:List BA}{rest:List Nat}{bs:List Rb}{Shun:Loc->Prop}{B b fuel i k n:Nat}{sp:Nat->Bool}{o:Oper}{x:Operand}{r:Option Nat}{P:Program}{e:TypeId}{bv dv lv tv xv:Value}{V W u u' w w':World}
section
open Go.RowKit
theorem BZ.rbs{v:Value}(h:BZ w b bs)(hb:b<w.heap.size)(hs:GM W v bs)(hsm:Ad bs bs.length):Pt w (Sy b bs.length bs.length) bs:=by
 obtain⟨a,c,-,hm,a0⟩:=hs;refine⟨_,_,rfl,hm,λhp=>⟨b,0,rfl,λi x hx=>?_,hb⟩⟩;obtain⟨b1,b2,hr,ho⟩:=h i x hx;obtain⟨g,o,-,a2,-⟩:=a0 hp;obtain⟨rv,sv,-,a1⟩:=a2 i x hx;obtain⟨np,ns⟩:=hsm i x (A2.1 hx).1 hx;exact⟨_,_,by rw[Nat.zero_add];exact hr,ho.v a1 np ns⟩
theorem BZ.open(h:BZ w b bs)(hk:k<bs.length):∃b1 b2,(AS w b (k*6) (Tz (bs[k]).nm)/\AS w b (k*6+1) (Sy b1 (bs[k]).ps.length (bs[k]).ps.length)/\AS w b (k*6+2) (Sy b2 (bs[k]).sl.length (bs[k]).sl.length)/\AS w b (k*6+3) (Tz (bs[k]).ad)/\AS w b (k*6+4) (Iz (bs[k]).si)/\AS w b (k*6+5) (Iz (bs[k]).st))/\AO w (b+1) bs[k] b1 b2:=by
 obtain⟨b1,b2,hr,ho⟩:=h k _ (A0 hk);exact⟨b1,b2,⟨hr 0 _ rfl,hr 1 _ rfl,hr 2 _ rfl,hr 3 _ rfl,hr 4 _ rfl,hr 5 _ rfl⟩,ho⟩
theorem AaV(bs:List Rb)(b1 b2:Nat)(w:World)(h1:BZ w b1 bs)(l1:b1<w.heap.size)(h2:BZ w b2 bs)(l2:b2<w.heap.size)(hn:bs.length<=1048576)(hsm:Ad bs bs.length):
  cU prog 25 #[Sy b1 bs.length bs.length,Sy b2 bs.length bs.length] w (.bool true):=by
 have Hsm:Hid (Ad bs bs.length):=hsm;clear hsm;delta cU;go_in;go_wp2;(try dsimp only[Iz,Sy,Sx,Nz,Vz,Tz,Ez,Pz]);go_loopw [5] (λi w'=>∃k:Nat,k<=bs.length/\i=.int .i64 k/\Up w w') (λi _=>bs.length-(intOf i).toNat)
 case atStart=>exact⟨0,oM,rfl,A4 _ _⟩
 case round =>
  obtain⟨k,hk,rfl,hB⟩:=hrel;by_cases hp:k<bs.length
  .obtain⟨np,ns⟩:=Hsm.out k _ hp (A0 hp);obtain⟨p1,p2,⟨c0,c1,c2,c3,c4,c5⟩,a0⟩:=(h1.up hB l1).open hp;obtain⟨q1,q2,⟨d0,d1,d2,d3,d4,d5⟩,a1⟩:=(h2.up hB l2).open hp;generalize bs[k]=x0 at *;have Ho1:Hid (AO wr (b1+1) x0 p1 p2):=a0;have Ho2:Hid (AO wr (b2+1) x0 q1 q2):=a1;clear a0 a1;go_wp2_with fail;go_region_with (go_at_call 63;refine (Ac6 x0 p1 p2 q1 q2 _ _ _ (Ho1.out.up (A4 _ _).drew) (Ho2.out.up (A4 _ _).drew) np ns).mono ?_;rintro e w1 ⟨rfl,a3⟩)
   all_goals
    have a2:=D3 hB.drew a3;clear c0 c1 c2 c3 c4 c5 d0 d1 d2 d3 d4 d5;go_wp2_with fail;go_roundw
    case rel=>exact⟨k+1,oM,mO,a2⟩
    case measure=>simp[intOf];omega
  .go_wp2_with fail;go_ret;exact⟨rfl,hB⟩
structure Z0 (w:World) (h:House) (tv bv xv dv:Value):Prop where
 t:Ls w tv h.sh.tg
 b:Bs w bv h.sh.bs
 x:GM w xv h.bs
 d:EO w dv h.ds
theorem Z0.up{h}(H:Z0 w h tv bv xv dv)(hb:Up w w'):Z0 w' h tv bv xv dv:=⟨H.t.up hb,H.b.up hb,H.x.up hb,H.d.up hb⟩
theorem Z0.shapes{h:House}(H:Z0 w h tv bv xv dv):∃a1 c1 a2 c2 a3 c3 a4 c4,tv=Vz a1 h.sh.tg.length c1/\bv=Vz a2 h.sh.bs.length c2/\xv=Vz a3 h.bs.length c3/\dv=Vz a4 h.ds.length c4:=by
 obtain⟨a1,c1,e1,-⟩:=H.t;obtain⟨a2,c2,e2,-⟩:=H.b;obtain⟨a3,c3,e3,-⟩:=H.x;obtain⟨a4,c4,e4,-⟩:=H.d;grind
theorem Z0.book{h}(H:Z0 w h tv bv xv dv):Z5 w (.agg #[tv,bv]) h.sh:=⟨tv,bv,rfl,H.t,H.b⟩
structure AF (h:House):Prop where
 k:Qx h.sh
 n:h.bs.length<=1048576
 x:Ad h.bs h.bs.length
 d:h.ds.length<=1048576
structure HC (w:World) (h:House) (tv bv:Value) (b:Nat) (dv:Value):Prop where
 t:Ls w tv h.sh.tg
 k:Bs w bv h.sh.bs
 x:BZ w b h.bs
 l:b<w.heap.size
 d:EO w dv h.ds
theorem HC.up{h:House}(H:HC w h tv bv b dv)(hb:Up w w'):HC w' h tv bv b dv:=⟨H.t.up hb,H.k.up hb,H.x.up hb H.l,A1 H.l hb.size,H.d.up hb⟩
theorem HC.v{h:House}{tv' bv' xv' dv':Value}(H:HC w h tv bv b dv)(hs:Z0 W h tv' bv' xv' dv')(hm:AF h):HV w h tv bv (Sy b h.bs.length h.bs.length) dv:=⟨H.t,H.k,H.x.rbs H.l hs.x hm.x,H.d⟩
theorem HC.book{h}(H:HC w h tv bv b dv):Z5 w (.agg #[tv,bv]) h.sh:=⟨tv,bv,rfl,H.t,H.k⟩
theorem HC.shapes{h}(H:HC w h tv bv b dv):∃a1 c1 a2 c2 a4 c4,tv=Vz a1 h.sh.tg.length c1/\bv=Vz a2 h.sh.bs.length c2/\dv=Vz a4 h.ds.length c4:=by
 obtain⟨a1,c1,e1,-⟩:=H.t;obtain⟨a2,c2,e2,-⟩:=H.k;obtain⟨a4,c4,e4,-⟩:=H.d;grind
theorem TH(h:House)(tv bv xv dv:Value)(l:Int)(w:World)(H:Z0 w h tv bv xv dv)(hl:0<=l)(hl':l<=1048576):
  Calls prog 4 #[.agg #[Iz h.now,Iz h.last,tv,bv,xv,dv],Iz l] w λe' w'=>(∃x:Int,e'=.returned (Iz x)/\(0<=x->AF h)/\x<=1048576)/\Up w w':=by
 obtain⟨a1,c1,a2,c2,a3,c3,a4,c4,rfl,rfl,rfl,rfl⟩:=H.shapes;have a9:=(A4 w.heap.size w).alloc (A3 _) (.cells (Hcz h a1 c1 a2 c2 a3 c3 a4 c4).toArray 29);have hC:CB (w.alloc (.cells (Hcz h a1 c1 a2 c2 a3 c3 a4 c4).toArray 29)) w.heap.size (Hcz h a1 c1 a2 c2 a3 c3 a4 c4):=E9 w _ _;go_in;go_upto_region 1 with fail;have b0:=hC.2.2;have H1:=H.up a9;clear H;obtain⟨d0,d1,d2,d3,d4,d5⟩:=hC.c6;go_wp2_with fail;refine (XY h.sh _ _ _ H1.book hl hl').mono ?_;rintro e w2 ⟨⟨y2,rfl,b6,b1⟩,a7⟩;have a0:=D3 a9 a7;clear d0 d1 d2 d3 d4 d5;by_cases g2:y2<0
 .go_wp2_with fail;go_ret;exact⟨⟨_,rfl,oM,oM⟩,a0⟩
 have K2:Hid (Qx h.sh):=b1 oM;clear b1;obtain⟨d0,d1,d2,d3,d4,d5⟩:=(hC.up a7 b0).c6;go_wp2_with fail;refine (AaM h.bs _ _ _ oM oM (H1.x.up a7)).mono ?_;rintro e w3 ⟨⟨y3,rfl,b2,b7⟩,a8⟩;have a5:=D3 a0 a8;clear d0 d1 d2 d3 d4 d5;by_cases g3:y3<0
 .go_wp2_with fail;go_ret;exact⟨⟨_,rfl,oM,oM⟩,a5⟩
 have K3:Hid _:=b2 oM;clear b2;obtain⟨d0,d1,d2,d3,d4,d5⟩:=(hC.up (D3 a7 a8) b0).c6;go_wp2_with fail;refine (UJ h.ds _ _ _ oM oM (H1.d.up (D3 a7 a8))).mono ?_;rintro e w4 ⟨⟨y4,rfl,b3,b4⟩,b5⟩;have a6:=D3 a5 b5;clear d0 d1 d2 d3 d4 d5;by_cases g4:y4<0
 .go_wp2_with fail;go_ret;exact⟨⟨_,rfl,oM,oM⟩,a6⟩
 have K4:Hid (AF h):=⟨K2.out,by have:=K3.out.1;omega,K3.out.2,by have:=b3 oM;omega⟩;clear b3;go_wp2_with fail;go_ret;exact⟨⟨_,rfl,λ_=>K4.out,b4⟩,a6⟩
theorem UR(h:House)(tv bv xv dv:Value)(l:Int)(w:World)(H:Z0 w h tv bv xv dv)(hl:0<=l)(hl':l<=1048576):
  Calls prog 4 #[.agg #[Iz h.now,Iz h.last,tv,bv,xv,dv],Iz l] w λe' w'=>(∃x:Int,e'=.returned (Iz x)/\(0<=x->AF h))/\Up w w' :=
 (TH h tv bv xv dv l w H hl hl').mono λ_ _ ⟨⟨x,e,hx,_⟩,hb⟩=>⟨⟨x,e,hx⟩,hb⟩
end
section
open Go.ChangeShapes Go.WideShapes Go.ChangeAt Go.RowKit
theorem Yw:prog.cellsOf 29=6:=sI
theorem PL:prog.cellsOf 72=3:=sI
theorem Yx:prog.cellsOf 27=1:=sI
theorem AcU:prog.cellsOf 26=1:=sI
theorem AhK{α:Type}{l:List α}(h:l.length=5):∃a b c d e,l=[a,b,c,d,e]:=by
 match l,h with
 | [a,b,c,d,e],_=>exact⟨a,b,c,d,e,rfl⟩
theorem AaW{H:Type}{enc:TypeId×Value->H}{base:Nat}{cs:List Value}{x:DataW H×List MemPlace}
  (h:DataW.trod enc prog w base sp held fuel 72 cs=some x):∃y:Done,cs=y.cellsL/\y.nm.size<=maxLen:=by
 obtain⟨xs,m,_,rfl,hl,a0,hf⟩:=DataW.trod_struct underlying72 h;rw[PL] at hl;obtain⟨c0,c1,c2,rfl⟩:=Qm hl;obtain⟨y0,y1,y2,rfl⟩:=Qm (a0.trans rfl);have h0:=hf 0 {name:= "Name",type:=9,offset:=0,embedded:=false,tag:= "",pkgPath:= "",byteOffset:=0} rfl;have h1:=hf 1 {name:= "End",type:=3,offset:=1,embedded:=false,tag:= "",pkgPath:= "",byteOffset:=16} rfl;have h2:=hf 2 {name:= "Tick",type:=3,offset:=2,embedded:=false,tag:= "",pkgPath:= "",byteOffset:=24} rfl;obtain⟨nm,rfl,rfl,z0⟩:=L8 h0;obtain⟨e,rfl,rfl,_⟩:=Y5 h1;obtain⟨t,rfl,rfl,_⟩:=Y5 h2;exact⟨⟨nm,e,t⟩,rfl,z0⟩
theorem Qg{H:Type}{enc:TypeId×Value->H}{base:Nat}{v:Value}{x:DataW H×List MemPlace}
  (h:DataW.trod enc prog W base sp held fuel 27 [v]=some x):∃l,EO W v l:=by
 rcases DataW.trod_slice underlying27 h with⟨hcs,_⟩|⟨a,len,cap,elems,rest,n,_,hcs,_,hb,hl,hm,hlen,hel,_,_⟩
 .obtain rfl:v=Nz:=by simpa using hcs
  exact⟨[],_,_,rfl,dC,λh=>by simp at h⟩
 .obtain rfl:v=Vz _ len cap:=by simpa using hcs
  clear hcs h
  have a0:∀i,i<len->∃y:Done,W.cells? base (a.add (i*3)) 3=some y.cellsL/\y.nm.size<=maxLen:=by
   intro i hi;have h1:=hel i hi;rw[A0 oM] at h1;obtain⟨cs,hc,ht⟩:=Option.bind_eq_some_iff.1 h1;obtain⟨y,rfl,r⟩:=AaW ht;exact⟨y,hc,r⟩
  obtain⟨l,a3,a4⟩:=FA len _ a0;rcases C3 len with h0|h0
  .subst h0;exact⟨[],_,_,rfl,dC,λh=>by simp at h⟩
  .obtain⟨b,o,a1⟩:=a
   have hs:a1=none:=by
    obtain⟨q,hq,_⟩:=a0 0 h0;simpa [Addr.add] using GL oM hq
   subst hs
   have a2:DU W b o l:=by
    intro i q hq;have:=a4 i q hq;rw[Addr.add_mid] at this;exact⟨Y0 this.1,this.2⟩
   subst a3;exact⟨l,_,cap,rfl,oM,λ_=>⟨b,o,rfl,a2,World.block_lt_of_cell? W _ ((a2 0 l[0] (by simp)).1 0 _ rfl)⟩⟩
theorem US{H:Type}{enc:TypeId×Value->H}{base:Nat}{v:Value}{x:DataW H×List MemPlace}
  (h:DataW.trod enc prog W base sp held fuel 26 [v]=some x):∃l,GM W v l:=by
 rcases DataW.trod_slice underlying26 h with⟨hcs,_⟩|⟨a,len,cap,elems,rest,n,_,hcs,_,hb,hl,hm,hlen,hel,_,_⟩
 .obtain rfl:v=Nz:=by simpa using hcs
  exact⟨[],_,_,rfl,dC,λh=>by simp at h⟩
 .obtain rfl:v=Vz _ len cap:=by simpa using hcs
  clear hcs h
  have a0:∀i,i<len->∃y,∃rv sv,W.cells? base (a.add (i*6)) 6=some [Tz y.nm,rv,sv,Tz y.ad,Iz y.si,Iz y.st]/\Ew W y rv sv:=by
   intro i hi;have h1:=hel i hi;rw[A0 oM] at h1;obtain⟨cs,hc,ht⟩:=Option.bind_eq_some_iff.1 h1;obtain⟨y,rv,sv,rfl,r⟩:=Ym ht;exact⟨y,rv,sv,hc,r⟩
  obtain⟨bs,a3,a4⟩:=FA len _ a0;rcases C3 len with h0|h0
  .subst h0;exact⟨[],_,_,rfl,dC,λh=>by simp at h⟩
  .obtain⟨b,o,a1⟩:=a
   have hs:a1=none:=by
    obtain⟨q,rv,sv,hq,_⟩:=a0 0 h0;simpa [Addr.add] using GL oM hq
   subst hs
   have a2:Mq W b o bs:=by
    intro i q hq;obtain⟨rv,sv,this,r⟩:=a4 i q hq;rw[Addr.add_mid] at this;exact⟨rv,sv,Y0 this,r⟩
   subst a3;refine⟨bs,_,cap,rfl,oM,λ_=>⟨b,o,rfl,a2,?_⟩⟩;obtain⟨rv,sv,hr,-⟩:=a2 0 bs[0] (by simp);exact World.block_lt_of_cell? W _ (hr 0 _ rfl)
theorem Qh{H:Type}{enc:TypeId×Value->H}{base:Nat}{cs:List Value}{x:DataW H×List MemPlace}
  (h:DataW.trod enc prog w base sp held fuel 29 cs=some x):∃(y:House)(tv bv xv dv:Value),cs=[Iz y.now,Iz y.last,tv,bv,xv,dv]/\Z0 w y tv bv xv dv:=by
 obtain⟨xs,m,_,rfl,hl,a0,hf⟩:=DataW.trod_struct underlying29 h;obtain⟨c0,c1,c2,c3,c4,c5,rfl⟩:=Yk hl;obtain⟨y0,y1,y2,y3,y4,rfl⟩:=AhK (a0.trans rfl);have h0:=hf 0 {name:= "Now",type:=3,offset:=0,embedded:=false,tag:= "",pkgPath:= "",byteOffset:=0} rfl;have h1:=hf 1 {name:= "Last",type:=3,offset:=1,embedded:=false,tag:= "",pkgPath:= "",byteOffset:=8} rfl;have h2:=hf 2 {name:= "Share",type:=25,offset:=2,embedded:=false,tag:= "",pkgPath:= "",byteOffset:=16} rfl;have h3:=hf 3 {name:= "Batches",type:=26,offset:=4,embedded:=false,tag:= "",pkgPath:= "",byteOffset:=64} rfl;have h4:=hf 4 {name:= "Dones",type:=27,offset:=5,embedded:=false,tag:= "",pkgPath:= "",byteOffset:=88} rfl;obtain⟨a2,rfl,rfl,_⟩:=Y5 h0;obtain⟨a1,rfl,rfl,_⟩:=Y5 h1;obtain⟨b,tv,bv,e,l1,l2⟩:=Yv h2;obtain⟨rfl,rfl⟩:=by simpa using e
 obtain⟨bs,l3⟩:=US h3;obtain⟨ds,l4⟩:=Qg h4;exact⟨⟨a2,a1,b,bs,ds⟩,c2,c3,c4,c5,rfl,⟨l1,l2,l3,l4⟩⟩
end
section
open Go.Conc
theorem Gr:prog.globals.size=gN:=sI
theorem KR:((List.range gN).all λg=>(((begin prog (λ_ _=>0) default).world.heap[g]?).bind Obj.row?).isSome)=true:=sI
theorem Ys(h:W.ShapedOpen prog)(b:Nat)(c:Array Value)(t:TypeId)(hb:W.heap[b]?=some (Obj.pending c t)):gN<=b:=by
 refine Nat.le_of_not_lt λhlt=>?_;have h1:=List.all_eq_true.1 KR b (List.mem_range.2 hlt);obtain⟨⟨a0,e⟩,hr⟩:=Option.isSome_iff_exists.1 h1;obtain⟨cs,hc,_⟩:=h.1 b a0 e sO hr;grind
end
namespace Bd
open Go.Conc Go.ConcN Go.RowKit
open Ld (I8 none_ tp)
theorem KS:Oq (E0 X5 4) (U9 X5 4 3) 3 (.call {callee:=.builtin .append,args:=#[.tmp 12,.tmp 14],argTypes:=#[22,22]}) (some 15):=oq sI
theorem NJ:Oq (E0 X5 4) (U9 X5 4 4) 4 (.assign (.tmp 15)) (some 3):=oq sI
theorem PJ(hg:u.grownBy u' r)(hr:∀x,r=some x->B<=x)(hB:B<=u.heap.size):Below B u u':=⟨hg.os,hg.tape,hg.output,hg.size,λb hb=>hg.block b oM λe=>by have:=hr b e.symm;omega⟩
theorem TE{Q:Exit->Act->World->Prop}(ho:ops[i]?=some o)(hg:o.guard=none)(h:Oper.wp P o a w (wpOps P ops Q rest) Q):wpOps P ops Q (i::rest) a w:=by
 unfold wpOps;rw[ho];simp[Region.wanted,hg];exact .inl h
theorem AgA{Q:Exit->Act->World->Prop}(hop:o.op=.assign x)(h:K (a.put o.dst (a.eval x)) w):Oper.wp P o a w K Q:=by
 unfold Oper.wp;simp[execOp,hop];exact h
theorem TG{T:Array Value}(h:Has n T l)(x:Nat)(v)(hm:(x,v)∈l):(⟨T,[]⟩:Act).eval (.tmp x)=v:=by
 show T.getD x undef=v
 have:=h.get x v hm;simp_all
theorem Wo{base v}(h:F9 w base v ss):∀x,v.ownBlock=some x->base<=x:=λx hx=>(h.lt x hx).1
def QB(base:Nat)(Hb:Nat)(ss:List BA)(a:Act)(u:World):Prop:=∃T v,a=⟨T,[]⟩/\Has 32 T [(3,v),(1,.pointer (some ⟨Hb,0,none⟩))]/\F9 u base v ss/\Bo u v
theorem Ad1(base Hb)(ss)(a:Act):X9 (QB base Hb ss a):=λ_ _ _ h=>h
theorem AhG{T:Array Value}{Lb Hb base c:Nat}{v:Value}(hT:Has 32 T [(14,Sy Lb n c),(12,v),(1,Pz Hb 0)])(u:World)(hbase:base<=u.heap.size)(hO:F9 u base v [s])(hA:Bo u v)(hL:Ls u (Sy Lb n c) ss)(hn:ss.length<=1000):
  wpOps prog (E0 X5 4) (λe a u'=>e=.normal/\QB base Hb ([s]++ss) a u'/\Below base u u') [3,4] ⟨T,[]⟩ u:=by
 refine TE KS.1 KS.2.2.2 ?_;have hw:Region.wanted (U9 X5 4 3) (yielded (E0 X5 4) T)=true:=by simp[Region.wanted,KS.2.2.2]
 have:=PI (E:=False) (K:=wpOps prog (E0 X5 4) (λe a u'=>e=.normal/\QB base Hb ([s]++ss) a u'/\Below base u u') [4]) (Q:=λe a u'=>e=.normal/\QB base Hb ([s]++ss) a u'/\Below base u u') hw _ _ KS.2.1 base v _ [s] ss (TG hT 12 v dC) hO hA dC (TG hT 14 _ dC) hL gG hbase λv' w' h2 h2' h3=>?_
 .rw[if_pos hw] at this;exact this
 rw[KS.2.2.1]
 have a0:=hT.put 15 v' aS dC;refine TE NJ.1 NJ.2.2.2 (AgA NJ.2.1 ?_)
 unfold wpOps;have a1:=(a0.sub (l':=[(15,v'),(1,Pz Hb 0)]) dC).put 3 v' aS dC;refine⟨rfl,⟨_,v',?_,a1.sub dC,h2,h2'⟩,PJ h3 (Wo hO) hbase⟩;show (⟨(T.setIfInBounds 15 v').setIfInBounds 3 (Act.eval ⟨T.setIfInBounds 15 v',[]⟩ _),[]⟩:Act)=_
 rw[TG a0 15 v' dC]
noncomputable def AcS:Code:=match X5 with | .seq _ (.seq _ (.seq _ (.seq _ (.seq r _))))=>r|_=>.skip
theorem AgB:t59=AcS:=sI
theorem AhH(T:Array Value)(h:T.size=32):T=#[T.getD 0 undef,T.getD 1 undef,T.getD 2 undef,T.getD 3 undef,T.getD 4 undef,T.getD 5 undef,T.getD 6 undef,T.getD 7 undef,T.getD 8 undef,T.getD 9 undef,T.getD 10 undef,T.getD 11 undef,T.getD 12 undef,T.getD 13 undef,T.getD 14 undef,T.getD 15 undef,T.getD 16 undef,T.getD 17 undef,T.getD 18 undef,T.getD 19 undef,T.getD 20 undef,T.getD 21 undef,T.getD 22 undef,T.getD 23 undef,T.getD 24 undef,T.getD 25 undef,T.getD 26 undef,T.getD 27 undef,T.getD 28 undef,T.getD 29 undef,T.getD 30 undef,T.getD 31 undef]:=(AcC T 32 h).trans sI
theorem Dx{T:Array Value}(h:Has n T l)(i:Nat)(v:Value)(hm:(i,v)∈l):T.getD i undef=v:=by
 have:=h.get i v hm;rw[Array.getD_eq_getD_getElem?,this];rfl
theorem AhI{r:Code}{Q:Exit->Act->World->Prop}(h:∀K:Exit->Act->World->Prop,(∀e a w,Q e a w->K e a w)->r.wp P K a w):r.wp P Q a w:=by grind
section
variable {h:House} {a1 a2 a3 a4:Option Addr} {c1 c2 c3 c4:Nat} {Hb:Nat}
theorem AcT{o:Nat}(hS:DU w b o h.ds)(hk:k<h.ds.length)(hB:Up w w')(hb:b<w.heap.size):AS w' b (o+k*3) (Tz (h.ds[k]).nm)/\AS w' b (o+k*3+1) (Iz (h.ds[k]).e)/\AS w' b (o+k*3+2) (Iz (h.ds[k]).t):=by
 have hr:=(hS k _ (A0 hk)).1;refine⟨(hB.cell (p:=⟨b,o+k*3,none⟩) hb).trans ?_,(hB.cell hb).trans ?_,(hB.cell hb).trans ?_⟩
 .exact hr 0 _ rfl
 .exact hr 1 _ rfl
 .exact hr 2 _ rfl
theorem AaQ(hk:k<h.ds.length)(ss:List BA):ss++(P4 h).take k++[CE h.ds[k]]=ss++(P4 h).take (k+1):=by
 unfold P4;rw[List.append_assoc,A7 (by simpa using hk),List.getElem_map]
theorem AgC(v0 v2 v4 v5 v6 v7 v8 v9 v10 v11 v12 v13 v14 v15 v16 v17 v18 v19 v20 v21 v22 v23 v24 v25 v26 v27 v28 v29 v30 v31:Value)(w u:World)(hB0:Up w u)(kB:CB w Hb (Hcz h a1 c1 a2 c2 a3 c3 a4 c4))(hD:EO w (Vz a4 h.ds.length c4) h.ds)(hE:F6 w)(hP:BR w)(hok:F2 h)(hss:ss.length<=6)(hs0:0<ss.length)(hO:F9 u w.heap.size lv ss)(hA:Bo u lv):
  AcS.wp prog (λe a u'=>e=.normal/\QB w.heap.size Hb (ss++P4 h) a u'/\Below w.heap.size u u') ⟨#[v0,Pz Hb 0,v2,lv,v4,v5,v6,v7,v8,v9,v10,v11,v12,v13,v14,v15,v16,v17,v18,v19,v20,v21,v22,v23,v24,v25,v26,v27,v28,v29,v30,v31],[]⟩ u:=by
 have c6:=hok.2.1.1;have HDok:Hid (∀d∈h.ds,d.nm.size<=8/\1<=d.e/\d.e<=3/\0<=d.t/\d.t<=100000):=λd hd=>OA hok hd;have HDsz:Hid (∀d∈h.ds,(CE d).size<=maxLen):=λd hd=>by have:=Mn hok hd;unfold maxLen;omega
 have HE:Hid (F6 w):=hE;have HP:Hid (BR w):=hP;clear hE hP hok
 have b0:0<h.ds.length->∃b o,a4=some ⟨b,o,none⟩/\DU w b o h.ds/\b<w.heap.size:=by
  obtain⟨a,c,e,-,h2⟩:=hD;simp only[Value.slice.injEq] at e;obtain⟨rfl,-,-⟩:=e;exact h2
 have k5:∀W,Up w W->AS W Hb 5 (Vz a4 h.ds.length c4):=λW hB=>(hB.cell (p:=⟨Hb,5,none⟩) kB.2.2).trans (kB.1 5 _ rfl);have e5:=k5 u hB0;clear k5 kB;simp only[AcS,X5,Tryz.f7,Option.getD_some];apply AhI
 intro KK hKK;have HK:Hid _:=hKK;clear hKK;go_wp2_with fail;(try dsimp only[Iz,Sy,Sx,Nz,Vz,Tz,Ez,Pz]);go_loopw [3,5,19] (λv _ i w'=>∃k:Nat,k<=h.ds.length/\i=.int .i64 k/\F9 w' w.heap.size v (ss++(P4 h).take k)/\Bo w' v/\Up w w'/\Below w.heap.size u w') (λ_ _ i _=>h.ds.length-(intOf i).toNat)
 case atStart=>exact⟨0,oM,rfl,by simpa using hO,hA,hB0,A4 _ _⟩
 case round =>
  obtain⟨k,hk,rfl,a5,a8,hB,a9⟩:=hrel;by_cases hp:k<h.ds.length
  .obtain⟨b,o,c5,hS,hb⟩:=b0 oM;subst c5;obtain⟨f0,f1,f2⟩:=AcT hS hp hB hb;have Hd:Hid _:=HDok.out _ (List.getElem_mem hp);have Hz:Hid _:=HDsz.out _ (List.getElem_mem hp);have HT:Hid _:=AaQ hp ss;have b1:(ss++(P4 h).take k).length<=100:=by simp[P4];omega
   generalize (P4 h).take k=pre at *;generalize h.ds[k]=x0 at *;have d0:=B4 (Nat.le_of_lt hb) (A3 w.heap.size);have c7:w.heap.size<=wr.heap.size:=hB.size;have r1:=((A4 wr.heap.size wr).alloc (A3 _) (Kz [Tz x0.nm,Iz x0.e,Iz x0.t] 54)).mono c7;have hX:CB (wr.alloc (Kz [Tz x0.nm,Iz x0.e,Iz x0.t] 54)) wr.heap.size [Tz x0.nm,Iz x0.e,Iz x0.t]:=E9 wr _ _;have b2:=a5.up ((A4 wr.heap.size wr).alloc (A3 _) (Kz [Tz x0.nm,Iz x0.e,Iz x0.t] 54));have b6:=a8.up a5 ((A4 wr.heap.size wr).alloc (A3 _) (Kz [Tz x0.nm,Iz x0.e,Iz x0.t] 54));have b3:w.heap.size<=(wr.alloc (Kz [Tz x0.nm,Iz x0.e,Iz x0.t] 54)).heap.size:=gG
   have b4:=hB.trans r1;go_upto_region 8 with fail;generalize wr.alloc (Kz [Tz x0.nm,Iz x0.e,Iz x0.t] 54)=W2 at *;obtain⟨⟨g0,g1,g2⟩,-⟩:=hX.c3;have b7:=HE.out.up b4;have b8:=Lib.tabBelow_of_tabIs HP.out W2 b4;clear f0 f1 f2
   go_wp2_with (first
    | (go_at_call 22;refine (AcR x0 W2 b7 b8 Hd.out.1 Hd.out.2.1 Hd.out.2.2.1 Hd.out.2.2.2.1 Hd.out.2.2.2.2).mono ?_;rintro e W3 ⟨rfl,a6⟩;have a7:=b2.up a6;have b9:=b6.up b2 a6;have c8:w.heap.size<=W3.heap.size:=B4 b3 a6.size)
    | (at_builtin;refine AcO rfl _ _ rfl w.heap.size _ _ (ss++pre) [CE x0] rfl (F9.up a7 ((A4 _ _).alloc (A3 _) _)) (Bo.up b9 a7 ((A4 _ _).alloc (A3 _) _)) (by rw[A9];omega) rfl (Aa1 W3 (CE x0) _ Hz.out) (by rw[A9] at b1;simp;omega) gG ?_))
   intro v4 W4 a0 all4 grow4;have r4:Below w.heap.size wr W4:=(r1.trans (a6.mono b3)).trans ((((A4 W3.heap.size W3).alloc (A3 _) _).mono c8).trans (PJ grow4 (Wo a7) gG));have a0:F9 W4 w.heap.size v4 (ss++(P4 h).take (k+1)):=by rw[← HT.out,List.append_assoc];exact a0
   have c9:=hB.trans r4;have b5:=a9.trans r4;go_wp2_with fail;go_roundw
   case rel=>exact⟨k+1,oM,mO,a0,all4,c9,b5⟩
   case measure=>simp[intOf];omega
  .have HT:Hid ((P4 h).take k=P4 h):=D0 (by unfold P4;simp;omega);rw[HT.out] at a5;go_wp2_with fail;refine HK.out _ _ _ ⟨rfl,⟨_,_,rfl,⟨rfl,?_⟩,a5,a8⟩,a9⟩;intro p hp;simp only[List.mem_cons,List.not_mem_nil,or_false] at hp;rcases hp with rfl|rfl<;>rfl
theorem AhJ{T:Array Value}(w u:World)(hT:Has 32 T [(3,lv),(1,Pz Hb 0)])(hB0:Up w u)(kB:CB w Hb (Hcz h a1 c1 a2 c2 a3 c3 a4 c4))(hD:EO w (Vz a4 h.ds.length c4) h.ds)(hE:F6 w)(hP:BR w)(hok:F2 h)(hss:ss.length<=6)(hs0:0<ss.length)(hO:F9 u w.heap.size lv ss)(hA:Bo u lv):
  t59.wp prog (λe a u'=>e=.normal/\QB w.heap.size Hb (ss++P4 h) a u'/\Below w.heap.size u u') ⟨T,[]⟩ u:=by
 rw[AhH T hT.1,Dx hT 3 lv dC,Dx hT 1 (Pz Hb 0) dC];exact AgC _ _ _ _ _ _ _ _ _ _ _ _ _ _ _ _ _ _ _ _ _ _ _ _ _ _ _ _ _ _ w u hB0 kB hD hE hP hok hss hs0 hO hA
end
end Bd
namespace Bd
open Go.Conc Go.ConcN Go.RowKit Go.Conc.Lib Go.ConcR.Gen Go.ConcN.Gen
open Ld (I8 none_ tp)
def tNl:BA:=⟨#[10]⟩
theorem AaS{s:FZs}{l}(h:(l.all λi=>(ops[i]?).all λo=>Cf P s [] o)=true):O8 P s [] (.inRegion ops l):=λi hi o ho=>by
 grind
theorem AiK:O8 prog (Ci fsD) [] (.inRegion (E0 X5 4) [3,4]):=AaS sI
theorem AiL:M7 prog (Ci fsD) [] t59=true:=sI
theorem AgD:Go.Proofs.YtaffjphkobhagaaGreatDoor.FrB prog (base 7):=⟨rfl,_,func7⟩
theorem AaT:sB 23=true:=sI
theorem AgE:DP prog sB gB SM 23:=by
 rcases SN.out _ AaT with h|⟨-,fn,h1,h2⟩
 .exact h
 .rw[func23] at h1;cases h1
  have h3:Tryz.f23.body.isSome=true:=sI
  grind
theorem OC(h:BR w):∃e f,w.heap[2]?=some (.cells (Lib.pow10Tab.map λz=>Value.int .u64 z).toArray e f):=by
 have hg:prog.globalNamed "internal/strconv.uint64pow10"=some 2:=sI
 unfold BR Lib.TabIs World.var? at h;grind
theorem UP(r:Rn)(zs:List Int):F1 r (zs.map λz=>Value.int .u64 z).toArray (zs.map λz=>Value.int .u64 z).toArray/\∀(i:Nat)(n:Int),((zs.map λz=>Value.int .u64 z).toArray)[i]?≠some (.int .u8 n):=by
 have a0:∀v∈(zs.map λz=>Value.int .u64 z).toArray,∃z,v=Value.int .u64 z:=λv hv=>by
  grind
 refine⟨F1.refl λv hv=>?_,λi n he=>?_⟩
 .obtain⟨z,rfl⟩:=a0 v hv;exact .int _ _
 .grind
section
variable {T:Array Value} {cs:List Frame}
end
theorem AaU{Wg Ch:Nat}(hS:∀l,Shun l->∃a,l=.cell a/\a.block<V.heap.size/\a.block≠Wg)(hne:Wg≠Ch)(hw:Wg<V.heap.size)(hc:Ch<V.heap.size)(hgl:prog.globals.size<=V.heap.size)(hnv:NV V)(hP:BR V)(hpw:2≠Wg/\2≠Ch){g cap:Nat}{f:Nat×Nat}(hg:V.heap[g]?=some (.cells cur e f))(hgg:prog.globals.size<=g)(hgw:g≠Wg/\g≠Ch)(hgs:∀a:Addr,a.block=g\/a.block=2->¬Shun (.cell a))(hall:∀x∈cur,∃s,x=Tz s)(hn:n=ws.length)(hws:∀(j:Nat) x,ws[j]?=some x->cur[j]?=some (Tz x))(hcap:ws.length<=cap)(hlen:ws.length<=1000)(hj:(Lib.join (ws.map (·.data.toList)) sep.data.toList).length<=1000000)
  {Post} {c:Frame} {cs:List Frame} {gs sl} {t:Trace} (hh:F0 prog Shun gs (G (Frame.enter prog 23 #[Sy g n cap,Tz sep] .normal) (c::cs)) t)
  (kk:∀gs' V' sl' t',F0 prog Shun gs' (G (c.finish (Tz ⟨(Lib.join (ws.map (·.data.toList)) sep.data.toList).toArray⟩)) cs) t'->V'.tape=V.tape->V'.os=V.os->V'.output=V.output->NV V'->V.heap.size<=V'.heap.size->(∀b,b<V.heap.size->b≠Wg->b≠Ch->V'.heap[b]?=V.heap[b]?)->D9 prog Post (crowd gs' V' sl') t'):D9 prog Post (crowd gs V sl) t:=by
 subst hn;obtain⟨pp,a0⟩:∃pp:F5,pp={P:=prog,ty:=97,Wg,Ch,Low:=V.heap.size,m0:=1,n:=0,val:=λ_=>undef,Shun,t0:=#[]}:=⟨_,rfl⟩;have hO:pp.Ok:=by subst a0;exact⟨hw,hc,hne,A3 _,hS,by show (0:Nat)<2147483648;decide⟩
 have a2:=(D1.1 hg).1;obtain⟨S,a1⟩:∃S:Nat->Prop,S=λb=>b=g\/b=2:=⟨_,rfl⟩;obtain⟨pe,pf,a9⟩:=OC hP;have a7:=(D1.1 a9).1
 have a3:HU S V.heap.size V:=by
  refine⟨λb hb=>?_,A3 _,λb hb=>?_⟩
  .subst a1;rcases hb with rfl|rfl
   .exact a2
   .exact a7
  .subst a1;rcases hb with rfl|rfl
   .refine⟨cur,e,f,hg,F1.refl λv hv=>?_,λi n he=>?_⟩
    .obtain⟨s,rfl⟩:=hall v hv;exact .string s
    .obtain⟨s,q⟩:=hall _ (Array.mem_of_getElem? he);cases q
   .obtain⟨q1,q2⟩:=UP _ Lib.pow10Tab;exact⟨_,pe,pf,a9,q1,q2⟩
 have b2:Gb prog gB SM (Y1 S V.heap.size):=by
  refine⟨hgl,λn hn=>?_,λt h=>VQ t h,λn hn hgn hv=>?_⟩
  .subst a1;exact .inr (by simpa [gB] using hn)
  .have hv:S n:=hv;subst a1;rcases hv with rfl|rfl
   .omega
   .simp[gB] at hgn
 have ap:Ap pp (Y1 S V.heap.size):=by
  subst a0 a1;refine⟨rfl,λb hb=>?_,λb hb=>?_,λa ha=>hgs a ha⟩
  .rcases hb with rfl|rfl
   .exact hgw.1
   .exact hpw.1
  .rcases hb with rfl|rfl
   .exact hgw.2
   .exact hpw.2
 have b0:S g:=by subst a1;exact .inl rfl
 have a4:F1 (Y1 S V.heap.size) #[Sy g ws.length cap,Tz sep] #[Sy g ws.length cap,Tz sep]:=by
  refine F1.refl λv hv=>?_;simp only[List.mem_toArray,List.mem_cons,List.not_mem_nil,or_false] at hv;rcases hv with rfl|rfl
  .exact .sl _ _ ⟨.inl ⟨b0,rfl⟩,rfl,rfl,rfl⟩
  .exact .string _
 have a5:∀τ(d:Nat),Calls prog 23 #[Sy g ws.length cap,Tz sep] {AW S V.heap.size V with tape:=τ,drawn:=d} λe u'=>∃v,e=.returned v/\(λv (_:World)=>v=Tz ⟨(Lib.join _ sep.data.toList).toArray⟩) v u':=λτ d=>by
  refine (Tryz.strings_Join g 0 cap ws sep _ (λj x hx=>?_) (by rw[Ku];exact a2) oM hcap (Nat.le_trans hj oM)).mono ?_
  .rw[a3.cell b0 τ d];simp only[World.cell?,hg,Nat.zero_add];exact hws j x hx
  .rintro e w' ⟨rfl,-⟩;exact⟨_,rfl,rfl⟩
 have hE:=Kt (main:=true) (p:=pp) SN (by subst a0;rfl) hO AaT AgE b2 a3.begin VT a4 ap (M:=λ_=>False) (λb hb=>(Nm b hb).elim) a5 c cs;obtain⟨TT,b1⟩:=hE;have a8:pp.P=prog:=by subst a0;rfl
 have a6:F0 pp.P Shun gs (G (Frame.enter prog 23 #[Sy g ws.length cap,Tz sep] .normal) (c::cs)) t:=by rw[a8];exact hh
 have:=Py (p:=pp) (Post:=Post) (λl hl=>.inl (by subst a0;exact hl)) TT b1 a6 (sl:=sl) λgs' M' g' w' sl' t' a6 hst=>?_
 .rw[a8] at this;exact this
 obtain⟨r1,u1,u0,v,v',rfl,-,-,-,-,hv,hq,-,-,-,-,hs⟩:=hst;rw[a8] at a6 ⊢
 have hq:v=_:=hq;subst hq;cases hv
 exact kk gs' w' sl' t' a6 hs.tape hs.os hs.output (hs.nv hnv) hs.size λb h1 h2 h3=>hs.low b (by subst a0;exact h1) (by subst a0;exact h2) (by subst a0;exact h3)
end Bd
end Go.Proofs.YtaffjphkobhagaaGreatDoor
