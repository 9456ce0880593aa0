/- RunBoard, whole: a call that may go. -/
import Derived.Test.YtaffjphkobhagaaGreatDoorJ50
import Derived.Test.YtaffjphkobhagaaGreatDoorSbg
set_option maxRecDepth 20000
set_option maxHeartbeats 8000000
namespace Go.Proofs.YtaffjphkobhagaaGreatDoor
open Proofs.Tryz
variable{args:Array Value}{ss:List BA}{k:List Item}{bs:List Rb}{l us vs:List Value}{Shun:Loc->Prop}{i j r:Nat}{u v:Value}{P:Value->Prop}{R:Value->World->Prop}{V2 w':World}
namespace Bd
open Go.Conc Go.ConcN Go.RowKit Go.Conc.Lib Go.ConcR.Gen Go.ConcN.Gen
open Ld (I8 none_ tp)
theorem AaX:2<prog.globals.size:=dC
section
variable {h:House} {a1 a2 a3 a4:Option Addr} {c1 c2 c3 c4:Nat} {W:World} {V:Nat->Prop}
theorem Afg(hi:i<h.bs.length):(O6 h)[i]?=some (Lp h i):=by
 unfold Lp;rw[A0 (by simpa [O6] using hi)];rfl
theorem Afh(hn:NV W)(hE:F6 (z W))(H:KQ W V h (Vz a1 h.sh.tg.length c1) (Vz a2 h.sh.bs.length c2) (Vz a3 h.bs.length c3) (Vz a4 h.ds.length c4))(hok:F2 h):Rr prog 7 #[.agg (Hcz h a1 c1 a2 c2 a3 c3 a4 c4).toArray] (λ_=>False) none_ W λv _=>v=Tz (EP h):=by
 intro Post c cs gs sl t hh kk;obtain⟨H0,hP⟩:=H.see (z W) (EQ rfl H.self);refine AcN hn hE H hok hh λgs W1 V1 sl t T Lb Sb hh hT k1 hSb hSb2 hH1 hS1 hB=>?_;obtain⟨W0,a6⟩:∃W0,W0=D6 W (.cells (Hcz h a1 c1 a2 c2 a3 c3 a4 c4).toArray 38):=⟨_,rfl⟩;have sz0:W0.heap.size=W.heap.size+1:=by rw[a6,E6]
 have b5:W0.heap[W.heap.size]?=some (.cells (Hcz h a1 c1 a2 c2 a3 c3 a4 c4).toArray 38 (0,0)):=by rw[a6];exact K9
 have a8:∀b,b<W.heap.size->W0.heap[b]?=W.heap[b]?:=λb hb=>by rw[a6,N6 hb]
 have b0:∀τ d,Below W.heap.size (tp W τ d) (tp W0 τ d):=λτ d=>{os:=by rw[a6];rfl,tape:=rfl,output:=by rw[a6];rfl,size:=by show W.heap.size<=W0.heap.size;omega,block:=λb hb=>a8 b hb};obtain⟨Wg,b2⟩:∃Wg,Wg=W1.heap.size+3:=⟨_,rfl⟩;have g7:Wg=W1.heap.size+3:=b2;obtain⟨X,hX⟩:∃X:Nat->Prop,X=λb=>b=Wg:=⟨_,rfl⟩;have nX:∀b,b≠Wg->¬X b:=λb hb hx=>by subst hX;exact hb hx
 obtain⟨st,sm,b3⟩:=id hB.wg;rw[← b2] at b3;have e8:Wg<V1.heap.size:=(D1.1 (show V1.heap[Wg]?=some _ from b3)).1;obtain⟨cl,b9,g3,d7⟩:=hB.ln;have e9:Lb<V1.heap.size:=(D1.1 b9).1;have g8:=hB.lb;have g9:=hok.few
 have b6:∀b,b<W0.heap.size->V1.heap[b]?=W0.heap[b]?:=λb hb=>by
  rw[hB.low b oM];by_cases e:b=W.heap.size
  .subst e;rw[hH1,b5]
  .rw[a8 b oM];exact k1.up.block b oM
 have b7:∀τ d,F9 (F7 X V1 τ d) W0.heap.size (Sy Sb 1 1) [L9 h]:=λτ d=>by
  refine⟨rfl,.inr ⟨Sb,1,#[Tz (L9 h)],rfl,oM,?_,A3 _,by unfold maxLen;omega,rfl,rfl⟩⟩;rw[Cz (nX _ oM),hB.low Sb hSb2];exact hS1
 have hI:CJ (λ_=>False) W0 (λu=>F9 u W0.heap.size (Sy Sb 1 1) [L9 h]/\Bo u (Sy Sb 1 1)/\Ls u (Sy Lb h.bs.length h.bs.length) (O6 h)) X (λl=>none_ l\/ShN (W1.heap.size+3) l) V1:=by
  refine⟨λl hl=>?_,⟨λb hb=>?_,λb hb=>?_,hB.nv⟩,λτ d=>⟨b7 τ d,?_,?_⟩,λτ d=>?_,λb hb=>?_⟩
  .rcases hl with hl|⟨a,e,ha⟩
   .exact hl.elim
   .exact⟨a,e,by subst hX;rw[b2];exact ha⟩
  .subst hX;have hb:b=Wg:=hb;subst hb;exact e8
  .subst hX;have hb:b=Wg:=hb;subst hb;exact⟨_,_,b3⟩
  .intro g hg cur e f hx x hxm;obtain rfl:Sb=g:=by simpa [Value.ownBlock] using hg
   rw[Cz (nX _ oM),hB.low Sb hSb2,hS1] at hx;simp only[Option.some.injEq,Obj.cells.injEq] at hx;obtain⟨rfl,-,-⟩:=hx;exact⟨L9 h,by simpa using hxm⟩
  .refine⟨some ⟨Lb,0,none⟩,h.bs.length,?_,?_,?_,λ_=>⟨Lb,0,rfl,?_,?_⟩⟩
   .simp[O6]
   .simp[O6];unfold maxLen;omega
   .intro s hs;obtain⟨x,hx,rfl⟩:=List.mem_map.1 hs;have:=Lq hok hx;unfold maxLen;omega
   .intro i s hs;have hi:i<h.bs.length:=by have:=(A2.1 hs).1;simpa [O6] using this
    rw[Afg hi] at hs;cases hs
    have:(F7 X V1 τ d).heap[Lb]?=some (.cells cl 9 (0,0)):=by rw[Cz (nX _ oM)];exact b9
    simp only[World.cell?,this,Nat.zero_add];exact d7 i hi dC
   ·(try unfold Up);rw[Ct];exact e9
  .rw[BG];refine {os:=?_,tape:=rfl,output:=?_,size:=?_,block:=λb hb=>?_}
   .show V1.os=W0.os
    rw[hB.os,a6];exact k1.up.os
   .show V1.output=W0.output
    rw[hB.output,a6];exact k1.up.output
   ·(try unfold Up);rw[Ct];show W0.heap.size<=V1.heap.size;omega
   .rw[Cz (nX _ oM)];exact b6 b hb
  .subst hX;have hb:b=Wg:=hb;right;omega
 rw[Et] at hh;refine Ahk (G':=QB W0.heap.size W.heap.size ([L9 h]++O6 h)) Afz AiK AgD rfl hI (Ad1 _ _ _) (λu hu hz=>AhG (hT.sub dC) u hz hu.1 hu.2.1 hu.2.2 (by simp[O6];omega)) hh λgs V2 sl t a2 hh hd2 hI2=>?_;obtain⟨T2,v2,rfl,d8,d9,e0⟩:=hI2.hold (λ_ _=>0) 0;rw[← Et] at hh;refine E8 (G6 (l':=[.code t59,.code t10]) 1 sI) hh λgs sl t d0 hh=>?_;rw[Et] at hh;have c7:=hI2.at d0;have a7:([L9 h]++O6 h).length<=6/\0<([L9 h]++O6 h).length:=⟨by simp[O6];omega,dC⟩;refine Ace (G':=QB W0.heap.size W.heap.size ([L9 h]++O6 h++P4 h)) Afz AiL AgD rfl c7 (Ad1 _ _ _) (λτ d=>?_) hh λgs V4 sl t a4' hh hd4 hI4=>?_
 .have a0:=c7.low τ d;rw[BG] at a0;have kB:CB (tp W0 τ d) W.heap.size (Hcz h a1 c1 a2 c2 a3 c3 a4 c4):=by rw[a6];exact E9 (tp W τ d) _ _
  have f0:EO (tp W0 τ d) (Vz a4 h.ds.length c4) h.ds:=(show EO (tp W τ d) _ _ from H0.d).up (b0 τ d);have f1:F6 (tp W0 τ d):=(show F6 (tp W τ d) from hE).up (b0 τ d);have f2:BR (tp W0 τ d):=Lib.tabBelow_of_tabIs (show BR (tp W τ d) from JJ (u:=z W) rfl hP) _ (b0 τ d);exact AhJ (tp W0 τ d) (F7 X (V2.at d0) τ d) d8 a0 kB f0 f1 f2 hok a7.1 a7.2 d9 e0
 obtain⟨T4,v4,rfl,c5,b4,c6⟩:=hI4.hold (λ_ _=>0) 0;rw[← Et] at hh;have el:[L9 h]++O6 h++P4 h=Y9 h:=rfl;rw[el] at b4;refine E8 (G6 (l':=[.inRegion (E0 X5 10) [0,1,2,3],.code .ret]) 2 sI) hh λgs sl t d1 hh=>?_;refine F4 (.move (.tmp 3)) 29 (v:=v4) hh c5 (λ_ e x=>by rw[Y2 e,c5.ei 3]) λgs sl t d2 T5 hh hT5=>?_;refine NA (d:=some 30) (.call {callee:=.value (.func 23),args:=#[.tmp 29,.const (Tz tNl)],argTypes:=#[22,9]}) hh (λ_ e w=>Dw _ e rfl (args:=#[v4,Tz tNl]) (by simp only[List.map_toArray,List.map_cons,List.map_nil];rw[hT5.ei 29];rfl) func23 sI sI w) λgs sl t d3 hf hh=>?_;obtain⟨V5,b1⟩:∃V5,((V4.at d1).at d2).at d3=V5:=⟨_,rfl⟩;have a9:CJ (λ_=>False) W0 (QB W0.heap.size W.heap.size ([L9 h]++O6 h++P4 h) ⟨T4,[]⟩) X (λl=>none_ l\/ShN (W1.heap.size+3) l) V5:=by rw[← b1];exact ((hI4.at _).at _).at _
 have f3:F9 (F7 X V5 (λ_ _=>0) 0) W0.heap.size v4 (Y9 h):=by rw[← b1];exact b4
 have f4:Bo (F7 X V5 (λ_ _=>0) 0) v4:=by rw[← b1];exact c6
 rw[b1];clear b4 c6 hI4 b1;obtain⟨g4,g5⟩:=Tu hok;have b8:0<(Y9 h).length:=by simp[Y9]
 rcases f3.2 with⟨-,h0⟩|⟨g,cap,cur,rfl,hbg,hg,hnc,hcm,hcs,htake⟩
 .omega
 have a5:∀(j:Nat) x,(Y9 h)[j]?=some x->cur[j]?=some (Tz x):=λj x hx=>by
  have hj:j<(Y9 h).length:=(A2.1 hx).1;have e1:((Y9 h).map Value.string)[j]?=some (Tz x):=by rw[B3,hx];rfl
  rw[← htake,List.getElem?_take,if_pos oM] at e1;simpa using e1
 obtain⟨x0,e4⟩:∃x0,(Y9 h)[0]?=some x0:=⟨_,A0 b8⟩
 have c8:¬X g:=by
  have:(F7 X V5 (λ_ _=>0) 0).cell? ⟨g,0,none⟩=some (Tz x0):=by simp only[World.cell?,hg];exact a5 0 x0 e4
  exact (AdE this).2
 have f5:V5.heap[g]?=some (.cells cur 9 (0,0)):=by rw[← Cz c8 (λ_ _=>0) 0];exact hg
 have f6:g≠Wg:=λe=>c8 (by subst hX;exact e);have f7:Wg<V5.heap.size:=a9.base.old Wg (by subst hX;rfl);have f8:=a9.size;have gl:=H.gl;have h2:=AaX
 have f9:BR V5:=by
  have a0:=a9.low (λ_ _=>0) 0;rw[BG] at a0;have h1:BR (F7 X V5 (λ_ _=>0) 0):=Lib.tabBelow_of_tabIs (Lib.tabBelow_of_tabIs hP _ (b0 (λ_ _=>0) 0)) _ a0;obtain⟨e,f,hb⟩:=OC h1;rw[Cz (nX _ oM)] at hb;have g0:prog.globalNamed "internal/strconv.uint64pow10"=some 2:=sI
  show World.var? _ _ _=_
  unfold World.var?;rw[g0,Option.bind_some,hb]
 have g1:g≠W.heap.size:=oM
 obtain⟨D,e5,e6,g6,e7⟩:∃D,D<V5.heap.size/\D≠g/\W1.heap.size<=D/\D≠Wg:=by
  by_cases e:g=W1.heap.size+1
  .exact⟨W1.heap.size+2,oM,oM,oM,oM⟩
  .exact⟨W1.heap.size+1,oM,λh=>e h.symm,oM,oM⟩
 have hj:=Afb hok;refine AaU (Wg:=W.heap.size) (Ch:=D) (V:=V5) (ws:=Y9 h) (sep:=tNl) (cur:=cur) (λl hl=>?_) oM oM e5 oM a9.base.pend f9 oM f5 oM ⟨g1,λe=>e6 e.symm⟩ (λa ha hs=>?_) (λx hx=>?_) rfl a5 oM oM (by show (Lib.join _ [10]).length<=_;omega) hh λgs V6 sl t hh e1 e2 e3 hn6 hs6 hl6=>?_
 .rcases hl with hl|⟨a,e,ha⟩
  .exact hl.elim
  .exact⟨a,e,oM,oM⟩
 .rcases hs with hs|⟨a',e,ha'⟩
  .exact hs.elim
  .cases e
   rcases ha with ha|ha<;>omega
 .exact f4 g rfl cur _ _ hg x hx
 rw[hf] at hh;have c9:=(hT5.sub (l':=[]) dC).put 30 (Tz ⟨(Lib.join ((Y9 h).map (·.data.toList)) tNl.data.toList).toArray⟩) aS dC
 refine F4 (.binOp .add 9 (.tmp 30) (.const (Tz tNl)) 9) 31 (v:=Tz (EP h)) hh c9 (λ_ e x=>QD _ _ e (c9.ei 30) rfl (by
  show (Lib.join _ [10]).toArray.size+1<=_
  rw[List.size_toArray];omega)) λgs sl t d4 T7 hh hT7=>?_
 refine F4 (.assign (.tmp 31)) 2 (v:=Tz (EP h)) hh (hT7.sub (l':=[(31,Tz (EP h))]) dC) (λ_ e x=>by rw[S5 _ _ e,hT7.ei 31]) λgs sl t d5 T8 hh hT8=>?_;refine E8 (Dv func7 results7 (hT8.gi 2)) hh λgs sl t d6 hh=>?_;refine kk X (λl=>none_ l\/ShN (W1.heap.size+3) l) gs _ sl t _ a9.hX (λb hb=>?_) hh ⟨λb hb=>?_,λb hb=>?_,hn6⟩ λτ d=>⟨rfl,?_⟩
 .subst hX;have hb:b=Wg:=hb;right;omega
 .subst hX;have hb:b=Wg:=hb;show b<V6.heap.size;omega
 .have g2:=hb;subst hX;have hb:b=Wg:=hb;subst hb;show ∃c e,V6.heap[b]?=_
  rw[hl6 b f7 oM (λe=>e7 e.symm)];exact a9.base.cov b g2
 .have a0:=a9.low τ d;rw[BG] at a0 ⊢
  refine {os:=?_,tape:=rfl,output:=?_,size:=?_,block:=λb hb=>?_}
  .show V6.os=W.os
   rw[e2];exact a0.os.trans (b0 τ d).os
  .show V6.output=W.output
   rw[e3];exact a0.output.trans (b0 τ d).output
  ·(try unfold Up);rw[Ct];show W.heap.size<=V6.heap.size;omega
  .rw[Cz (nX _ oM)];show V6.heap[b]?=W.heap[b]?
   rw[hl6 b oM oM oM];have:=a0.block b (by show b<W0.heap.size;omega);rw[Cz (nX _ oM)] at this;exact this.trans (a8 b hb)
end
end Bd
section
open Go.RowKit
theorem AaY:(prog.info? 38).map (·.size)=some 6:=sI
theorem BZ.set{w:World}{b:Nat}(h:BZ w b bs)(hr:r<b):BZ (w.setCell ⟨r,j,none⟩ u) b bs:=λi x hx=>by
 obtain⟨b1,b2,h1,h2⟩:=h i x hx;refine⟨b1,b2,λk v hv=>?_,h2.set oM⟩;rw[C1 _ _ _ _ dC];exact h1 k v hv
def DnO(w:World)(b:Nat)(l:List Done):Prop:=EO w (.slice (some ⟨b,0,none⟩) l.length l.length) l
theorem DnO.set{w:World}{b:Nat}{l:List Done}(h:DnO w b l)(hr:r≠b):DnO (w.setCell ⟨r,j,none⟩ u) b l:=by
 obtain⟨a,c,e,hm,a0⟩:=h;obtain⟨rfl,-,rfl⟩:=e;refine⟨_,_,rfl,hm,λhp=>?_⟩;obtain⟨g,o,e,a1,a2⟩:=a0 hp;obtain⟨rfl,rfl,-⟩:=e;refine⟨_,_,rfl,λi d hd=>⟨λk v hv=>?_,(a1 i d hd).2⟩,by simpa using a2⟩;rw[C1 _ _ _ _ dC];exact (a1 i d hd).1 k v hv
structure HX (w:World) (h:House) (base:Nat) (tv bv:Value) (b:Nat) (dv:Value):Prop where
 t:Y8 w base tv h.sh.tg
 k:Ea w base bv h.sh.bs
 x:BZ w b h.bs
 xt:P7 w b 0 (h.bs.length*6)
 l:base<=b/\b<w.heap.size
 d:∃g,dv=.slice (some ⟨g,0,none⟩) h.ds.length h.ds.length/\DnO w g h.ds/\P7 w g 0 (h.ds.length*3)/\base<=g/\g<w.heap.size
theorem LK(h:House)(tv bv xv dv:Value)(w:World)(H:Z0 w h tv bv xv dv)(hm:AF h):
  Calls prog 6 #[.agg #[Iz h.now,Iz h.last,tv,bv,xv,dv]] w λe w'=>(∃tu bu b du,e=.returned (.agg #[Iz h.now,Iz h.last,tu,bu,Sy b h.bs.length h.bs.length,du])/\HC w' h tu bu b du/\HX w' h w.heap.size tu bu b du)/\Up w w':=by
 obtain⟨a1,c1,a2,c2,a3,c3,a4,c4,rfl,rfl,rfl,rfl⟩:=H.shapes;go_in;go_upto_region 2 with fail;obtain⟨W1,c5,kP,kR,kO,c7,c8⟩:=cbE3 w (Hcz h a1 c1 a2 c2 a3 c3 a4 c4) 29 [Iz 0,Iz 0,Nz,Nz,Nz,Nz] 38 [Iz 0,Iz 0,Nz,Nz,Nz,Nz] 38;rw[c5];clear c5;obtain⟨W2,c9,b4,d0,d1,b5,h6⟩:∃W2,(W1.setCell ⟨w.heap.size+2,0,none⟩ (Iz h.now)).setCell ⟨w.heap.size+2,1,none⟩ (Iz h.last)=W2/\CB W2 w.heap.size (Hcz h a1 c1 a2 c2 a3 c3 a4 c4)/\CB W2 (w.heap.size+1) [Iz 0,Iz 0,Nz,Nz,Nz,Nz]/\CB W2 (w.heap.size+2) [Iz h.now,Iz h.last,Nz,Nz,Nz,Nz]/\Up w W2/\W2.heap.size=w.heap.size+3:=⟨_,rfl,(kP.other oM).other oM,(kR.other oM).other oM,(kO.set (j:=0) dC).set (j:=1) dC,J4 (J4 c7 oM _) oM _,by simpa using c8⟩;obtain⟨p0,p1,p2,p3,p4,p5⟩:=kP.c6;obtain⟨o0,o1,o2,o3,o4,o5⟩:=kO.c6;obtain⟨f0,f1,f2,f3,f4,f5⟩:=kO.f6;go_upto_region 4 with fail;try rw[c9]
 clear c9 p0 p1 p2 p3 p4 p5 o0 o1 o2 o3 o4 o5 f0 f1 f2 f3 f4 f5 kP kR kO c7 c8;obtain⟨p0,p1,p2,p3,p4,p5⟩:=b4.c6;go_wp2_with fail;refine (Yn h.sh _ _ (H.up b5).book hm.k).mono ?_;rintro e w3 ⟨⟨u,rfl,tu,bu,i8,rfl,b3,a8,a6,-⟩,a7⟩;rw[h6] at b3 a6;obtain⟨b1,e1⟩:=b3.shape;obtain⟨b2,e2⟩:=a8.shape;subst e1 e2;replace a8:=a8.low a6;have i5:=a7.size;have e7:=b4.up a7 oM;have e8:=d0.up a7 oM;have a9:=d1.up a7 oM;have e9:=D3 b5 a7;clear p0 p1 p2 p3 p4 p5 b4 d0 d1 b5 a7 a6;obtain⟨W4,d2,b6,d3,d4,d5,d6,b7,i3⟩:∃W4,(w3.setCell ⟨w.heap.size+2,2,none⟩ (Sy b1 h.sh.tg.length h.sh.tg.length)).setCell ⟨w.heap.size+2,3,none⟩ (Sy b2 h.sh.bs.length h.sh.bs.length)=W4/\CB W4 w.heap.size (Hcz h a1 c1 a2 c2 a3 c3 a4 c4)/\CB W4 (w.heap.size+1) [Iz 0,Iz 0,Nz,Nz,Nz,Nz]/\CB W4 (w.heap.size+2) [Iz h.now,Iz h.last,Sy b1 h.sh.tg.length h.sh.tg.length,Sy b2 h.sh.bs.length h.sh.bs.length,Nz,Nz]/\Y8 W4 (w.heap.size+3) (Sy b1 h.sh.tg.length h.sh.tg.length) h.sh.tg/\Ea W4 (w.heap.size+3) (Sy b2 h.sh.bs.length h.sh.bs.length) h.sh.bs/\Up w W4/\W4.heap.size=w3.heap.size:=⟨_,rfl,(e7.other oM).other oM,(e8.other oM).other oM,(a9.set (j:=2) dC).set (j:=3) dC,(b3.set oM).set oM,(a8.set oM).set oM,J4 (J4 e9 oM _) oM _,dC⟩;obtain⟨o0,o1,o2,o3,o4,o5⟩:=a9.c6;obtain⟨f0,f1,f2,f3,f4,f5⟩:=a9.f6;go_upto_region 5 with fail;try rw[d2]
 clear d2 o0 o1 o2 o3 o4 o5 f0 f1 f2 f3 f4 f5 e7 e8 a9 e9 b3 a8;obtain⟨p0,p1,p2,p3,p4,p5⟩:=b6.c6;go_wp2_with fail;refine (AaO h.bs _ _ (H.up b7).x hm.n hm.x).mono ?_;rintro e w5 ⟨⟨b,rfl,h3,i9,i0,h4⟩,a5⟩;have i6:=a5.size;have f7:=b6.up a5 oM;have f8:=d3.up a5 oM;have b0:=d4.up a5 oM;have f9:=d5.up a5;have g6:=d6.up a5;have g7:=D3 b7 a5;clear p0 p1 p2 p3 p4 p5 b6 d3 d4 b7 a5 d5 d6;obtain⟨W6,d7,d8,d9,e0,e3,e4,e5,e6,b8,i4⟩:∃W6,w5.setCell ⟨w.heap.size+2,4,none⟩ (Sy b h.bs.length h.bs.length)=W6/\CB W6 w.heap.size (Hcz h a1 c1 a2 c2 a3 c3 a4 c4)/\CB W6 (w.heap.size+1) [Iz 0,Iz 0,Nz,Nz,Nz,Nz]/\CB W6 (w.heap.size+2) [Iz h.now,Iz h.last,Sy b1 h.sh.tg.length h.sh.tg.length,Sy b2 h.sh.bs.length h.sh.bs.length,Sy b h.bs.length h.bs.length,Nz]/\Y8 W6 (w.heap.size+3) (Sy b1 h.sh.tg.length h.sh.tg.length) h.sh.tg/\Ea W6 (w.heap.size+3) (Sy b2 h.sh.bs.length h.sh.bs.length) h.sh.bs/\BZ W6 b h.bs/\P7 W6 b 0 (h.bs.length*6)/\Up w W6/\W6.heap.size=w5.heap.size:=⟨_,rfl,f7.other oM,f8.other oM,b0.set (j:=4) dC,f9.set oM,g6.set oM,h3.set oM,O2 h4 _ _ _,J4 g7 oM _,dC⟩;obtain⟨o0,o1,o2,o3,o4,o5⟩:=b0.c6;obtain⟨f0,f1,f2,f3,f4,f5⟩:=b0.f6;go_upto_region 6 with fail;try rw[d7]
 clear d7 o0 o1 o2 o3 o4 o5 f0 f1 f2 f3 f4 f5 f7 f8 b0 g7 f9 g6 h3 h4;obtain⟨p0,p1,p2,p3,p4,p5⟩:=d8.c6;go_wp2_with fail;refine (UM h.ds _ _ (H.up b8).d hm.d).mono ?_;rintro e w7 ⟨⟨g,rfl,h5,j0,i1,i2⟩,a0⟩;have i7:=a0.size;have b9:=d9.up a0 oM;have g8:=e0.up a0 oM;have g9:=e3.up a0;have h0:=e4.up a0;have h1:=e5.up a0 oM;have h7:=P8 e6 a0 oM;have h8:=D3 b8 a0;have h2:DnO w7 g h.ds:=h5;clear p0 p1 p2 p3 p4 p5 d8 d9 e0 b8 a0 e3 e4 e5 e6 h5;obtain⟨o0,o1,o2,o3,o4,o5⟩:=g8.c6;obtain⟨f0,f1,f2,f3,f4,f5⟩:=g8.f6;obtain⟨r0,r1,r2,r3,r4,r5⟩:=b9.c6;obtain⟨g0,g1,g2,g3,g4,g5⟩:=b9.f6;have h9:=b9.other (q:=w.heap.size+2) (j:=5) (u:=Sy g h.ds.length h.ds.length) oM;go_wp2_with fail;refine Vs results6 underlying38 rfl AaY h9 rfl ?_;refine⟨⟨_,_,b,_,rfl,?_⟩,?_⟩
 .refine⟨⟨(((((((g9.set oM).set oM).set oM).set oM).set oM).set oM).set oM).ls,(((((((h0.set oM).set oM).set oM).set oM).set oM).set oM).set oM).bs,((((((h1.set oM).set oM).set oM).set oM).set oM).set oM).set oM,gG,((((((h2.set oM).set oM).set oM).set oM).set oM).set oM).set oM⟩,?_⟩;refine⟨((((((((g9.set oM).set oM).set oM).set oM).set oM).set oM).set oM).low oM),((((((((h0.set oM).set oM).set oM).set oM).set oM).set oM).set oM).low oM),((((((h1.set oM).set oM).set oM).set oM).set oM).set oM).set oM,O2 (O2 (O2 (O2 (O2 (O2 (O2 h7 _ _ _) _ _ _) _ _ _) _ _ _) _ _ _) _ _ _) _ _ _,⟨oM,gG⟩,g,rfl,((((((h2.set oM).set oM).set oM).set oM).set oM).set oM).set oM,O2 (O2 (O2 (O2 (O2 (O2 (O2 i2 _ _ _) _ _ _) _ _ _) _ _ _) _ _ _) _ _ _) _ _ _,oM,gG⟩
 .exact J4 (J4 (J4 (J4 (J4 (J4 (J4 h8 oM _) oM _) oM _) oM _) oM _) oM _) oM _
end
namespace Bd
open Go.Conc Go.ConcN Go.RowKit
open Ld (none_ tp)
theorem FF{w:World}{b n k:Nat}{F:Nat->List Value}(ht:P7 w b 0 (n*k))(hk:0<k)(hF:∀i,i<n->w.rangeAt b (i*k) (F i)/\(F i).length=k)(hP:∀i,i<n->∀v∈F i,P v):∃c e f,w.heap[b]?=some (.cells c e f)/\∀v∈c,P v:=by
 obtain⟨-,c,e,f,h1,h2⟩:=ht;refine⟨c,e,f,h1,λv hv=>?_⟩;obtain⟨j,hj,rfl⟩:=Array.getElem_of_mem hv;have a0:j<n*k:=oM
 have hi:=Nat.div_lt_of_lt_mul (by rwa[Nat.mul_comm]);have hm:j % k<k:=Nat.mod_lt _ hk;obtain⟨h3,h4⟩:=hF _ hi;have hc:=h3 (j % k) _ (A0 oM);rw[show j / k*k+j % k=j by rw[Nat.mul_comm];exact Nat.div_add_mod j k] at hc;have hc:=by simpa [World.cell?,hj] using hc
 grind
def NM(V:Nat->Prop)(v:Value):Prop:=(∀L,VR (Y1 V L) v v)/\∀n,v≠.int .u8 n
theorem BN(V)(s:BA):NM V (Tz s):=⟨λ_=>.string s,dC⟩
theorem Gs(V:Nat->Prop)(n:Int):NM V (Iz n):=⟨λ_=>.int _ _,dC⟩
theorem Dy{V:Nat->Prop}{b:Nat}(h:V b)(n c:Nat):NM V (Sy b n c):=⟨λ_=>.sl _ _ ⟨.inl ⟨h,rfl⟩,rfl,rfl,rfl⟩,dC⟩
theorem Yy{V:Nat->Prop}{W:World}{b:Nat}(h:∃c e f,W.heap[b]?=some (.cells c e f)/\∀v∈c,NM V v):∃c e f,W.heap[b]?=some (.cells c e f)/\(∀L,F1 (Y1 V L) c c)/\∀(i:Nat)(n),c[i]?≠some (.int .u8 n):=by
 obtain⟨c,e,f,h1,h2⟩:=h;exact⟨c,e,f,h1,λL=>F1.refl λv hv=>(h2 v hv).1 L,λi n hi=>(h2 _ (Array.mem_of_getElem? hi)).2 n rfl⟩
def VH(W:World)(h:House)(tb kb xb db b:Nat):Prop :=
 b=2\/b=tb\/b=kb\/b=xb\/b=db\/(∃i x hv nv,h.sh.bs[i]?=some x/\W.rangeAt kb (i*3) [.string x.nm,hv,nv]/\(hv.ownBlock=some b\/nv.ownBlock=some b))\/∃i x b1 b2,h.bs[i]?=some x/\W.rangeAt xb (i*6) (Bp x b1 b2)/\(b=b1\/b=b2)
section
variable {W x:World} {V:Nat->Prop} {h:House}
theorem PM(hx:JF V W x){b:Nat}(hb:V b)(o:Nat):x.cell? ⟨b,o,none⟩=W.cell? ⟨b,o,none⟩:=by
 obtain⟨c,e,f,f',h1,h2⟩:=hx b hb;simp only[World.cell?,h1,h2]
theorem FG(hx:JF V W x){b:Nat}(hb:V b):b<x.heap.size:=by
 obtain⟨c,e,f,f',h1,h2⟩:=hx b hb;grind
theorem DX(hx:JF V W x){b o}(hb:V b)(h:W.rangeAt b o vs):x.rangeAt b o vs:=λj v hv=>(PM hx hb _).trans (h j v hv)
theorem OD(hx:JF V W x){base:Nat}(h:Y8 W base v ss)(hv:∀g,v.ownBlock=some g->V g):Ls x v ss:=by
 obtain⟨b,rfl,h1,-,-,h2,h3,h4⟩:=h;exact⟨_,_,rfl,h3,h4,λ_=>⟨b,0,rfl,λi s hs=>(PM hx (hv b rfl) _).trans (h1 i s hs),FG hx (hv b rfl)⟩⟩
theorem OE{base:Nat}{b:Nat}(h:Y8 W base v ss)(hb:v.ownBlock=some b):∃c e f,W.heap[b]?=some (.cells c e f)/\∀v∈c,NM V v:=by
 obtain⟨b',rfl,h1,ht,-⟩:=h;obtain rfl:=by simpa [Value.ownBlock] using hb
 refine FF (F:=λi=>[Tz (ss.getD i ⟨#[]⟩)]) (by rwa[Nat.mul_one]) aS (λi hi=>⟨λj v hv=>?_,rfl⟩) (λi hi v hv=>?_)
 .rcases j with _|j
  .have e:v=Tz (ss.getD i ⟨#[]⟩):=by simpa using hv.symm
   rw[e];have:=h1 i _ (A0 hi);grind
  .grind
 .obtain rfl:v=_:=by simpa using hv
  exact BN _ _
theorem Fu{b o:Nat}(h:W.rangeAt b o vs)(k:W.rangeAt b o us)(hl:vs.length=us.length):vs=us:=by
 apply List.ext_getElem?
 intro j;by_cases hj:j<vs.length
 .have h1:=h j _ (A0 hj);have h2:=k j _ (A0 oM);rw[h1] at h2;rwa[A0 hj,A0 oM]
 .grind
end
section
variable {W W2:World} {h:House} {base tb kb xb db:Nat} {tv' bv' xv' dv':Value}
theorem AgF(H:HX W h base (Sy tb h.sh.tg.length h.sh.tg.length) (Sy kb h.sh.bs.length h.sh.bs.length) xb (Sy db h.ds.length h.ds.length))(hs:Z0 W2 h tv' bv' xv' dv')(hm:AF h)(hgl:prog.globals.size<=base)(hP:BR (z W)):
  KQ W (VH W h tb kb xb db) h (Sy tb h.sh.tg.length h.sh.tg.length) (Sy kb h.sh.bs.length h.sh.bs.length) (Sy xb h.bs.length h.bs.length) (Sy db h.ds.length h.ds.length):=by
 obtain⟨V,hV⟩:∃V,V=VH W h tb kb xb db:=⟨_,rfl⟩;rw[← hV];have vP:V 2:=by rw[hV];exact .inl rfl
 have vT:V tb:=by rw[hV];exact .inr (.inl rfl)
 have vK:V kb:=by rw[hV];exact .inr (.inr (.inl rfl))
 have vX:V xb:=by rw[hV];exact .inr (.inr (.inr (.inl rfl)))
 have vD:V db:=by rw[hV];exact .inr (.inr (.inr (.inr (.inl rfl))))
 obtain⟨b3,ek,hK,b4,b5,a5,b6⟩:=H.k;obtain rfl:kb=b3:=by simpa using ek
 obtain⟨b7,ed,hD,b8,b9,a6⟩:=H.d;obtain rfl:db=b7:=by simpa using ed
 obtain⟨c1,a7⟩:=H.l;have b0:=H.t;obtain⟨c2,et,d0,d1,c3,a8,d2,d3⟩:=H.t;obtain rfl:tb=c2:=by simpa using et
 have dS:DU W db 0 h.ds:=by
  obtain⟨a,c,e,-,hp⟩:=hD;simp only[Value.slice.injEq] at e;obtain⟨rfl,-,-⟩:=e;intro i d hd;have a2:0<h.ds.length:=by have:=(A2.1 hd).1;omega
  obtain⟨b,o,e,hS,-⟩:=hp a2;simp only[Option.some.injEq,Addr.mk.injEq] at e;obtain⟨rfl,rfl,-⟩:=e;exact hS i d hd
 obtain⟨pe,pf,a4⟩:=OC hP;have a4:W.heap[2]?=some (.cells (Lib.pow10Tab.map λz=>Value.int .u64 z).toArray pe pf):=a4;have d4:=AaX
 have vL:∀i y,h.sh.bs[i]?=some y->∃hv nv,W.rangeAt kb (i*3) [Tz y.nm,hv,nv]/\Y8 W (kb+1) hv y.has/\Y8 W (kb+1) nv y.nj/\y.nm.size<=maxLen/\(∀g,hv.ownBlock=some g->V g)/\∀g,nv.ownBlock=some g->V g:=λi y hy=>by
  obtain⟨hv,nv,hr,h1,h2,h3⟩:=hK i y hy;refine⟨hv,nv,hr,h1,h2,h3,λg hg=>?_,λg hg=>?_⟩
  .rw[hV];exact .inr (.inr (.inr (.inr (.inr (.inl ⟨i,y,hv,nv,hy,hr,.inl hg⟩)))))
  .rw[hV];exact .inr (.inr (.inr (.inr (.inr (.inl ⟨i,y,hv,nv,hy,hr,.inr hg⟩)))))
 have vR:∀i y,h.bs[i]?=some y->∃b1 b2,W.rangeAt xb (i*6) (Bp y b1 b2)/\AO W (xb+1) y b1 b2/\V b1/\V b2:=λi y hy=>by
  obtain⟨b1,b2,hr,h1⟩:=H.x i y hy;refine⟨b1,b2,hr,h1,?_,?_⟩
  .rw[hV];exact .inr (.inr (.inr (.inr (.inr (.inr ⟨i,y,b1,b2,hy,hr,.inl rfl⟩)))))
  .rw[hV];exact .inr (.inr (.inr (.inr (.inr (.inr ⟨i,y,b1,b2,hy,hr,.inr rfl⟩)))))
 have a0:∀b,V b->b=2\/base<=b/\b<W.heap.size:=λb hb=>by
  rw[hV] at hb;rcases hb with rfl|rfl|rfl|rfl|rfl|⟨i,y,hv,nv,hy,hr,ho⟩|⟨i,y,b1,b2,hy,hr,ho⟩
  .exact .inl rfl
  .exact .inr ⟨c3,a8⟩
  .exact .inr ⟨b5,a5⟩
  .exact .inr ⟨c1,a7⟩
  .exact .inr ⟨b9,a6⟩
  .obtain⟨c4,c5,a1,l1,l2,-⟩:=vL i y hy;have e:=Fu hr a1 rfl;simp only[List.cons.injEq,and_true,true_and] at e;obtain⟨rfl,rfl⟩:=e;rcases ho with ho|ho
   .obtain⟨b',rfl,-,-,q1,q2,-⟩:=l1;obtain rfl:b'=b:=by simpa [Value.ownBlock] using ho
    exact .inr ⟨oM,q2⟩
   .obtain⟨b',rfl,-,-,q1,q2,-⟩:=l2;obtain rfl:b'=b:=by simpa [Value.ownBlock] using ho
    exact .inr ⟨oM,q2⟩
  .obtain⟨c6,c7,a1,l1,-⟩:=vR i y hy;have e:=Fu hr a1 rfl;simp only[Bp,List.cons.injEq,Value.slice.injEq,Option.some.injEq,Addr.mk.injEq,and_true,true_and] at e;obtain⟨rfl,rfl⟩:=e;have q1:=l1.l1;have q2:=l1.l2;rcases ho with rfl|rfl
   .exact .inr ⟨oM,l1.r.2.2⟩
   .exact .inr ⟨oM,l1.s.2.2⟩
 refine⟨λb hb=>?_,oM,λn hn=>?_,λn hn hg hv=>?_,λb hb=>Yy ?_,λL=>⟨(Dy vT _ _).1 L,(Dy vK _ _).1 L,(Dy vX _ _).1 L,(Dy vD _ _).1 L⟩,λx hx=>⟨⟨?_,?_,?_,?_⟩,?_⟩⟩
 .rcases a0 b hb with rfl|hb
  .omega
  .exact hb.2
 .have e:n=2:=by simpa [gB] using hn
  rw[e];exact vP
 .rcases a0 n hv with rfl|hb
  .simp[gB] at hg
  .omega
 .have d5:=hb;rw[hV] at hb;rcases hb with rfl|rfl|rfl|rfl|rfl|⟨i,y,hv,nv,hy,hr,ho⟩|⟨i,y,b1,b2,hy,hr,ho⟩
  .refine⟨_,pe,pf,a4,λv hv=>?_⟩;obtain⟨n,-,rfl⟩:=List.mem_map.1 (by simpa using hv:v∈Lib.pow10Tab.map λz=>Value.int .u64 z);exact⟨λ_=>.int _ _,dC⟩
  .exact OE b0 rfl
  .refine FF (n:=h.sh.bs.length) (k:=3) (F:=λi=>if hi:i<h.sh.bs.length then [Tz (h.sh.bs[i]).nm,(vL i _ (A0 hi)).choose,(vL i _ (A0 hi)).choose_spec.choose] else []) b4 aS (λi hi=>?_) (λi hi v hv=>?_)
   .rw[dif_pos hi];exact⟨(vL i _ (A0 hi)).choose_spec.choose_spec.1,rfl⟩
   .rw[dif_pos hi] at hv;obtain⟨-,l1,l2,-,v1,v2⟩:=(vL i _ (A0 hi)).choose_spec.choose_spec;simp only[List.mem_cons,List.not_mem_nil,or_false] at hv;rcases hv with rfl|hv|hv
    .exact BN _ _
    .rw[hv];obtain⟨b',e,-⟩:=l1;rw[e] at v1 ⊢
     exact Dy (v1 b' rfl) _ _
    .rw[hv];obtain⟨b',e,-⟩:=l2;rw[e] at v2 ⊢
     exact Dy (v2 b' rfl) _ _
  .refine FF (n:=h.bs.length) (k:=6) (F:=λi=>if hi:i<h.bs.length then Bp h.bs[i] (vR i _ (A0 hi)).choose (vR i _ (A0 hi)).choose_spec.choose else []) H.xt aS (λi hi=>?_) (λi hi v hv=>?_)
   .rw[dif_pos hi];exact⟨(vR i _ (A0 hi)).choose_spec.choose_spec.1,rfl⟩
   .rw[dif_pos hi] at hv;obtain⟨-,-,v1,v2⟩:=(vR i _ (A0 hi)).choose_spec.choose_spec;simp only[Bp,List.mem_cons,List.not_mem_nil,or_false] at hv;rcases hv with rfl|rfl|rfl|rfl|rfl|rfl
    .exact BN _ _
    .exact Dy v1 _ _
    .exact Dy v2 _ _
    .exact BN _ _
    iterate 2 .exact Gs _ _
  .refine FF (n:=h.ds.length) (k:=3) (F:=λi=>if hi:i<h.ds.length then [Tz (h.ds[i]).nm,Iz (h.ds[i]).e,Iz (h.ds[i]).t] else []) b8 aS (λi hi=>?_) (λi hi v hv=>?_)
   .rw[dif_pos hi];have:=(dS i _ (A0 hi)).1;rw[Nat.zero_add] at this;exact⟨this,rfl⟩
   .rw[dif_pos hi] at hv;simp only[List.mem_cons,List.not_mem_nil,or_false] at hv;rcases hv with rfl|rfl|rfl
    .exact BN _ _
    iterate 2 .exact Gs _ _
  .obtain⟨c4,c5,a1,l1,l2,-⟩:=vL i y hy;have e:=Fu hr a1 rfl;simp only[List.cons.injEq,and_true,true_and] at e;obtain⟨rfl,rfl⟩:=e;rcases ho with ho|ho
   .exact OE l1 ho
   .exact OE l2 ho
  .obtain⟨c6,c7,a1,l1,-⟩:=vR i y hy;have e:=Fu hr a1 rfl;simp only[Bp,List.cons.injEq,Value.slice.injEq,Option.some.injEq,Addr.mk.injEq,and_true,true_and] at e;obtain⟨rfl,rfl⟩:=e;rcases ho with rfl|rfl
   .refine FF (n:=y.ps.length) (k:=8) (F:=λi=>if hi:i<y.ps.length then (y.ps[i]).cells else []) l1.r.2.1 aS (λi hi=>?_) (λi hi v hv=>?_)
    .rw[dif_pos hi];have:=l1.r.1 i _ (A0 hi);rw[Nat.zero_add] at this;exact⟨this,rfl⟩
    .rw[dif_pos hi] at hv;simp only[Ph.cells,List.mem_cons,List.not_mem_nil,or_false] at hv;rcases hv with rfl|rfl|rfl|rfl|rfl|rfl|rfl|rfl
     .exact BN _ _
     .exact Gs _ _
     iterate 2 .exact BN _ _
     iterate 2 .exact Gs _ _
     iterate 2 .exact BN _ _
   .refine FF (n:=y.sl.length) (k:=2) (F:=λi=>if hi:i<y.sl.length then (y.sl[i]).cells else []) l1.s.2.1 aS (λi hi=>?_) (λi hi v hv=>?_)
    .rw[dif_pos hi];have:=l1.s.1 i _ (A0 hi);rw[Nat.zero_add] at this;exact⟨this,rfl⟩
    .rw[dif_pos hi] at hv;simp only[Sl.cells,List.mem_cons,List.not_mem_nil,or_false] at hv;rcases hv with rfl|rfl
     iterate 2 .exact BN _ _
 .exact OD hx b0 λg hg=>by
   obtain rfl:tb=g:=by simpa [Value.ownBlock] using hg
   exact vT
 .refine⟨_,_,rfl,b6,λ_=>⟨kb,0,rfl,λi y hy=>?_,FG hx vK⟩⟩;obtain⟨hv,nv,hr,l1,l2,l3,v1,v2⟩:=vL i y hy;exact⟨hv,nv,by rw[Nat.zero_add];exact DX hx vK hr,OD hx l1 v1,OD hx l2 v2,l3⟩
 .obtain⟨a,c,-,a9,a2⟩:=hs.x;refine⟨_,_,rfl,a9,λhp=>⟨xb,0,rfl,λi y hy=>?_,FG hx vX⟩⟩;obtain⟨b1,b2,hr,ho,v1,v2⟩:=vR i y hy;obtain⟨g,o,-,c8,-⟩:=a2 hp;obtain⟨rv,sv,-,a3⟩:=c8 i y hy;obtain⟨np,ns⟩:=hm.x i y (A2.1 hy).1 hy;refine⟨_,_,by rw[Nat.zero_add];exact DX hx vX hr,⟨b1,0,_,rfl,λj p hp=>DX hx v1 (ho.r.1 j p hp),FG hx v1,A3 _,oM⟩,⟨b2,0,_,rfl,λj p hp=>DX hx v2 (ho.s.1 j p hp),FG hx v2⟩,a3.zp,a3.zs,a3.zn,np,ns⟩
 .obtain⟨a,c,e,a9,-⟩:=hD;exact⟨_,_,rfl,a9,λ_=>⟨db,0,rfl,λi d hd=>⟨DX hx vD (dS i d hd).1,(dS i d hd).2⟩,FG hx vD⟩⟩
 .obtain⟨c,e,f,f',h1,h2⟩:=hx _ vP;rw[a4] at h1;simp only[Option.some.injEq,Obj.cells.injEq] at h1;obtain⟨rfl,rfl,rfl⟩:=h1;have c9:prog.globalNamed "internal/strconv.uint64pow10"=some 2:=sI
  show World.var? _ _ _=_
  unfold World.var?;rw[c9,Option.bind_some,h2]
end
end Bd
section
open Go.RowKit
theorem UT(h:House)(t1 k1 d1 t2 k2 d2:Value)(b1 b2:Nat)(w:World)(H1:HC w h t1 k1 b1 d1)(H2:HC w h t2 k2 b2 d2)(hm:AF h):
  cU prog 8 #[.agg #[Iz h.now,Iz h.last,t1,k1,Sy b1 h.bs.length h.bs.length,d1],.agg #[Iz h.now,Iz h.last,t2,k2,Sy b2 h.bs.length h.bs.length,d2]] w (.bool true):=by
 obtain⟨a1,c1,a2,c2,a4,c4,rfl,rfl,rfl⟩:=H1.shapes;obtain⟨a5,c5,a6,c6,a8,c8,rfl,rfl,rfl⟩:=H2.shapes;delta cU;go_in;go_upto_region 1 with fail;obtain⟨W1,b5,kP,kR,b0,b7⟩:=cbE2 w [Iz h.now,Iz h.last,Vz a1 h.sh.tg.length c1,Vz a2 h.sh.bs.length c2,Sy b1 h.bs.length h.bs.length,Vz a4 h.ds.length c4] 38 [Iz h.now,Iz h.last,Vz a5 h.sh.tg.length c5,Vz a6 h.sh.bs.length c6,Sy b2 h.bs.length h.bs.length,Vz a8 h.ds.length c8] 38;rw[b5];clear b5;obtain⟨e0,e1,e2,e3,e4,e5⟩:=kP.c6;obtain⟨f0,f1,f2,f3,f4,f5⟩:=kR.c6;go_wp2_with fail;refine (Yo h.sh _ _ _ (H1.up b0).book (H2.up b0).book).mono ?_;rintro e w2 ⟨rfl,a7⟩;have a0:=D3 b0 a7;clear e0 e1 e2 e3 e4 e5 f0 f1 f2 f3 f4 f5;obtain⟨e0,e1,e2,e3,e4,e5⟩:=(kP.up a7 oM).c6;obtain⟨f0,f1,f2,f3,f4,f5⟩:=(kR.up a7 oM).c6;have G1:=H1.up a0;have G2:=H2.up a0;go_wp2_with fail;refine (AaV h.bs b1 b2 _ G1.x G1.l G2.x G2.l hm.n hm.x).mono ?_;rintro e w3 ⟨rfl,a9⟩;have b3:=D3 a0 a9;have a3:=D3 a7 a9;clear e0 e1 e2 e3 e4 e5 f0 f1 f2 f3 f4 f5;obtain⟨e0,e1,e2,e3,e4,e5⟩:=(kP.up a3 oM).c6;obtain⟨f0,f1,f2,f3,f4,f5⟩:=(kR.up a3 oM).c6;go_wp2_with fail;refine (UN h.ds _ _ _ (G1.up a9).d (G2.up a9).d).mono ?_;rintro e w4 ⟨rfl,b6⟩;have b4:=D3 b3 b6;clear e0 e1 e2 e3 e4 e5 f0 f1 f2 f3 f4 f5;go_wp2_with fail;go_ret;exact⟨rfl,b4⟩
end
namespace Bd
open Go.Conc Go.ConcN Go.RowKit Go.Conc.Lib Go.ConcR.Gen Go.ConcN.Gen
open Ld (I8 none_ tp)
noncomputable def Z2:Code:=Tryz.f3.body.getD .skip
noncomputable def l12:Code:=(.region 12 (E0 Z2 12) false)
noncomputable def l10:Code:=.seq (.region 10 (E0 Z2 10) true) (.cond (.tmp 26) (.seq (.region 11 (E0 Z2 11) false) .ret) .skip)
noncomputable def l8:Code:=.seq (.region 8 (E0 Z2 8) false) (.cond (.tmp 21) (.seq (.region 9 (E0 Z2 9) false) .ret) .skip)
noncomputable def l8t:Code:=.seq l8 (.seq l10 (.seq l12 .ret))
noncomputable def l7t:Code:=.seq (.region 7 (E0 Z2 7) false) l8t
noncomputable def l6t:Code:=.seq (.region 6 (E0 Z2 6) false) l7t
noncomputable def TJ:Code:=.seq (.region 5 (E0 Z2 5) false) l6t
noncomputable def cdW:Code:=.cond (.tmp 11) (.seq (.region 4 (E0 Z2 4) false) .ret) .skip
noncomputable def l3t:Code:=.seq (.seq (.region 3 (E0 Z2 3) false) cdW) TJ
section
variable {T:Array Value} {cs:List Frame}
theorem AiV:Walk prog true 3 (G (ff 3 T [.inRegion (E0 Z2 6) [],.code l7t]) cs) (G (ff 3 T [.inRegion (E0 Z2 7) [0,1,2],.code l8t]) cs):=G6 3 sI
end
theorem Afi(hv:Value):Frame.enter prog 3 #[hv] .normal=ff 3 (#[hv]++Array.replicate 26 undef) [.code Z2]:=sI
section
variable (f:Operand->Value) {o:Oper} {x y:Operand} (w:World)
theorem AhL(hop:o.op=.alloc 38):(execOp f o).runT prog w #[]=(.ok (.value (Pz w.heap.size 0)) (D6 w (Kz [Iz 0,Iz 0,Nz,Nz,Nz,Nz] 38)),#[]):=by
 unfold execOp;rw[hop];exact I9 sI
end
theorem Lw.btp{W V:World}(k:Lw W V)(τ:Nat->Question->Nat)(d:Nat):Below W.heap.size (tp W τ d) (tp V τ d):={os:=k.up.os,tape:=rfl,output:=k.up.output,size:=k.up.size,block:=k.up.block}
section
variable {w:World} {h:House} {tv bv xv dv:Value} {base b:Nat}
theorem Wp(H:Z0 w h tv bv xv dv)(τ:Nat->Question->Nat)(d:Nat):Z0 (tp w τ d) h tv bv xv dv:=by
 refine⟨H.t,H.b,?_,H.d⟩;obtain⟨a,c,e,h1,h2⟩:=H.x;refine⟨a,c,e,h1,λhp=>?_⟩;obtain⟨b,o,e1,h3,h4⟩:=h2 hp;exact⟨b,o,e1,λi x hx=>let ⟨rv,sv,q1,q2⟩:=h3 i x hx;⟨rv,sv,q1,⟨q2.r,q2.s,q2.zp,q2.zs,q2.zn,q2.za⟩⟩,h4⟩
theorem Abb(H:BZ w b bs)(τ:Nat->Question->Nat)(d:Nat):BZ (tp w τ d) b bs:=λi x hx=>let ⟨b1,b2,h1,h2⟩:=H i x hx;⟨b1,b2,h1,⟨h2.r,h2.s,h2.l1,h2.l2⟩⟩
theorem QH(H:HC w h tv bv b dv)(τ:Nat->Question->Nat)(d:Nat):HC (tp w τ d) h tv bv b dv:=⟨H.t,H.k,Abb H.x τ d,H.l,H.d⟩
theorem Ad3(H:HX w h base tv bv b dv)(τ:Nat->Question->Nat)(d:Nat):HX (tp w τ d) h base tv bv b dv:=⟨H.t,H.k,Abb H.x τ d,H.xt,H.l,H.d⟩
end
def CpQ(h:House)(base:Nat)(v:Value)(u:World):Prop:=∃tb kb xb db,v=.agg #[.int .i64 h.now,.int .i64 h.last,.slice (some ⟨tb,0,none⟩) h.sh.tg.length h.sh.tg.length,.slice (some ⟨kb,0,none⟩) h.sh.bs.length h.sh.bs.length,.slice (some ⟨xb,0,none⟩) h.bs.length h.bs.length,.slice (some ⟨db,0,none⟩) h.ds.length h.ds.length]/\HC u h (.slice (some ⟨tb,0,none⟩) h.sh.tg.length h.sh.tg.length) (.slice (some ⟨kb,0,none⟩) h.sh.bs.length h.sh.bs.length) xb (.slice (some ⟨db,0,none⟩) h.ds.length h.ds.length)/\HX u h base (.slice (some ⟨tb,0,none⟩) h.sh.tg.length h.sh.tg.length) (.slice (some ⟨kb,0,none⟩) h.sh.bs.length h.sh.bs.length) xb (.slice (some ⟨db,0,none⟩) h.ds.length h.ds.length)
theorem AgL(h:House)(base:Nat)(v:Value):X9 (CpQ h base v):=λ_u τ d ⟨tb,kb,xb,db,e,h1,h2⟩=>⟨tb,kb,xb,db,e,QH h1 τ d,Ad3 h2 τ d⟩
section
variable {h:House} {a1 a2 a3 a4:Option Addr} {c1 c2 c3 c4:Nat} {W0 V:World} {tv bv xv dv:Value}
theorem Lw.src(k:Lw W0 V)(H:Z0 W0 h tv bv xv dv)(τ:Nat->Question->Nat)(d:Nat):Z0 (tp V τ d) h tv bv xv dv:=(Wp H τ d).up (k.btp τ d)
theorem AiW(k:Lw W0 V)(H:Z0 W0 h (Vz a1 h.sh.tg.length c1) (Vz a2 h.sh.bs.length c2) (Vz a3 h.bs.length c3) (Vz a4 h.ds.length c4)):∀x,I8 prog 4 #[.agg (Hcz h a1 c1 a2 c2 a3 c3 a4 c4).toArray,Iz 1048576] (V.at x) λv _=>∃y:Int,v=.int .i64 y/\(0<=y->AF h):=λx =>
 Ld.l_of Ld.setL sI (Er sI _) (W:=V.at x) k.nv (λ_ _ _ _ h=>h) (λτ d=>by
  refine (UR h _ _ _ _ 1048576 (tp (V.at x) τ d) ((k.at x).src H τ d) oM oM).mono ?_;rintro e w' ⟨⟨y,rfl,hy⟩,hB⟩;exact⟨⟨_,rfl,y,rfl,hy⟩,hB⟩) sI
theorem AgM(k:Lw W0 V)(H:Z0 W0 h (Vz a1 h.sh.tg.length c1) (Vz a2 h.sh.bs.length c2) (Vz a3 h.bs.length c3) (Vz a4 h.ds.length c4))(hm:AF h):∀x,I8 prog 6 #[.agg (Hcz h a1 c1 a2 c2 a3 c3 a4 c4).toArray] (V.at x) λv u=>CpQ h V.heap.size v u:=λx =>
 Ld.l_of Ld.setL sI (Er sI _) (W:=V.at x) k.nv (λv=>AgL h _ v) (λτ d=>by
  refine (LK h _ _ _ _ (tp (V.at x) τ d) ((k.at x).src H τ d) hm).mono ?_;rintro e w' ⟨⟨tu,bu,xb,du,rfl,hC,hX⟩,hB⟩;obtain⟨tb,rfl,-⟩:=hX.t;obtain⟨kb,rfl,-⟩:=hX.k;obtain⟨db,rfl,-⟩:=hX.d;exact⟨⟨_,rfl,tb,kb,xb,db,rfl,hC,hX⟩,hB⟩) sI
theorem AgN{tb kb xb db:Nat}(hn:NV V)(hC:HC (z V) h (Sy tb h.sh.tg.length h.sh.tg.length) (Sy kb h.sh.bs.length h.sh.bs.length) xb (Sy db h.ds.length h.ds.length))(H:Z0 V2 h tv bv xv dv)(hm:AF h):∀x,I8 prog 5 #[.agg #[Iz h.now,Iz h.last,Sy tb h.sh.tg.length h.sh.tg.length,Sy kb h.sh.bs.length h.sh.bs.length,Sy xb h.bs.length h.bs.length,Sy db h.ds.length h.ds.length]] (V.at x) λv _=>v=Tz (U6 h):=λx =>
 Ld.l_of Ld.setL sI (Er sI _) (W:=V.at x) hn (λv=>QA _) (λτ d=>by
  refine (Yp h _ _ _ _ (tp (V.at x) τ d) ((QH hC τ d).v H hm)).mono ?_;rintro e w' ⟨rfl,hB⟩;exact⟨⟨_,rfl,rfl⟩,hB⟩) sI
end
theorem AgO{P:Program}{f:FuncId}{W:World}(h:I8 P f args W R):Rr P f args (λ_=>False) none_ W R:=by
 intro Post c cs gs sl t hh kk;refine h Post c cs gs sl t hh λgs' w' sl' t' v hh' hn hR=>?_;refine kk (λ_=>False) none_ gs' w' sl' t' v (λ_ h=>h.elim) (λ_ h=>h.elim) hh' ⟨λ_ h=>h.elim,λ_ h=>h.elim,hn⟩ λτ d=>?_;rw[BG,BG];exact hR τ d
section
variable {h:House} {a1 a2 a3 a4:Option Addr} {c1 c2 c3 c4:Nat} {W:World} {V:Nat->Prop}
theorem Abc(hn:NV W)(hE:F6 (z W))(H:KQ W V h (Vz a1 h.sh.tg.length c1) (Vz a2 h.sh.bs.length c2) (Vz a3 h.bs.length c3) (Vz a4 h.ds.length c4)):Rr prog 7 #[.agg (Hcz h a1 c1 a2 c2 a3 c3 a4 c4).toArray] (λ_=>False) none_ W λv _=>v=Tz (U6 h):=by
 by_cases hok:F2 h
 .have e:U6 h=EP h:=by unfold U6;rw[if_pos (G7.2 hok)]
  rw[e];exact Afh hn hE H hok
 .have e:U6 h=⟨#[]⟩:=by unfold U6;rw[F3 hok];rfl
  rw[e];exact AgO (AcM hn hE (H.see (z W) (EQ rfl H.self)).1 hok)
end
theorem AhM{w:World}{h:House}{base b:Nat}{tv bv dv:Value}(H:HX w h base tv bv b dv)(hb:Up w w'):HX w' h base tv bv b dv:=by
 obtain⟨g,e,h1,h2,h3,h4⟩:=H.d;exact⟨H.t.up hb,H.k.up hb,H.x.up hb H.l.2,P8 H.xt hb H.l.2,⟨H.l.1,A1 H.l.2 hb.size⟩,⟨g,e,h1.up hb,P8 h2 hb h4,h3,A1 h4 hb.size⟩⟩
section
variable {h:House} {a1 a2 a3 a4:Option Addr} {c1 c2 c3 c4:Nat} {W0:World} {Post:Value->World->Prop} {gs:Array Goroutine} {sl:Option (Nat×Nat)} {t:Trace}
theorem AhN(hn:NV W0)(H:Z0 W0 h (Vz a1 h.sh.tg.length c1) (Vz a2 h.sh.bs.length c2) (Vz a3 h.bs.length c3) (Vz a4 h.ds.length c4))(hh:F0 prog none_ gs (G (Frame.enter prog 3 #[.agg (Hcz h a1 c1 a2 c2 a3 c3 a4 c4).toArray] .normal) []) t)
  (early:∀gs' V sl' t' T,F0 prog none_ gs' (G (ff 3 T [.code .ret,.code TJ]) []) t'->T[2]?=some (.bool true)->Lw W0 V->D9 prog Post (crowd gs' V sl') t')
  (kk:∀gs' V sl' t' T tb kb xb db xp base,AF h->F0 prog none_ gs' (G (ff 3 T [.inRegion (E0 Z2 7) [0,1,2],.code l8t]) []) t'->Has 27 T [(5,Pz xp 0),(4,Tz (U6 h)),(1,Pz W0.heap.size 0)]->Lw W0 V->W0.heap.size<=base->W0.heap.size<xp->
   V.heap[W0.heap.size]?=some (.cells (Hcz h a1 c1 a2 c2 a3 c3 a4 c4).toArray 29 (0,0))->V.heap[xp]?=some (.cells #[Iz h.now,Iz h.last,Sy tb h.sh.tg.length h.sh.tg.length,Sy kb h.sh.bs.length h.sh.bs.length,Sy xb h.bs.length h.bs.length,Sy db h.ds.length h.ds.length] 38 (0,0))->HC (z V) h (Sy tb h.sh.tg.length h.sh.tg.length) (Sy kb h.sh.bs.length h.sh.bs.length) xb (Sy db h.ds.length h.ds.length)->HX (z V) h base (Sy tb h.sh.tg.length h.sh.tg.length) (Sy kb h.sh.bs.length h.sh.bs.length) xb (Sy db h.ds.length h.ds.length)->D9 prog Post (crowd gs' V sl') t'):D9 prog Post (crowd gs W0 sl) t:=by
 rw[Afi] at hh;have hT:Has 27 (#[Value.agg (Hcz h a1 c1 a2 c2 a3 c3 a4 c4).toArray]++Array.replicate 26 undef) [(0,.agg (Hcz h a1 c1 a2 c2 a3 c3 a4 c4).toArray)]:=⟨dC,λp hp=>by simp at hp;subst hp;simp⟩;generalize #[Value.agg (Hcz h a1 c1 a2 c2 a3 c3 a4 c4).toArray]++Array.replicate 26 undef=T at hh hT;refine Agv 11 [.inRegion (E0 Z2 2) [0,1,2,3],.code l3t] [(3,Iz 1048576),(2,.bool false),(1,Pz W0.heap.size 0),(0,.agg (Hcz h a1 c1 a2 c2 a3 c3 a4 c4).toArray)] [.cells (Hcz h a1 c1 a2 c2 a3 c3 a4 c4).toArray 29 (0,0)] hh hT (.refl hn) λgs sl t W1 T hh hT k1 hz _ hg=>?_;have b8:W1.heap[W0.heap.size]?=some (.cells (Hcz h a1 c1 a2 c2 a3 c3 a4 c4).toArray 29 (0,0)):=hg 0 _ rfl;have b1:W0.heap.size<W1.heap.size:=by rw[hz];exact Nat.lt_succ_self _
 clear hz hg;refine CD 29 1 7 hh hT b8 λgs sl t d6 T hh hT=>?_;refine F4 (.move (.tmp 3)) 8 (v:=.int .i64 1048576) hh hT (λ_ e x=>by rw[Y2 e,hT.ei 3]) λgs sl t d7 T hh hT=>?_;refine CC 4 [7,8] #[29,3] 9 hh hT (AiW (k1.at d7) H) λgs w2 sl t v T hh hT hn2 hR hB2=>?_;obtain⟨y,rfl,hy⟩:=hR;have k2:Lw W0 w2:=(k1.at d7).call hn2 hB2;have b2:w2.heap[W0.heap.size]?=some (.cells (Hcz h a1 c1 a2 c2 a3 c3 a4 c4).toArray 29 (0,0)):=(AE hB2 b1).trans b8;have b3:W0.heap.size<w2.heap.size:=(D1.1 b2).1;replace hT:=hT.sub (l':=[(9,Iz y),(1,Pz W0.heap.size 0)]) dC;refine CK 6 [.inRegion (E0 Z2 3) [1],.code cdW,.code TJ] [(10,Iz y),(3,Iz y),(9,Iz y),(1,Pz W0.heap.size 0)] hh hT λgs sl t d10 T hh hT=>?_;refine F4 (.binOp .lss 3 (.tmp 10) (.const (Iz 0)) 3) 11 (v:=.bool (decide (y<0))) hh hT (λ_ e x=>Lm y 0 _ e (hT.ei 10) rfl x) λgs sl t d11 T hh hT=>?_;by_cases hy0:y<0
 .rw[decide_eq_true hy0] at hT;refine CK 6 [.code .ret,.code TJ] [(2,.bool true),(11,.bool true),(10,Iz y),(3,Iz y),(9,Iz y),(1,Pz W0.heap.size 0)] hh hT λgs sl t d12 T hh hT=>?_;exact early gs _ sl t T hh (hT.gi 2) (((k2.at _).at _).at _)
 rw[decide_eq_false hy0] at hT;have hm:AF h:=hy oM;refine E8 (CA (l':=[.inRegion (E0 Z2 5) [0,1,2,3],.code l6t]) (hT.gi 11) 5 sI) hh λgs sl t d12 hh=>?_;replace hT:=hT.sub (l':=[(1,Pz W0.heap.size 0)]) dC;refine CD 29 1 12 hh hT b2 λgs sl t d13 T hh hT=>?_;refine CC 6 [12] #[29] 13 hh hT (AgM (k2.at d13) H hm) λgs w3 sl t v T hh hT hn3 hR hB3=>?_;obtain⟨tb,kb,xb,db,rfl,b7,-⟩:=hR;have k3:Lw W0 w3:=(k2.at d13).call hn3 hB3;have b9:w3.heap[W0.heap.size]?=some (.cells (Hcz h a1 c1 a2 c2 a3 c3 a4 c4).toArray 29 (0,0)):=(AE hB3 b3).trans b2;have b4:W0.heap.size<w3.heap.size:=(D1.1 b9).1;refine CC 5 [13] #[38] 14 hh hT (AgN hn3 b7 H hm) λgs w4 sl t v T hh hT hn4 hR hB4=>?_;subst hR;have k4:Lw W0 w4:=k3.call hn4 hB4;have b5:w4.heap[W0.heap.size]?=some (.cells (Hcz h a1 c1 a2 c2 a3 c3 a4 c4).toArray 29 (0,0)):=(AE hB4 b4).trans b9;have a5:W0.heap.size<w4.heap.size:=(D1.1 b5).1;replace hT:=hT.sub (l':=[(14,Tz (U6 h)),(1,Pz W0.heap.size 0)]) dC;clear b7;refine CK 4 [.inRegion (E0 Z2 6) [0,1,2,3],.code l7t] [(4,Tz (U6 h)),(14,Tz (U6 h)),(1,Pz W0.heap.size 0)] hh hT λgs sl t d15 T hh hT=>?_;refine CD 29 1 15 hh hT b5 λgs sl t d16 T hh hT=>?_;refine CC 6 [15] #[29] 16 hh hT (AgM (k4.at d16) H hm) λgs w5 sl t v T hh hT hn5 hR hB5=>?_;obtain⟨tb,kb,xb,db,rfl,c6,c7⟩:=hR;have k5:Lw W0 w5:=(k4.at d16).call hn5 hB5;have c5:w5.heap[W0.heap.size]?=some (.cells (Hcz h a1 c1 a2 c2 a3 c3 a4 c4).toArray 29 (0,0)):=(AE hB5 a5).trans b5;have a6:W0.heap.size<w5.heap.size:=(D1.1 c5).1;have a7:W0.heap.size<=w4.heap.size:=Nat.le_of_lt a5;refine N9 (.alloc 38) 5 (V':=D6 w5 (Kz [Iz 0,Iz 0,Nz,Nz,Nz,Nz] 38)) (v:=Pz w5.heap.size 0) hh hT (λ_ e x=>⟨#[],0,AhL _ _ e,dC⟩) λgs sl t d18 T hh hT=>?_;obtain⟨d4,hi,c8⟩:=B6.1 Wc;have a8:(D6 w5 (Kz [Iz 0,Iz 0,Nz,Nz,Nz,Nz] 38)).heap[w5.heap.size]?=some (.cells #[Iz 0,Iz 0,Nz,Nz,Nz,Nz] 38 (0,0)):=K9;refine FD (.store 38 (.tmp 5) (.tmp 16)) (V':=laid (D6 w5 (Kz [Iz 0,Iz 0,Nz,Nz,Nz,Nz] 38)) w5.heap.size #[Iz h.now,Iz h.last,Sy tb h.sh.tg.length h.sh.tg.length,Sy kb h.sh.bs.length h.sh.bs.length,Sy xb h.bs.length h.bs.length,Sy db h.ds.length h.ds.length] 38) hh (λo hop x=>?_) λgs sl t d19 hh=>?_
 .obtain⟨c9,e1,e2⟩:=Np (P:=prog) (t:=38) (v:=.agg #[Iz h.now,Iz h.last,Sy tb h.sh.tg.length h.sh.tg.length,Sy kb h.sh.bs.length h.sh.bs.length,Sy xb h.bs.length h.bs.length,Sy db h.ds.length h.ds.length]) (vs:=[Iz h.now,Iz h.last,Sy tb h.sh.tg.length h.sh.tg.length,Sy kb h.sh.bs.length h.sh.bs.length,Sy xb h.bs.length h.bs.length,Sy db h.ds.length h.ds.length]) (w:=(D6 w5 (Kz [Iz 0,Iz 0,Nz,Nz,Nz,Nz] 38)).at x) rfl (by simp[Value.oneCell']) hi (by rw[c8];rfl) a8 rfl #[];refine⟨c9,w5.heap.size+1,?_,λe he=>?_⟩
  .have e:∀f,execOp f o=(do Instr.storeAt 38 (f (.tmp 5)) (f (.tmp 16));pure .skip:Sem Next):=λf=>by unfold execOp;rw[hop]
   rw[e,hT.ei 5,hT.ei 16];exact Ek e1
  .rcases e2 e he with h|⟨j,rfl⟩
   .simp at h
   .exact N7 id
 obtain⟨W6,a0⟩:∃W6,laid (D6 w5 (Kz [Iz 0,Iz 0,Nz,Nz,Nz,Nz] 38)) w5.heap.size #[Iz h.now,Iz h.last,Sy tb h.sh.tg.length h.sh.tg.length,Sy kb h.sh.bs.length h.sh.bs.length,Sy xb h.bs.length h.bs.length,Sy db h.ds.length h.ds.length] 38=W6:=⟨_,rfl⟩;rw[a0];have a9:∀b,b<w5.heap.size->W6.heap[b]?=w5.heap[b]?:=λb hb=>by rw[← a0,BI oM,N6 hb]
 have b0:W6.heap[w5.heap.size]?=some (.cells #[Iz h.now,Iz h.last,Sy tb h.sh.tg.length h.sh.tg.length,Sy kb h.sh.bs.length h.sh.bs.length,Sy xb h.bs.length h.bs.length,Sy db h.ds.length h.ds.length] 38 (0,0)):=by rw[← a0];exact El (by rw[E6];omega)
 have d0:NV W6:=by rw[← a0];exact (hn5.push dC).laid
 have f6:W6.os=w5.os/\W6.output=w5.output:=by rw[← a0];exact⟨rfl,rfl⟩
 have d1:w5.heap.size<W6.heap.size:=(D1.1 b0).1;have b6:Below w5.heap.size (z w5) (z W6):={os:=f6.1,tape:=rfl,output:=f6.2,size:=Nat.le_of_lt d1,block:=λb hb=>a9 b hb};clear a0 a8;have k6:Lw W0 W6:=k5.call d0 b6;have d2:HC (z W6) h (Sy tb h.sh.tg.length h.sh.tg.length) (Sy kb h.sh.bs.length h.sh.bs.length) xb (Sy db h.ds.length h.ds.length):=c6.up b6;have d3:HX (z W6) h w4.heap.size (Sy tb h.sh.tg.length h.sh.tg.length) (Sy kb h.sh.bs.length h.sh.bs.length) xb (Sy db h.ds.length h.ds.length):=AhM c7 b6;refine E8 AiV hh λgs sl t d20 hh=>?_;exact kk gs _ sl t T tb kb xb db w5.heap.size w4.heap.size hm hh (hT.sub dC) ((k6.at _).at _) a7 a6 ((a9 _ a6).trans c5) b0 d2 d3
end
end Bd
namespace Bd
open Go.Conc Go.ConcN Go.RowKit
noncomputable def p8:Code:=match Z2 with | .seq _ (.seq _ (.seq _ (.seq _ (.seq _ (.seq _ (.seq _ (.seq r _)))))))=>r|_=>.skip
noncomputable def Wq:Code:=match Z2 with | .seq _ (.seq _ (.seq _ (.seq _ (.seq _ (.seq _ (.seq _ (.seq _ (.seq r _))))))))=>r|_=>.skip
noncomputable def Wr:Code:=match Z2 with | .seq _ (.seq _ (.seq _ (.seq _ (.seq _ (.seq _ (.seq _ (.seq _ (.seq _ (.seq r _)))))))))=>r|_=>.skip
theorem AgP:l8t=MM [p8,Wq,Wr] .ret:=sI
theorem AiX:∀r∈[p8,Wq,Wr],M7 prog (Ci fsW) [] r=true:=by
 intro r hr;simp only[List.mem_cons,List.not_mem_nil,or_false] at hr;rcases hr with rfl|rfl|rfl<;>kernel_rfl
theorem AhO(T:Array Value)(h:T.size=27):T=#[T.getD 0 undef,T.getD 1 undef,T.getD 2 undef,T.getD 3 undef,T.getD 4 undef,T.getD 5 undef,T.getD 6 undef,T.getD 7 undef,T.getD 8 undef,T.getD 9 undef,T.getD 10 undef,T.getD 11 undef,T.getD 12 undef,T.getD 13 undef,T.getD 14 undef,T.getD 15 undef,T.getD 16 undef,T.getD 17 undef,T.getD 18 undef,T.getD 19 undef,T.getD 20 undef,T.getD 21 undef,T.getD 22 undef,T.getD 23 undef,T.getD 24 undef,T.getD 25 undef,T.getD 26 undef]:=(AcC T 27 h).trans sI
section
variable {h:House} {a1 a2 a3 a4:Option Addr} {c1 c2 c3 c4:Nat} {bx xp tb kb xb db:Nat} {s:BA}
def QC(a:Act)(_:World):Prop:=∃T,a=⟨T,[]⟩/\Has 27 T [(2,.bool true)]
theorem Afj(v0 v2 v3 v7 v8 v9 v10 v11 v12 v13 v14 v15 v16 v17 v18 v19 v20 v21 v22 v23 v24 v25 v26:Value)(w:World)(kB:CB w bx (Hcz h a1 c1 a2 c2 a3 c3 a4 c4))(kX:CB w xp [Iz h.now,Iz h.last,Sy tb h.sh.tg.length h.sh.tg.length,Sy kb h.sh.bs.length h.sh.bs.length,Sy xb h.bs.length h.bs.length,Sy db h.ds.length h.ds.length])(hC:HC w h (Sy tb h.sh.tg.length h.sh.tg.length) (Sy kb h.sh.bs.length h.sh.bs.length) xb (Sy db h.ds.length h.ds.length))(H:Z0 w h (Vz a1 h.sh.tg.length c1) (Vz a2 h.sh.bs.length c2) (Vz a3 h.bs.length c3) (Vz a4 h.ds.length c4))(hm:AF h):
  GU prog [p8,Wq,Wr] (λe a u'=>e=.normal/\QC a u'/\Up w u') ⟨#[v0,Pz bx 0,v2,v3,Tz s,Pz xp 0,Tz s,v7,v8,v9,v10,v11,v12,v13,v14,v15,v16,v17,v18,v19,v20,v21,v22,v23,v24,v25,v26],[]⟩ w:=by
 have a9:=kB.2.2;have b0:=kX.2.2;have b1:(s.toList != s.toList)=false:=dC
 simp only[p8,Wq,Wr,Z2,Tryz.f3,Option.getD_some];apply Rq;intro K hK
 go_wp2_with fail;try clear hK
 try clear K
 apply Rq;intro K hK
 obtain⟨d0,d1,d2,d3,d4,d5⟩:=kB.c6;obtain⟨f0,f1,f2,f3,f4,f5⟩:=kX.c6;have a7:Up w w/\AS w bx 0 (Iz h.now)/\AS w bx 1 (Iz h.last)/\AS w bx 2 (Vz a1 h.sh.tg.length c1)/\AS w bx 3 (Vz a2 h.sh.bs.length c2)/\AS w bx 4 (Vz a3 h.bs.length c3)/\AS w bx 5 (Vz a4 h.ds.length c4)/\AS w xp 0 (Iz h.now)/\AS w xp 1 (Iz h.last)/\AS w xp 2 (Sy tb h.sh.tg.length h.sh.tg.length)/\AS w xp 3 (Sy kb h.sh.bs.length h.sh.bs.length)/\AS w xp 4 (Sy xb h.bs.length h.bs.length)/\AS w xp 5 (Sy db h.ds.length h.ds.length):=⟨A4 _ _,d0,d1,d2,d3,d4,d5,f0,f1,f2,f3,f4,f5⟩;clear d0 d1 d2 d3 d4 d5 f0 f1 f2 f3 f4 f5;go_wp2_with fail;refine TD ?_
 go_region_held (λw'=>Up w w'/\AS w' bx 0 (Iz h.now)/\AS w' bx 1 (Iz h.last)/\AS w' bx 2 (Vz a1 h.sh.tg.length c1)/\AS w' bx 3 (Vz a2 h.sh.bs.length c2)/\AS w' bx 4 (Vz a3 h.bs.length c3)/\AS w' bx 5 (Vz a4 h.ds.length c4)/\AS w' xp 0 (Iz h.now)/\AS w' xp 1 (Iz h.last)/\AS w' xp 2 (Sy tb h.sh.tg.length h.sh.tg.length)/\AS w' xp 3 (Sy kb h.sh.bs.length h.sh.bs.length)/\AS w' xp 4 (Sy xb h.bs.length h.bs.length)/\AS w' xp 5 (Sy db h.ds.length h.ds.length)) (first|exact Ac3 a7|exact Agn a9 b0 sO sO)
  (first
   | (go_at_call 6;refine (LK h _ _ _ _ _ (H.up (A4 _ _).drew) hm).mono ?_;rintro e' w9 ⟨⟨r1,r2,r3,r4,rfl,a6,-⟩,a8⟩;have a0:=(hC.up (A4 _ _).drew).up a8;obtain⟨i1,j1,i2,j2,i4,j4,rfl,rfl,rfl⟩:=a6.shapes)
   | (go_at_call 8;refine (UT h _ _ _ _ _ _ _ _ _ a0 a6 hm).mono ?_;rintro e' wA ⟨rfl,b2⟩))
 rename_i hHeld;have a5:=hHeld.1;clear hHeld a7 a0 a6 a8 b2 hC kX kB;go_wp2_with fail;try clear hK
 try clear K
 apply Rq;intro K hK
 go_wp2_with fail;refine⟨rfl,⟨_,rfl,rfl,?_⟩,a5⟩;intro p hp;simp only[List.mem_cons,List.not_mem_nil,or_false] at hp;subst hp;rfl
theorem AgQ{T:Array Value}(w:World)(hT:Has 27 T [(6,Tz s),(5,Pz xp 0),(4,Tz s),(1,Pz bx 0)])(kB:CB w bx (Hcz h a1 c1 a2 c2 a3 c3 a4 c4))(kX:CB w xp [Iz h.now,Iz h.last,Sy tb h.sh.tg.length h.sh.tg.length,Sy kb h.sh.bs.length h.sh.bs.length,Sy xb h.bs.length h.bs.length,Sy db h.ds.length h.ds.length])(hC:HC w h (Sy tb h.sh.tg.length h.sh.tg.length) (Sy kb h.sh.bs.length h.sh.bs.length) xb (Sy db h.ds.length h.ds.length))(H:Z0 w h (Vz a1 h.sh.tg.length c1) (Vz a2 h.sh.bs.length c2) (Vz a3 h.bs.length c3) (Vz a4 h.ds.length c4))(hm:AF h):
  GU prog [p8,Wq,Wr] (λe a u'=>e=.normal/\QC a u'/\Up w u') ⟨T,[]⟩ w:=by
 rw[AhO T hT.1,Dx hT 6 (Tz s) dC,Dx hT 5 (Pz xp 0) dC,Dx hT 4 (Tz s) dC,Dx hT 1 (Pz bx 0) dC];exact Afj _ _ _ _ _ _ _ _ _ _ _ _ _ _ _ _ _ _ _ _ _ _ _ w kB kX hC H hm
end
end Bd
section
open Go.Conc Go.RowKit
structure OG (W w:World):Prop where
 os:w.os=W.os
 output:w.output=W.output
 size:W.heap.size<=w.heap.size
 block:∀k,k<W.heap.size->w.heap[k]?=W.heap[k]?
end
namespace Bd
open Go.Conc Go.ConcN Go.RowKit Go.Conc.Lib Go.ConcR.Gen Go.ConcN.Gen
open Ld (I8 none_ tp)
theorem Abd{w:World}{b:Nat}{t:TypeId}(h:w.heap[b]?=some (.cells l.toArray t (0,0))):CB w b l:=by
 refine⟨λj v hv=>?_,λj hj=>?_,(D1.1 h).1⟩
 .simp only[World.cell?,h,Nat.zero_add];simpa using hv
 .constructor
  .simp only[World.cell?,h,Nat.zero_add];simp[hj]
  .simp[World.frozen?,h]
theorem AiY:Go.Proofs.YtaffjphkobhagaaGreatDoor.FrB prog (base 3):=⟨rfl,_,func3⟩
theorem AcV(T:Array Value)(todo:List Item)(hT:T.getD 2 undef=.bool true)(x:World):stepG prog true (G {(base 3).at ⟨T,[]⟩ todo with mode:=.returning} []) x=.ended (.done (.bool true)) x #[]:=by
 have hr:=results_tmp (fn:=Tryz.f3) (t:=2) rfl T prog x;have he:=events_results_tmp (P:=prog) (w:=x) (fn:=Tryz.f3) (t:=2) rfl T;rw[hT] at hr;simp[G,stepG,unwind,doReturn,Frame.at,hr,he,seen,GStep.after,base]
section
variable {W0:World}
theorem Ad4{gs:Array Goroutine}{T:Array Value}{w:World}{sl:Option (Nat×Nat)}{t:Trace}(hh:F0 prog Shun gs (G (ff 3 T (.code .ret::k)) []) t)(h2:T[2]?=some (.bool true))(hb:OG W0 w):D9 prog (λv w=>v=.bool true/\OG W0 w) (crowd gs w sl) t:=by
 refine E8 (Walk.one (g':=G {(base 3).at ⟨T,[]⟩ (.code .ret::k) with mode:=.returning} []) rfl (λw=>by rw[Et];exact stepG_ret')) hh λgs sl t d hh=>?_;refine Zh hh rfl (AcV T _ (by rw[Array.getD_eq_getD_getElem?,h2];rfl)) λd'=>⟨rfl,hb.os,hb.output,hb.size,hb.block⟩
theorem Lw.bel{V:World}(k:Lw W0 V):OG W0 V:=⟨k.up.os,k.up.output,k.up.size,λb hb=>k.up.block b hb⟩
variable {h:House} {a1 a2 a3 a4:Option Addr} {c1 c2 c3 c4:Nat}
theorem lawB_ends(hn:NV W0)(hE:F6 (z W0))(hP:BR (z W0))(hgl:prog.globals.size<=W0.heap.size)(H:Z0 W0 h (Vz a1 h.sh.tg.length c1) (Vz a2 h.sh.bs.length c2) (Vz a3 h.bs.length c3) (Vz a4 h.ds.length c4)):
  D9 prog (λv w=>v=.bool true/\OG W0 w) (crowd #[G (Frame.enter prog 3 #[.agg (Hcz h a1 c1 a2 c2 a3 c3 a4 c4).toArray] .normal) []] W0 none) #[]:=by
 have hh:F0 prog none_ #[G (Frame.enter prog 3 #[.agg (Hcz h a1 c1 a2 c2 a3 c3 a4 c4).toArray] .normal) []] (G (Frame.enter prog 3 #[.agg (Hcz h a1 c1 a2 c2 a3 c3 a4 c4).toArray] .normal) []) #[]:=⟨rfl,⟨_,leavers_one _ _⟩,⟨0,Afm⟩⟩;refine AhN hn H hh (λgs V sl t T hh h2 k=>Ad4 hh h2 k.bel) λgs V sl t T tb kb xb db xp base hm hh hT k hbase hxp hB hX hC hHX=>?_;refine CD 38 5 17 hh hT hX λgs sl t d1 T hh hT=>?_;refine NA (d:=some 18) (.call {callee:=.value (.func 7),args:=#[.tmp 17],argTypes:=#[38]}) hh (λ_ e w=>Dw _ e rfl (args:=#[.agg #[Iz h.now,Iz h.last,Sy tb h.sh.tg.length h.sh.tg.length,Sy kb h.sh.bs.length h.sh.bs.length,Sy xb h.bs.length h.bs.length,Sy db h.ds.length h.ds.length]]) (by simp only[List.map_toArray,List.map_cons,List.map_nil];rw[hT.ei 17]) func7 sI sI w) λgs sl t d2 hf hh=>?_;have a9:=AgF (W:=(V.at d1).at d2) (Ad3 hHX V.tape d2) H hm (B4 hgl hbase) (Lib.tabBelow_of_tabIs hP _ k.up);refine Abc (W:=(V.at d1).at d2) k.nv (k.ends hE _ _) a9 _ _ _ gs sl t hh λX Shun gs w sl t v hXs far hh hb hR=>?_;obtain rfl:v=_:=(hR (λ_ _=>0) 0).1;rw[hf] at hh;have a7:=hT.put 18 (Tz (U6 h)) aS dC;refine F4 (.assign (.tmp 18)) 6 (v:=Tz (U6 h)) hh a7 (λ_ e x=>by rw[S5 _ _ e,a7.ei 18]) λgs sl t d3 T hh hT=>?_;replace hT:=hT.sub (l':=[(6,Tz (U6 h)),(5,Pz xp 0),(4,Tz (U6 h)),(1,Pz W0.heap.size 0)]) dC;refine E8 (G6 1 (l':=[.code l8t]) (by rfl)) hh λgs sl t d4 hh=>?_;rw[AgP,Et] at hh
 have a0:∀τ d,Below V.heap.size (tp V τ d) (F7 X w τ d):=λτ d=>by
  have:=(hR τ d).2;rw[BG] at this;exact this
 have hI:CJ (λ_=>False) V (λu=>CB u W0.heap.size (Hcz h a1 c1 a2 c2 a3 c3 a4 c4)/\CB u xp [Iz h.now,Iz h.last,Sy tb h.sh.tg.length h.sh.tg.length,Sy kb h.sh.bs.length h.sh.bs.length,Sy xb h.bs.length h.bs.length,Sy db h.ds.length h.ds.length]/\HC u h (Sy tb h.sh.tg.length h.sh.tg.length) (Sy kb h.sh.bs.length h.sh.bs.length) xb (Sy db h.ds.length h.ds.length)/\Z0 u h (Vz a1 h.sh.tg.length c1) (Vz a2 h.sh.bs.length c2) (Vz a3 h.bs.length c3) (Vz a4 h.ds.length c4)) X Shun ((w.at d3).at d4):=by
  refine⟨hXs,(hb.at d3).at d4,λτ d=>?_,λτ d=>?_,far⟩
  .have kB:CB (tp V τ d) W0.heap.size (Hcz h a1 c1 a2 c2 a3 c3 a4 c4):=Abd hB;have kX:CB (tp V τ d) xp [Iz h.now,Iz h.last,Sy tb h.sh.tg.length h.sh.tg.length,Sy kb h.sh.bs.length h.sh.bs.length,Sy xb h.bs.length h.bs.length,Sy db h.ds.length h.ds.length]:=Abd hX;exact⟨kB.up (a0 τ d) kB.2.2,kX.up (a0 τ d) kX.2.2,(QH hC τ d).up (a0 τ d),(k.src H τ d).up (a0 τ d)⟩
  .rw[BG];exact a0 τ d
 have a6:Acb (λu=>CB u W0.heap.size (Hcz h a1 c1 a2 c2 a3 c3 a4 c4)/\CB u xp [Iz h.now,Iz h.last,Sy tb h.sh.tg.length h.sh.tg.length,Sy kb h.sh.bs.length h.sh.bs.length,Sy xb h.bs.length h.bs.length,Sy db h.ds.length h.ds.length]/\HC u h (Sy tb h.sh.tg.length h.sh.tg.length) (Sy kb h.sh.bs.length h.sh.bs.length) xb (Sy db h.ds.length h.ds.length)/\Z0 u h (Vz a1 h.sh.tg.length c1) (Vz a2 h.sh.bs.length c2) (Vz a3 h.bs.length c3) (Vz a4 h.ds.length c4)):=⟨λu u' hu hb=>⟨hu.1.up hb hu.1.2.2,hu.2.1.up hb hu.2.1.2.2,hu.2.2.1.up hb,hu.2.2.2.up hb⟩,λu τ d hu=>⟨hu.1,hu.2.1,QH hu.2.2.1 τ d,Wp hu.2.2.2 τ d⟩⟩;refine AfT (l:=[p8,Wq,Wr]) (G':=QC) Acp AiX AiY rfl a6 hI (λ_ _ _ _ h=>h) (λu hu=>AgQ u hT hu.1 hu.2.1 hu.2.2.1 hu.2.2.2 hm) hh λgs V9 sl t a hh hd hI9=>?_;obtain⟨-,T9,rfl,a8⟩:=hI9.hold (λ_ _=>0) 0;rw[← Et] at hh;refine Ad4 hh (a8.gi 2) ?_;have a5:=hI9.low (λ_ _=>0) 0;rw[BG] at a5;have ks:=k.sz;refine⟨a5.os.trans k.up.os,a5.output.trans k.up.output,?_,λb hb=>?_⟩
 .have:=a5.size;(try unfold Up at this);rw[Ct] at this;exact B4 ks this
 .have hx:¬X b:=λhx=>by
   rcases far b hx with h|h
   .exact h
   .have h:V.heap.size<=b:=h;omega
  have:=a5.block b (by show b<V.heap.size;omega);rw[Cz hx] at this;exact this.trans (k.up.block b hb)
end
end Bd
end Go.Proofs.YtaffjphkobhagaaGreatDoor
