/- The program's chapter 13: what is done where somebody goes. -/
import Derived.Test.YtcgkgmmclfeohaaGreatDoorJ16
import Derived.Test.YtcgkgmmclfeohaaGreatDoorJ14
import Derived.Test.YtcgkgmmclfeohaaGreatDoorEa2
namespace Go.Proofs.YtcgkgmmclfeohaaGreatDoor
open Go.Proofs.Tryz
open Go.RowKit
variable{b:Bk}{nm:BA}{c:Int}{B base q:Nat}{u v x0 x1:Value}{W w w' w0:World}
theorem Lh(h:Up W w0/\At w0 q 0 x0/\At w0 q 1 x1):Up W w0.drew/\w0.drew.cell? ⟨q,0,none⟩=some x0/\w0.drew.cell? ⟨q,1,none⟩=some x1:=⟨h.1.drew,h.2⟩
theorem Il{w1:World}(hq:q<W.heap.size)(h:Up W w0/\At w0 q 0 x0/\At w0 q 1 x1)(hB:Up w0 w1):Up W w1/\At w1 q 0 x0/\At w1 q 1 x1:=by
 have lq:q<w0.heap.size:=A1 hq h.1.size;exact⟨D4 h.1 hB,(hB.cell (p:=⟨q,0,none⟩) lq).trans h.2.1,(hB.cell (p:=⟨q,1,none⟩) lq).trans h.2.2⟩
theorem M2.sub{q:Option Nat}{fs gs:List (Value×List BA)}(h:M2 w B q fs)(hs:gs.Sublist fs):M2 w B q gs:=⟨λf hf=>h.own f (hs.subset hf),h.ap.sublist hs,λf hf=>h.av f (hs.subset hf)⟩
theorem Mo:∀{a b:List Bv},a.Sublist b->(V6 a).Sublist (V6 b)
 | _,_,.slnil=>List.Sublist.refl _
 | _,_,.cons _ h=>((Mo h).cons _).cons _
 | _,_,.cons_cons _ h=>((Mo h).cons_cons _).cons_cons _
def K8(w:World)(base:Nat)(v:Value)(b:Bk):Prop:=∃a1 c1 a2 c2 ps,v=.agg #[.slice a1 b.tg.length c1,.slice a2 b.bs.length c2]/\BM w base (.slice a2 b.bs.length c2) ps/\ps.map (·.1)=b.bs/\M2 w base none ((.slice a1 b.tg.length c1,b.tg)::V6 ps)
theorem UC(ps:List Bv)(p:Nat):(ps.take p++ps.drop (p+1)).Sublist ps:=by
 conv=>rhs;rw[← List.take_append_drop p ps]
 exact (List.Sublist.refl _).append (by rw[← List.drop_drop];exact List.drop_sublist _ _)
set_option maxRecDepth 20000 in
set_option maxHeartbeats 8000000 in
theorem Qn(b:Bk)(v:Value)(nm:BA)(w:World)(h:K6 w v b)(hok:I8 b)(hm:D7 (I3 b.bs) nm=true):
  Calls prog 61 #[v,.iface 66 (.agg #[Tz nm])] w λe w'=>(∃u,e=.returned u/\K8 w' w.heap.size u ⟨b.tg,b.bs.take (F3 b nm)++b.bs.drop (F3 b nm+1)⟩)/\Up w w':=by
 have f1:=Uy;have f2:=Ahm;have f3:=Ahn;have f4:=Aho;have f5:=Ahp;obtain⟨a1,c1,a2,c2,rfl,-,-⟩:=h.parts;obtain⟨s1,s2,s3⟩:=Ai hok;obtain⟨W1,c8,kA,kR,b8,h5⟩:=cbE2 w [Vz a1 (b).tg.length c1,Vz a2 (b).bs.length c2] 26 [Nz,Nz] 26;go_in;go_upto_region 1 with fail;try rw[c8]
 clear c8;have hk:=h.up b8;obtain⟨e0,e1⟩:=kA.c2';go_wp2_with fail;refine (FY b _ _ hk (by omega) (by omega) (λy hy=>by have:=s3 y hy;omega)).mono ?_;rintro e w2 ⟨⟨a3,c3,a4,c4,ps,rfl,x2,x3,hF⟩,b2⟩;have h9:=b2.size;have b4:∀g',(Vz a4 b.bs.length c4).ownBlock=some g'->g'<w2.heap.size:=λg' hg'=>(x2.1.lt g' hg').2;replace hF:=hF.avoid (A3 _);have Hnm:Hid (∀p∈ps,p.1.nm.size<=maxLen):=λp hp=>(x2.2 p hp).2.2;have d4:=kA.up b2 (by omega);have d5:=kR.up b2 (by omega);have d6:=hk.up b2;have d7:=D4 b8 b2;clear e0 e1 kA kR hk b8 b2;go_upto_region 2 with fail;obtain⟨W3,c9,kX,a8,h6⟩:=cbE1 w2 [(Vz a3 b.tg.length c3),Vz a4 b.bs.length c4] 26;try rw[c9]
 clear c9;have d8:=d4.up a8 (by omega);have d9:=d5.up a8 (by omega);have e2:=d6.up a8;have e3:=D4 d7 a8;have e4:=x2.up a8;have e5:=hF.up a8;clear d4 d5 d6 d7 x2 hF a8;obtain⟨e0,e1⟩:=d8.c2';have e6:Up W3 W3/\At W3 w.heap.size 0 (Vz a1 b.tg.length c1)/\At W3 w.heap.size 1 (Vz a2 b.bs.length c2):=⟨A4 _ _,e0,e1⟩;have h0:w.heap.size<W3.heap.size:=by omega
 clear e0 e1;go_wp2_with fail
 go_region_held (λw'=>Up W3 w'/\At w' w.heap.size 0 (Vz a1 b.tg.length c1)/\At w' w.heap.size 1 (Vz a2 b.bs.length c2)) (first|exact Lh e6|exact Il h0 (by assumption) (by assumption))
  (first
   | (go_at_call 142;refine (EM nm _).mono ?_;rintro e' w9 ⟨rfl,g6⟩)
   | (go_at_call 80;refine (Ft b _ nm _ ((e2.up (A4 _ _).drew).up g6) hok).mono ?_;rintro e' wA ⟨rfl,h4⟩))
 rename_i hHeld;have a9:=hHeld.1;clear hHeld e6 g6 h4;have i0:=a9.size;have e7:=kX.up a9 (by omega);have e8:=d9.up a9 (by omega);have e9:=D4 e3 a9;have b9:=e4.up a9;have f0:=e5.up a9;clear kX d9 d8 e3 e4 e5 e2 a9;rw[Na hok.2.2.2.1 hm];obtain⟨-,h7⟩:=BI hm;have b7:ps.length=b.bs.length:=by rw[← x3,B5]
 have a5:=b9.1;rw[b7] at a5;obtain⟨g,cp,d0⟩:=U5 a5 (by omega);obtain⟨rfl,-,rfl⟩:=Value.slice.inj d0;clear d0;go_upto_region 19 with fail;obtain⟨W5,d1,b1,h8⟩:∃W5,wA.alloc (Kz [Tz nm] 66)=W5/\Up wA W5/\W5.heap.size=wA.heap.size+1:=⟨_,rfl,(A4 _ _).alloc (A3 _) _,by simp⟩;try rw[d1]
 clear d1;have c5:=e7.up b1 (by omega);have f6:=e8.up b1 (by omega);have f7:=D4 e9 b1;have c6:=b9.up b1;have f8:=f0.up b1;have i1:=b4 g rfl;have i2:=(a5.lt g rfl).1;clear e7 e8 e9 b9 f0 b1 a5 b4;have a0:=c6.1;have b0:=Wd ps (F3 b nm) g c4 W1.heap.size W5 (by omega) (by omega) (by rw[b7];rw[b7] at a0;exact a0) (c6.one ps (λ_ h=>h));rw[b7] at b0 a0;obtain⟨⟨y0,y1⟩,-⟩:=c5.c2;go_wp2_with fail;refine b0.mono ?_;rintro e w6 ⟨rfl,a7,b6⟩;have c7:=c5.kept b6 (by simp;omega);have f9:=f6.kept b6 (by simp;omega);have g2:=f8.row a0 b6;have g3:Up w w6:=O6 f7 a0 b6 (by omega);clear y0 y1 b0 a0 c5 f6 f8 f7 c6
 obtain⟨W7,d2,g7,d3,g8,g9,b3⟩:∃W7,w6.setCell ⟨w2.heap.size,1,none⟩ (Sz g (b.bs.length-1) c4)=W7/\CB W7 w2.heap.size [(Vz a3 b.tg.length c3),Sz g (b.bs.length-1) c4]/\CB W7 (w.heap.size+1) [Nz,Nz]/\M2 W7 W1.heap.size (some w2.heap.size) (((Vz a3 b.tg.length c3),b.tg)::V6 ps)/\Up w W7/\W7.ownsRow W1.heap.size 57 3 (Sz g (b.bs.length-1) c4) (b.bs.length-1) (E4 (ps.take (F3 b nm)++ps.drop (F3 b nm+1))) :=
  ⟨_,rfl,c7.set (j:=1) (by simp),f9.other (by omega),g2.set 1 _,g3.setCell (p:=⟨w2.heap.size,1,none⟩) (by show _<=w2.heap.size;omega) _,P4 a7 (E6 (rb:=w2.heap.size) (off:=1) (F4 w6 _) _) (RR (by simp;omega))⟩
 obtain⟨⟨y0,y1⟩,g0,g1⟩:=c7.c2;go_upto_region 20 with fail;try rw[d2]
 clear d2 y0 y1 g0 g1 c7 f9 g2 g3 a7 b6;obtain⟨⟨y0,y1⟩,-⟩:=g7.c2;obtain⟨⟨r0,r1⟩,q0,q1⟩:=d3.c2;have a6:w.heap.size+1<W1.heap.size:=by omega
 have g4:(b.bs.take (F3 b nm)++b.bs.drop (F3 b nm+1)).length=b.bs.length-1:=by rw[A9,B8,A8];omega
 have h1:(ps.take (F3 b nm)++ps.drop (F3 b nm+1)).length=b.bs.length-1:=by rw[A9,B8,A8];omega
 have h2:(ps.take (F3 b nm)++ps.drop (F3 b nm+1)).map (·.1)=b.bs.take (F3 b nm)++b.bs.drop (F3 b nm+1):=by rw[← x3,List.map_append,List.map_take,List.map_drop]
 go_wp2_with fail;refine CF results61 underlying26 rfl M4 d3 rfl ?_;have b5:=J0 (J0 b3 (E6 (rb:=w.heap.size+1) (off:=0) (F4 _ _) (Vz a3 b.tg.length c3)) a6) (E6 (rb:=w.heap.size+1) (off:=1) (F4 _ _) (Sz g (b.bs.length-1) c4)) a6;have g5:=((g8.free.setLow a6 0 (Vz a3 b.tg.length c3)).setLow a6 1 (Sz g (b.bs.length-1) c4)).sub ((Mo (UC ps (F3 b nm))).cons_cons ((Vz a3 b.tg.length c3),b.tg));have h3:=g5.bsW (fs:=[((Vz a3 b.tg.length c3),b.tg)]) (v:=Sz g (b.bs.length-1) c4) (by rw[h1];exact b5) (λp hp=>Hnm.out p ((UC ps (F3 b nm)).subset hp));refine⟨⟨_,rfl,a3,c3,some ⟨g,0,none⟩,c4,ps.take (F3 b nm)++ps.drop (F3 b nm+1),?_,?_,h2,g5.low (by omega)⟩,I4 g9 (Nat.le_succ _) _ _⟩
 ·show Value.agg #[_,_]=Value.agg #[_,Vz _ (b.bs.take (F3 b nm)++b.bs.drop (F3 b nm+1)).length _]
  rw[g4]
 ·show BM _ _ (Vz _ (b.bs.take (F3 b nm)++b.bs.drop (F3 b nm+1)).length _) _
  rw[g4];exact h3.low (by omega)
theorem K8.up(h:K8 w base v b)(hb:Up w w'):K8 w' base v b:=by
 obtain⟨a1,c1,a2,c2,ps,e,h1,h2,h3⟩:=h;exact⟨a1,c1,a2,c2,ps,e,h1.up hb,h2,h3.up hb⟩
theorem K8.low{base':Nat}(h:K8 w base v b)(hb:base'<=base):K8 w base' v b:=by
 obtain⟨a1,c1,a2,c2,ps,e,h1,h2,h3⟩:=h;exact⟨a1,c1,a2,c2,ps,e,h1.low hb,h2,h3.low hb⟩
theorem K8.set{r j:Nat}(h:K8 w base v b)(hr:r<base):K8 (w.setCell ⟨r,j,none⟩ u) base v b:=by
 obtain⟨a1,c1,a2,c2,ps,e,h1,h2,h3⟩:=h;exact⟨a1,c1,a2,c2,ps,e,h1.set hr,h2,h3.setLow hr j u⟩
theorem K8.shape(h:K8 w base v b):∃a1 c1 a2 c2,v=.agg #[Vz a1 b.tg.length c1,Vz a2 b.bs.length c2]:=by
 obtain⟨a1,c1,a2,c2,ps,e,-⟩:=h;exact⟨a1,c1,a2,c2,e⟩
theorem Aa2(w:World)(base:Nat):K8 w base (.agg #[Nz,Nz]) Z7:=by
 refine⟨none,0,none,0,[],rfl,⟨B9 _ _ _ _,λp hp=>by simp at hp⟩,rfl,?_⟩;exact (Oo w base none).mk1 (B9 _ _ _ _)
def BX(nm:BA)(c:Int):Value:=if c=0 then .nilIface else .iface 113 (.agg #[.string nm,.iface 91 (.agg #[.int .i64 c])])
theorem Yk(nm:BA):BX nm 0=.nilIface:=rfl
theorem Yl(h:c≠0):BX nm c=.iface 113 (.agg #[Tz nm,.iface 91 (.agg #[Iz c])]):=by simp[BX,h]
noncomputable def L0(b:Bk)(cR:Int):Int:=if J6 b=false then 1 else cR
noncomputable def K7(b:Bk)(cR:Int)(bN:Bk):Bk:=if J6 b=false then Z7 else if cR=0 then bN else b
end Go.Proofs.YtcgkgmmclfeohaaGreatDoor
