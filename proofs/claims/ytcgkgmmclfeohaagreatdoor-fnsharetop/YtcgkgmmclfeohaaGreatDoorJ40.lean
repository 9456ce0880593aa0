/- The share's goroutines, 11: a worker that asks whether a batch can. -/
import Derived.Test.YtcgkgmmclfeohaaGreatDoorJ39
import Derived.Shelf.Spec.SlicesInsert
set_option maxRecDepth 100000
set_option maxHeartbeats 4000000
namespace Go.Proofs.YtcgkgmmclfeohaaGreatDoor
open Go.Proofs.Tryz
open Go.Conc Go.ConcN Go.RowKit Go.Conc.Lib Go.ConcR.Gen Go.ConcN.Gen
open Go.ConcR (KK wgBlock WgAt stA smA rd wr mk Payload DC0)
noncomputable def bC:Frame:=base 43
noncomputable def Lz:Code:=Tryz.f43.body.getD .skip
noncomputable def NQ:Array Oper:=match Lz with | .seq _ (.seq (.region _ o _) _)=>o|_=>#[]
noncomputable def Zy:Code:=match Lz with | .seq _ (.seq _ r)=>r|_=>.skip
def SV(tb g j n cap:Nat)(x5 x12:Value):Array Value:=#[.pointer (some ⟨tb,0,none⟩),.int .i64 j,undef,undef,.bool false,x5,.pointer (some ⟨tb,0,none⟩),.pointer (some ⟨tb,0,none⟩),.pointer (some ⟨tb,0,none⟩),.slice (some ⟨g,0,none⟩) n cap,.int .i64 j,.pointer (some ⟨g,j*4,none⟩),x12,undef,undef,undef,undef,undef,undef,undef,undef,undef,undef,undef,undef,undef,undef,undef,undef]
section
variable {p:L6} {W:World} {C hB i:Nat} {tb g n cap:Nat} {x0 x1 x2 x3:Value}
theorem AjU(o:p.Ok)(hCL:p.Low<=C)(hin:i<n)(hhB:Fy p ⟨hB,0,none⟩)(hfv:At W hB 0 (.func (.func 43) #[Pz tb 0] #[]))
  (h2:Fy p ⟨tb,0,none⟩) (c2:At W tb 0 (Sz g n cap))
  (h3:∀k,Fy p ⟨g,k,none⟩) (c30:At W g (i*4) x0) (c31:At W g (i*4+1) x1) (c32:At W g (i*4+2) x2) (c33:At W g (i*4+3) x3)
  {Stop:Goroutine->World->Prop} {m:Nat}
  (hnext:∀w,Gr p W C i w->Goes prog false (RK p (T6 C)) (DK p (T6 C)) Stop m (G (bC.at ⟨SV tb g i n cap undef (.agg #[x0,x1,x2,x3]),[]⟩ (.inRegion NQ [7,8]::[.code Zy])) [bW.at ⟨Ga p hB C i (.func (.func 43) #[Pz tb 0] #[]) undef,PJ p⟩ (.inRegion Ir [2]::[.code Is]),Iq]) w)
  (w:World) (hF:Gr p W C i w):Goes prog false (RK p (T6 C)) (DK p (T6 C)) Stop (m+23) (born prog (JF p.Wg hB C p.S)) w:=by
 have hC:T6 C C:=rfl;have a0:¬p.Sh (.cell ⟨C,0,none⟩):=λh=>by have:=o.low h;simp at this;omega
 have a1:(0:Int)<=(i:Int):=by omega
 have a2:(i:Int)<(n:Int):=by omega
 refine Goes.step rfl (λ_ h₁=>?_);replace hF:=Du hC hF h₁;clear h₁;rw[AeY];refine⟨O9 _,?_⟩;simp only[Ga,PJ,Ir,Is,JE,Tryz.f74,Option.getD_some] at hnext ⊢
 refine Goes.step rfl (λ_ h₁=>?_);replace hF:=Du hC hF h₁;clear h₁;rw[stepG_seq];simp only[goes_go];refine⟨O9 _,?_⟩;refine Goes.step rfl (λ_ h₁=>?_);replace hF:=Du hC hF h₁;clear h₁;rw[stepG_region];simp only[goes_go,List.size_toArray,List.length_cons,List.length_nil,Nat.zero_add,List.range,List.range.loop];refine⟨O9 _,?_⟩;refine Goes.step rfl (λ_ h₁=>?_);replace hF:=Du hC hF h₁;clear h₁;rw[stepG_defer rfl rfl (by k_ne) rfl];simp only[goes_go];refine⟨O9 _,?_⟩;walk_nrm
 refine Goes.step rfl (λ_ h₁=>?_);replace hF:=Du hC hF h₁;clear h₁;rw[stepG_region_end];simp only[goes_go];refine⟨O9 _,?_⟩;refine Goes.step rfl (λ_ h₁=>?_);replace hF:=Du hC hF h₁;clear h₁;rw[stepG_seq];simp only[goes_go];refine⟨O9 _,?_⟩;refine Goes.step rfl (λ_ h₁=>?_);replace hF:=Du hC hF h₁;clear h₁;rw[stepG_region];simp only[goes_go,List.size_toArray,List.length_cons,List.length_nil,Nat.reduceAdd,Nat.zero_add,List.range,List.range.loop];refine⟨O9 _,?_⟩;refine Goes.step rfl (λ_ h₁=>?_);replace hF:=Du hC hF h₁;clear h₁;refine goes_oper_k rfl rfl (by k_ne) (λK hK=>?_);have hc:=(hF.cell hhB).trans hfv;go_simp;refine hK _ _ ⟨⟨.refl _,λe he=>?_⟩,?_⟩
 ·have hm:=mem_listed he;simp[go_sem, *] at hm;subst hm;exact Lq hhB.lt hhB.sh
 clear hK K hc;refine Goes.step rfl (λ_ h₁=>?_);replace hF:=Du hC hF h₁;clear h₁;refine goes_oper_k rfl rfl (by k_ne) (λK hK=>?_);have hc:=hF.tk.cell;go_simp;refine hK _ _ ⟨⟨.refl _,λe he=>?_⟩,?_⟩
 ·have hm:=mem_listed he;simp[go_sem, *] at hm;subst hm;exact Fx hC a0
 clear hK K hc;try walk_nrm
 refine TR (R3 p (T6 C)) (f:=43) (args:=#[Pz tb 0,Iz i]) rfl rfl (by k_ne) (λw=>?_) (λw=>?_) func43 rfl ?_
 ·unfold execOp;simp[resolve,Deferred.ofValue,invoke,callFunc,Act.eval,func43,Tryz.f43]
 ·unfold execOp;simp[resolve,Deferred.ofValue,invoke,callFunc,Act.eval,func43,Tryz.f43]
 simp only[SV,NQ,Zy,Lz,bC,Tryz.f43,Option.getD_some] at hnext ⊢
 walk_nrm
 refine Goes.step rfl (λ_ h₁=>?_);replace hF:=Du hC hF h₁;clear h₁;rw[stepG_seq];simp only[goes_go];refine⟨O9 _,?_⟩;refine Goes.step rfl (λ_ h₁=>?_);replace hF:=Du hC hF h₁;clear h₁;rw[stepG_region];simp only[goes_go,List.size_toArray,List.length_cons,List.length_nil,Nat.zero_add,List.range,List.range.loop];refine⟨O9 _,?_⟩;refine Goes.step rfl (λ_ h₁=>?_);replace hF:=Du hC hF h₁;clear h₁;refine goes_oper_k rfl rfl (by k_ne) (λK hK=>?_);go_simp;refine hK _ _ ⟨BO (by intro e he;have hm:=mem_listed he;simp[go_sem, *] at hm),?_⟩;clear hK K;try w_num
 refine Goes.step rfl (λ_ h₁=>?_);replace hF:=Du hC hF h₁;clear h₁;rw[stepG_region_end];simp only[goes_go];refine⟨O9 _,?_⟩;refine Goes.step rfl (λ_ h₁=>?_);replace hF:=Du hC hF h₁;clear h₁;rw[stepG_seq];simp only[goes_go];refine⟨O9 _,?_⟩;refine Goes.step rfl (λ_ h₁=>?_);replace hF:=Du hC hF h₁;clear h₁;rw[stepG_region];simp only[goes_go,List.size_toArray,List.length_cons,List.length_nil,Nat.reduceAdd,Nat.zero_add,List.range,List.range.loop];refine⟨O9 _,?_⟩;refine Goes.step rfl (λ_ h₁=>?_);replace hF:=Du hC hF h₁;clear h₁;refine goes_oper_k rfl rfl (by k_ne) (λK hK=>?_);go_simp;refine hK _ _ ⟨BO (by intro e he;have hm:=mem_listed he;simp[go_sem, *] at hm),?_⟩;clear hK K;try w_num
 refine Goes.step rfl (λ_ h₁=>?_);replace hF:=Du hC hF h₁;clear h₁;refine goes_oper_k rfl rfl (by k_ne) (λK hK=>?_);go_simp;refine hK _ _ ⟨BO (by intro e he;have hm:=mem_listed he;simp[go_sem, *] at hm),?_⟩;clear hK K;try w_num
 refine Goes.step rfl (λ_ h₁=>?_);replace hF:=Du hC hF h₁;clear h₁;refine goes_oper_k rfl rfl (by k_ne) (λK hK=>?_);go_simp;refine hK _ _ ⟨BO (by intro e he;have hm:=mem_listed he;simp[go_sem, *] at hm),?_⟩;clear hK K;try w_num
 refine Goes.step rfl (λ_ h₁=>?_);replace hF:=Du hC hF h₁;clear h₁;refine goes_oper_k rfl rfl (by k_ne) (λK hK=>?_);have hc:=(hF.cell h2).trans c2;go_simp;refine hK _ _ ⟨⟨.refl _,λe he=>?_⟩,?_⟩
 ·have hm:=mem_listed he;simp[go_sem, *] at hm;subst hm;exact Lq h2.lt h2.sh
 clear hK K hc;try walk_nrm
 refine Goes.step rfl (λ_ h₁=>?_);replace hF:=Du hC hF h₁;clear h₁;refine goes_oper_k rfl rfl (by k_ne) (λK hK=>?_);go_simp;refine hK _ _ ⟨BO (by intro e he;have hm:=mem_listed he;simp[go_sem, *] at hm),?_⟩;clear hK K;try w_num
 refine Goes.step rfl (λ_ h₁=>?_);replace hF:=Du hC hF h₁;clear h₁;refine goes_oper_k rfl rfl (by k_ne) (λK hK=>?_);go_simp;refine hK _ _ ⟨BO (by intro e he;have hm:=mem_listed he;simp[go_sem, *] at hm),?_⟩;clear hK K;try w_num
 refine Goes.step rfl (λ_ h₁=>?_);replace hF:=Du hC hF h₁;clear h₁;refine goes_oper_k rfl rfl (by k_ne) (λK hK=>?_);have d0:=(hF.cell (h3 (i*4))).trans c30;have d1:=(hF.cell (h3 (i*4+1))).trans c31;have d2:=(hF.cell (h3 (i*4+2))).trans c32;have d3:=(hF.cell (h3 (i*4+3))).trans c33;go_simp;refine hK _ _ ⟨⟨.refl _,λe he=>?_⟩,?_⟩
 ·have hm:=mem_listed he;simp[go_sem, *] at hm;rcases hm with rfl|rfl|rfl|rfl<;>exact Lq (h3 _).lt (h3 _).sh
 clear hK K d0 d1 d2 d3;try walk_nrm
 exact hnext _ hF
end
structure KU (p:L6) (W:World) (C i b:Nat) (xs:Array Value) (w:World):Prop where
 kn:Gr p W C i w
 row:w.heap[b]?=some (.cells xs 108)
theorem EP{p:L6}{W:World}{M:Nat->Prop}{C i b:Nat}{xs:Array Value}(hC:M C)(hb:M b){w w₁:World}(h:KU p W C i b xs w)(r:RK p M w w₁):KU p W C i b xs w₁:=⟨Du hC h.kn r,(r.own b hb).trans h.row⟩
theorem KU.cell{p:L6}{W:World}{C i b k:Nat}{xs:Array Value}{v:Value}{w:World}(h:KU p W C i b xs w)(hv:xs[k]?=some v):At w b k v:=by
 simp[World.cell?,h.row,hv]
section
variable {p:L6} {W:World} {M:Nat->Prop} {C i b tb g n cap:Nat} {x0:Value} {hb nb fb:Nat}
theorem AdR(o:p.Ok)(hC:M C)(Bf:M b)(hbL:p.Low<=b)(h1:Fy p ⟨tb,1,none⟩)(c1:At W tb 1 (.int .u64 fb))(l1:hb<256)(l2:fb<256)(x12:Value):
  ∃nf,∀w,KU p W C i b #[x0,.int .u64 hb,.int .u64 nb,.bool false] w->Zy.wpC prog false (RK p M) (DK p M) 43 nf (bodyPostC prog Tryz.f43 λv w'=>v=.bool (bits .andNot .u64 (nb:Int) ((fb:Int)+(hb:Int))==0)/\KU p W C i b #[x0,.int .u64 hb,.int .u64 nb,.bool false] w')
   ⟨SV tb g i n cap (Pz b 0) x12,[]⟩ w:=by
 have a0:∀k,¬p.Sh (.cell ⟨b,k,none⟩):=λk h=>by have:=o.low h;simp at this;omega
 have a1:IntKind.u64.wrap ((fb:Int)+(hb:Int))=(fb:Int)+(hb:Int):=by rw[IntKind.wrap_u64];omega
 simp only[Zy,SV,Lz,Tryz.f43,Option.getD_some];co_apply Exists.intro
 intro w hF;co_apply wpC_seq (R3 p M)
 co_held (R3 p M) (Ah0 p M) AaJ (KU p W C i b #[x0,.int .u64 hb,.int .u64 nb,.bool false]) (EP hC Bf) hF
 co_take 0 (R3 p M) (EP hC Bf) hF hw (skip) (co_quiet (R3 p M))
 co_take 1 (R3 p M) (EP hC Bf) hF hw (have hc:=hw.cell (k:=3) (v:=.bool false) rfl) (refine⟨.refl _,?_⟩;co_evs (exact Fx Bf (a0 _)))
 co_take 2 (R3 p M) (EP hC Bf) hF hw (skip) (co_quiet (R3 p M))
 co_take 3 (R3 p M) (EP hC Bf) hF hw (skip) (co_quiet (R3 p M))
 co_take 4 (R3 p M) (EP hC Bf) hF hw (skip) (co_quiet (R3 p M))
 co_take 5 (R3 p M) (EP hC Bf) hF hw (have hc:=hw.cell (k:=2) (v:=.int .u64 nb) rfl) (refine⟨.refl _,?_⟩;co_evs (exact Fx Bf (a0 _)))
 co_take 6 (R3 p M) (EP hC Bf) hF hw (skip) (co_quiet (R3 p M))
 co_take 7 (R3 p M) (EP hC Bf) hF hw (skip) (co_quiet (R3 p M))
 co_take 8 (R3 p M) (EP hC Bf) hF hw (skip) (co_quiet (R3 p M))
 co_take 9 (R3 p M) (EP hC Bf) hF hw (have hc:=(hw.kn.cell h1).trans c1) (refine⟨.refl _,?_⟩;co_evs (exact Lq (h1).lt (h1).sh))
 co_take 10 (R3 p M) (EP hC Bf) hF hw (skip) (co_quiet (R3 p M))
 co_take 11 (R3 p M) (EP hC Bf) hF hw (have hc:=hw.cell (k:=1) (v:=.int .u64 hb) rfl) (refine⟨.refl _,?_⟩;co_evs (exact Fx Bf (a0 _)))
 co_take 12 (R3 p M) (EP hC Bf) hF hw (skip) (co_quiet (R3 p M))
 co_take 13 (R3 p M) (EP hC Bf) hF hw (skip) (co_quiet (R3 p M))
 co_take 14 (R3 p M) (EP hC Bf) hF hw (skip) (co_quiet (R3 p M))
 co_take 15 (R3 p M) (EP hC Bf) hF hw (skip) (co_quiet (R3 p M))
 co_take 16 (R3 p M) (EP hC Bf) hF hw (skip) (co_quiet (R3 p M))
 co_done
 co_ctl (R3 p M)
 exact⟨rfl,_,resultsC_tmp (by rfl) _,by simp,hF⟩
end
end Go.Proofs.YtcgkgmmclfeohaaGreatDoor
namespace Go.Proofs.YtcgkgmmclfeohaaGreatDoor
open Go.Proofs.Tryz
open Go.RowKit Go.Shelf Go.Lib
def DN(w:World)(vb:Nat)(p:Bv):Prop:=w.heap[vb]?=some (.cells #[.string p.1.nm,p.2.1,p.2.2] 57 (0,0))
theorem DN.cell{w:World}{vb:Nat}{p:Bv}(h:DN w vb p):∀(j:Nat)(u:Value),(P6 p)[j]?=some u->w.cell? ((⟨vb,0,none⟩:Addr).add j)=some u:=λj u hu=>by
 rw[Addr.add_mid,Nat.zero_add,cell_of_row w vb j _ 57 (0,0) h];match j,hu with
 | 0,hu=>simpa [P6] using hu
 | 1,hu=>simpa [P6] using hu
 | 2,hu=>simpa [P6] using hu
theorem DN.frozen{w:World}{vb:Nat}{p:Bv}(h:DN w vb p)(j:Nat):w.frozen? ⟨vb,j,none⟩=false:=by
 simp[World.frozen?,show w.heap[vb]?=_ from h]
theorem DN.shape{w:World}{vb:Nat}{p:Bv}(h:DN w vb p):w.shape? vb=some (57,3):=by
 simp[World.shape?,show w.heap[vb]?=_ from h]
theorem WW{w:World}{base e size n c g:Nat}{xs:List Value}(h:w.ownsRow base e size (Sz g n c) n xs):w.shape? g=some (e,c*size):=by
 rcases h.2 with⟨h0,_⟩|⟨g',cap,cur,h',h1,h2,h3,h4,h5,h6⟩
 ·simp at h0
 ·obtain⟨e1,-,rfl⟩:=Value.slice.inj h';obtain rfl:g=g':=by simpa using e1
  simp[World.shape?,h2,h5]
theorem Abo(w:World):(Go.sizeOf 57).run prog w=.ok 3 w:=by kernel_rfl
theorem WY(ps:List Bv)(p:Bv)(v:Value)(base vb:Nat)(w:World)(hn:ps.length<=100)(hrow:w.ownsRow base 57 3 v ps.length (E4 ps))(hB:DN w vb p)(hone:∀u∈P6 p,u.oneCell'=true)(hz:base<=w.heap.size):
  Calls prog 81 #[v,Iz ps.length,Sz vb 1 1] w
   λe w'=>∃u,e=.returned u/\w'.ownsRow base 57 3 u (ps.length+1) (E4 (ps++[p]))/\w.grownBy w' v.ownBlock/\MT w v u:=by
 obtain⟨ii,hi,a3,a4,a5⟩:=info_parts CR;obtain⟨v1,w1,hr,a0,a2,-⟩:=run_append_own (P:=prog) w base 24 24 57 ii _ 3 64 underlying24 hi a3 a4 a5 rfl (by decide) v ps.length (E4 ps) hrow ⟨vb,0,none⟩ 1 1 (P6 p) rfl hB.cell hone (by unfold maxLen;omega) (by omega) hz;have a7:MT w v v1:=RC base 24 24 57 ii _ 3 64 underlying24 hi a3 a4 a5 v ps.length (E4 ps) hrow ⟨vb,0,none⟩ 1 1 (P6 p) rfl hB.cell hone (by omega) (by unfold maxLen;omega) (by omega) hr
 have a1:w1.ownsRow base 57 3 v1 (ps.length+1) (E4 (ps++[p])):=by
  rw[Gw];exact a0
 obtain⟨a,c,hv⟩:=L9 hrow;subst hv
 have hc:ps.length<=c/\c<=9223372036854775807:=by
  rcases hrow.2 with⟨h0,h1⟩|⟨g',cap,cur,h',h1,h2,h3,h4,h5,h6⟩
  ·obtain⟨-,-,rfl⟩:=Value.slice.inj h0;omega
  ·obtain⟨-,-,rfl⟩:=Value.slice.inj h';unfold maxLen at h4;omega
 obtain⟨a8,a9⟩:=hc;obtain⟨b1,d1,a6⟩:=L9 a0;subst a6;clear a0;go_in;go_wp2_with (at_builtin;refine BJ _ rfl _ _ _ _ rfl _ _ _ _ rfl rfl hr ?_)
 all_goals
  go_ret;exact⟨_,rfl,a1,by cases a<;>exact a2,by cases a<;>exact a7⟩
theorem Abp(ps:List Bv)(p:Bv)(k:Nat)(ys:List Value)(hk:k<ps.length)(hy:ys.length=3):
  let xs:=E4 ps++ys
  let xs2:=xs.take ((k+1)*3)++E4 (ps.drop k)++xs.drop ((k+1)*3+(E4 (ps.drop k)).length)
  xs2.take (k*3)++P6 p++xs2.drop (k*3+(P6 p).length)=E4 (ps.take k++p::ps.drop k):=by
 intro xs xs2;have h1:(E4 ps).length=ps.length*3:=R7 ps;have h2:(E4 (ps.drop k)).length=(ps.length-k)*3:=by rw[R7,A8]
 have a0:xs.length=(ps.length+1)*3:=by show (E4 ps++ys).length=_;rw[A9,h1,hy];omega
 have h3:xs.drop ((k+1)*3+(E4 (ps.drop k)).length)=[]:=List.drop_eq_nil_of_le (by rw[a0,h2];omega);have h4:xs2=xs.take ((k+1)*3)++E4 (ps.drop k):=by show _++_++_=_;rw[h3,List.append_nil]
 have h5:(xs.take ((k+1)*3)).length=(k+1)*3:=by rw[B8,a0];omega
 have h6:xs2.take (k*3)=E4 (ps.take k):=by
  rw[h4,List.take_append_of_le_length (by rw[h5];omega),List.take_take,Nat.min_eq_left (by omega)];show (E4 ps++ys).take (k*3)=_
  rw[List.take_append_of_le_length (by rw[h1];omega),MY ps k (by omega)]
 have h7:xs2.drop (k*3+(P6 p).length)=E4 (ps.drop k):=by
  have hb:(P6 p).length=3:=rfl;rw[h4,hb,show k*3+3=(k+1)*3 by omega];exact List.drop_left' h5
 rw[h6,h7,AP];simp[E4]
theorem TX(ps:List Bv)(p:Bv)(k g c base vb:Nat)(w:World)(hk:k<ps.length)(_:ps.length<=100)(hroom:ps.length+1<=c)(hrow:w.ownsRow base 57 3 (Sz g ps.length c) ps.length (E4 ps))(hone:∀u∈E4 ps,u.oneCell'=true)(hB:DN w vb p)(hop:∀u∈P6 p,u.oneCell'=true)(hne:vb≠g):
  (∀lb cb,(callFunc 111 #[Sz vb 1 1,Vz (some ⟨g,(k+1)*3,none⟩) lb cb]).run prog w=.ok (.value (.bool false)) w)/\
  ∃W w',(∀ty dc sc,(Builtin.copy_ #[24,24] ty #[Vz (some ⟨g,(k+1)*3,none⟩) (ps.length-k) dc,Sy g (k*3) (ps.length+1-k) sc]).run prog w.drew=.ok (goInt ((ps.length-k:Nat):Int)) W)/\
   (∀ty dc,(Builtin.copy_ #[24,24] ty #[Sy g (k*3) (ps.length+1-k) dc,Sz vb 1 1]).run prog W=.ok (goInt ((1:Nat):Int)) w')/\
   w'.ownsRow base 57 3 (Sz g (ps.length+1) c) (ps.length+1) (E4 (ps.take k++p::ps.drop k))/\w.grownBy W (some g)/\w.grownBy w' (some g)/\c<=9223372036854775807:=by
 have a4:(prog.info? 57).map (·.size)=some 3:=by kernel_rfl
 obtain⟨ys,a7,a1⟩:=Abn hrow (Nat.le_succ _) hroom;have a5:ys.length=3:=by rw[a7];omega
 have a0:w.drew.ownsRow base 57 3 (Sz g (ps.length+1) c) (ps.length+1) (E4 ps++ys):=a1;have a8:(E4 ps).length=ps.length*3:=R7 ps;have a3:(E4 (ps.drop k)).length=(ps.length-k)*3:=by rw[R7,A8]
 have a6:(E4 ps++ys).length=(ps.length+1)*3:=by rw[A9,a8,a5];omega
 obtain⟨t1,t2⟩:=Fh (E4 (ps.drop k)) ((k+1)*3) w.drew (E4 ps++ys) a0 (by rw[a6,a3];omega);have a2:((E4 ps++ys).take ((k+1)*3)++E4 (ps.drop k)++(E4 ps++ys).drop ((k+1)*3+(E4 (ps.drop k)).length)).length=(ps.length+1)*3:=t1.1;obtain⟨s1,s2⟩:=Fh (P6 p) (k*3) (w.drew.setCells g ((k+1)*3) (E4 (ps.drop k))) _ t1 (by rw[a2];show k*3+3<=_;omega);rw[Abp ps p k ys hk a5] at s1
 have a9:DN (w.drew.setCells g ((k+1)*3) (E4 (ps.drop k))) vb p:=by
  have:=t2.block vb (D2.1 (show w.heap[vb]?=_ from hB)).1 (by simpa using hne);unfold DN;rw[this];exact hB
 refine⟨λlb cb=>?_,_,_,λty dc sc=>?_,λty dc=>?_,s1,S3 (Cb (F4 w _)) t2,S3 (Cb (F4 w _)) (S3 t2 s2),?_⟩
 ·rw[run_callFunc_extern func111 (by kernel_rfl) (by kernel_rfl) (by kernel_rfl) (e:=Extern.SlicesOverlaps.overlaps #[24,24] #[4]) (by kernel_rfl),
   Lib.run_overlaps_apart w 24 4 57 underlying24 3 Abo ⟨vb,0,none⟩ ⟨g,(k+1)*3,none⟩ 1 1 lb cb hne _ _ _ _ hB.shape (WW hrow) (by omega) (hB.frozen 0) (hB.frozen 3)]
  rfl
 ·have h:=Iy (P:=prog) w.drew 24 24 ty 57 3 g ((k+1)*3) (ps.length-k) dc ⟨g,k*3,none⟩ (ps.length+1-k) sc (E4 (ps.drop k)) underlying24 a4 (by rw[a3,show Nat.min (ps.length+1-k) (ps.length-k)=ps.length-k from Nat.min_eq_right (by omega)])
   (Cg hrow k (ps.drop k) (IR ps k)) (λj hj=>?_) (λj hj=>a0.frozenAt _) (λu hu=>hone u (by
    rw[← List.take_append_drop k ps,AP];exact List.mem_append_right _ hu))
  ·rw[h,show Nat.min (ps.length+1-k) (ps.length-k)=ps.length-k from Nat.min_eq_right (by omega)]
  ·rw[a0.cellAt _ (by rw[a3] at hj;omega),A0 (by rw[a6];rw[a3] at hj;omega)];rfl
 ·have h:=Iy (P:=prog) (w.drew.setCells g ((k+1)*3) (E4 (ps.drop k))) 24 24 ty 57 3 g (k*3) (ps.length+1-k) dc ⟨vb,0,none⟩ 1 1 (P6 p) underlying24 a4 (by rw[show Nat.min 1 (ps.length+1-k)=1 from Nat.min_eq_left (by omega)];rfl)
   a9.cell (λj hj=>?_) (λj hj=>t1.frozenAt _) hop
  ·rw[h,show Nat.min 1 (ps.length+1-k)=1 from Nat.min_eq_left (by omega)]
  ·have b0:j<3:=hj;rw[t1.cellAt _ (by omega),A0 (by rw[a2];omega)];rfl
 ·have:=(GW hrow).2;unfold maxLen at this;omega
theorem TY(ps:List Bv)(p:Bv)(k g c base vb:Nat)(w:World)(hk:k<ps.length)(hn:ps.length<=100)(hroom:ps.length+1<=c)(hrow:w.ownsRow base 57 3 (Sz g ps.length c) ps.length (E4 ps))(hone:∀u∈E4 ps,u.oneCell'=true)(hB:DN w vb p)(hop:∀u∈P6 p,u.oneCell'=true)(hne:vb≠g):
  Calls prog 81 #[(Sz g ps.length c),Iz k,Sz vb 1 1] w
   λe w'=>e=.returned (Sz g (ps.length+1) c)/\w'.ownsRow base 57 3 (Sz g (ps.length+1) c) (ps.length+1) (E4 (ps.take k++p::ps.drop k))/\w.grownBy w' (some g):=by
 obtain⟨a3,W,w4,a4,a5,a1,a2,a6,a8⟩:=TX ps p k g c base vb w hk hn hroom hrow hone hB hop hne;have a0:Below 0 w w.drew:=(A4 _ _).drew;have a7:Below 0 w W:=Jp (A4 0 w) (Nat.zero_le _) hrow a2 (Nat.zero_le _);have a9:¬((k:Int)=(ps.length:Int)):=by omega
 have b0:¬(c=k+1):=by omega
 have b1:¬(c=k):=by omega
 have b2:k<=ps.length:=by omega
 have b3:(k:Int)<=(ps.length:Int):=by omega
 have b4:¬((c:Int)<(ps.length:Int)+1):=by omega
 have b5:(ps.length:Int)+1<=(c:Int):=by omega
 have b6:IntKind.i64.wrap ((k:Int)+1)=(k:Int)+1:=by rw[IntKind.wrap_i64];omega
 have b7:0<=(k:Int)+1:=by omega
 have b8:(k:Int)+1<=(ps.length:Int)+1:=by omega
 have b9:(k:Int)<=(ps.length:Int)+1:=by omega
 have c1:((k:Int)+1).toNat=k+1:=by omega
 have c2:((ps.length:Int)+1).toNat=ps.length+1:=by omega
 clear hrow hone hB hop a2;go_in;go_wp2_with (simp only[a3])
 refine T9 99 (λw'=>Below 0 w w') (by kernel_rfl) ?_;refine I2 0 rfl a0 ?_;refine I2 1 rfl a0 ?_;refine I2 2 rfl a0 ?_;refine I2 3 rfl a0 ?_;refine I2 4 rfl a0 ?_;refine I2 5 rfl a0 ?_;refine I2 6 rfl a0 ?_;refine I2 7 rfl a0 ?_;refine T0 8 rfl (λK hK=>?_);refine step_copy_runI rfl _ _ 24 24 rfl (Vz (some ⟨g,(k+1)*3,none⟩) (ps.length-k) (c-(k+1))) (Sy g (k*3) (ps.length+1-k) (c-k)) (by simp[Act.eval,Act.put]) (by simp[Act.eval,Act.put]) (a4 _ _ _) ?_;refine Y1 hK a7 ?_;clear hK K;refine Y2 (by kernel_rfl) ?_ _;go_wp2_with (at_builtin;refine wpList_copy_runI _ rfl _ _ 24 24 rfl _ _ rfl rfl (a5 _ _) ?_)
 go_ret;exact⟨rfl,a1,a6⟩
end Go.Proofs.YtcgkgmmclfeohaaGreatDoor
