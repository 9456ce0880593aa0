/- The law of promise 9, 5: the first loop, whole. -/
import Derived.Test.YtcgkgmmclfeohaaGreatDoorJ49
set_option maxRecDepth 20000
set_option maxHeartbeats 4000000
namespace Go.Proofs.YtcgkgmmclfeohaaGreatDoor
open Go.Proofs.Tryz
open Go.Conc Go.ConcN Go.RowKit Go.Conc.Lib Go.ConcR.Gen Go.ConcN.Gen
section
variable {W0:World} {ds:List Dv} {da:Option Addr} {dc x3:Nat} {kl:List Item}
theorem Ahd(h3:W0.heap.size<=x3)
  (kk:∀(b:Bk)(a1:Option Addr)(c1:Nat)(a2:Option Addr)(c2:Nat)(X:Nat->Prop)(Shun:Loc->Prop) gs V sl t T,O4 b->G6 prog Shun gs (G (bZ.at ⟨T,[]⟩ kl) []) t->O1 196 T [(3,Pz x3 0)]->F5 (λ_=>False) W0 (FA b ds (Vz da ds.length dc) x3 [Vz a1 b.tg.length c1,Vz a2 b.bs.length c2]) X Shun V->E7 prog (λv w=>v=.bool true/\Y6 W0 w) (crowd gs V sl) t) :
  ∀(m i:Nat)(b:Bk)(a1:Option Addr)(c1:Nat)(a2:Option Addr)(c2:Nat)(X:Nat->Prop)(Shun:Loc->Prop) gs V sl t T,ds.length-i=m->i<=ds.length->O4 b->G6 prog Shun gs (G (bZ.at ⟨T,[]⟩ (.code Ke::.inLoop Ke::.inBlock 0::kl)) []) t->O1 196 T [(3,Pz x3 0),(4,Vz da ds.length dc),(5,Iz i)]->F5 (λ_=>False) W0 (FA b ds (Vz da ds.length dc) x3 [Vz a1 b.tg.length c1,Vz a2 b.bs.length c2]) X Shun V->E7 prog (λv w=>v=.bool true/\Y6 W0 w) (crowd gs V sl) t:=by
 intro m;induction m with
 | zero =>
  intro i b a1 c1 a2 c2 X Shun gs V sl t T hm hi hsf hh hT hI;exact Acv h3 hi hh hT hI (λgs V sl t T hh hT hI=>kk b a1 c1 a2 c2 X Shun gs V sl t T hsf hh hT hI) (λh=>absurd h (by omega))
 | succ m ih =>
  intro i b a1 c1 a2 c2 X Shun gs V sl t T hm hi hsf hh hT hI;refine Acv h3 hi hh hT hI (λgs V sl t T hh hT hI=>kk b a1 c1 a2 c2 X Shun gs V sl t T hsf hh hT hI) λhlt kd nm ls la lc x6 x7 x8 gs V sl t T hnz hll h6 h7 h8 l36 l67 l78 hh hT hI=>?_;have a4:ds.length<=40:=((hI.hold (λ_ _=>0) 0).fe.1.1.get (CL _ _)).2.1;refine Aex (i:=i) hnz hll h7 h8 l78 hsf hh (hT.sub (by simp)) hI λc bk i1 j1 i2 j2 e1 f1 e2 f2 zb X Shun gs V sl t T hq1 hq2 hsz lz hh hT hI=>?_;refine D9 hh rfl (λw=>stepG_inBlock) λgs sl t dd hh=>?_;replace hI:=hI.at dd;refine AkH h3 (by omega) lz hq1 hq2 hsz hh hT hI λX Shun gs V sl t T hh hT hI=>?_;refine D9 hh rfl (λw=>stepG_inBlock) λgs sl t dd hh=>?_;replace hI:=hI.at dd;refine D9 hh rfl (λw=>stepG_region) λgs sl t dd hh=>?_;replace hI:=hI.at dd;rw[Agm,show List.range 3=[0,1,2] from rfl] at hh;obtain⟨o,ho,a3,a0,hg⟩:=Al2;refine J4 hh hT ho (D6 hg _) rfl a0 (.inl a3) (hT.ev 5 (Iz i) (by simp)) (by omega) (by simp) λgs sl t dd T hh hT=>?_;replace hI:=hI.at dd;clear a3 ho a0 hg o;have hw:IntKind.i64.wrap ((i:Int)+1)=((i+1:Nat):Int):=by rw[IntWalk.i64_in _ (by omega)];omega
  obtain⟨o,ho,a3,a0,hg⟩:=Al3;refine I6 (v:=.int .i64 ((i+1:Nat):Int)) 0 hh hT ho (D6 hg _) rfl a0 (by omega) (by simp) (λd=>by unfold execOp;rw[a3];simp[go_sem,Act.eval,hT.get 29 (Iz i) (by simp),hw]) (λd e he=>by unfold execOp at he;rw[a3] at he;simp[go_sem,Act.eval,hT.get 29 (Iz i) (by simp),hw] at he) λgs sl t dd T hh hT=>?_;replace hI:=hI.at dd;clear a3 ho a0 hg o;replace hT:=hT.sub (l':=[(30,Iz ((i+1:Nat):Int)),(3,Pz x3 0),(4,Vz da ds.length dc)]) (by simp);obtain⟨o,ho,a3,a0,hg⟩:=Al4;refine J4 hh hT ho (D6 hg _) rfl a0 (.inr a3) (hT.ev 30 (Iz ((i+1:Nat):Int)) (by simp)) (by omega) (by simp) λgs sl t dd T hh hT=>?_;replace hI:=hI.at dd;clear a3 ho a0 hg o;refine D9 hh rfl (λw=>stepG_region_end) λgs sl t dd hh=>?_;replace hI:=hI.at dd;refine D9 hh rfl (λw=>stepG_inLoop) λgs sl t dd hh=>?_;replace hI:=hI.at dd;exact ih (i+1) bk i1 j1 i2 j2 X Shun gs _ sl t T (by omega) (by omega) hq1 hh (hT.sub (by simp)) hI
end
def Bn(ops:Array Oper)(i:Nat)(js:List Nat):Bool:=js.all λj=>((ops[i]?).map λo=>o.after.any λe=>Region.binds .any e&&e.on==j).getD false
theorem R5{ops:Array Oper}{i:Nat}{js done:List Nat}(hd:Bn ops i js=true)(h:∀o,ops[i]?=some o->∀e∈o.after,Region.binds .any e=true->e.on∈done)(j:Nat)(hj:j∈js):j∈done:=by
 have h1:=List.all_eq_true.1 hd j hj;cases ho:ops[i]? with
 | none=>rw[ho] at h1;cases h1
 | some o =>
  rw[ho,Option.map_some,Option.getD_some,Array.any_eq_true] at h1;obtain⟨k,hk,h2⟩:=h1;rw[Bool.and_eq_true,beq_iff_eq] at h2;have:=h o ho o.after[k] (Array.getElem_mem hk) h2.1;rwa [h2.2] at this
def FG(ops:Array Oper)(done:List Nat):Prop:=∀i∈done,∀o,ops[i]?=some o->∀e∈o.after,Region.binds .any e=true->e.on∈done
theorem FG.dep{ops:Array Oper}{done:List Nat}(h:FG ops done){i:Nat}(hi:i∈done){js:List Nat}(hd:Bn ops i js=true)(j:Nat)(hj:j∈js):j∈done:=R5 hd (h i hi) j hj
theorem FG.cons{ops:Array Oper}{done:List Nat}(h:FG ops done){i:Nat}(hi:∀o,ops[i]?=some o->∀e∈o.after,Region.binds .any e=true->e.on∈done):FG ops (i::done):=λj hj o ho e he hb=>by
 rcases List.mem_cons.1 hj with rfl|hj
 ·exact C7 _ (hi o ho e he hb)
 ·exact C7 _ (h j hj o ho e he hb)
theorem To{w w':World}{base b2 n:Nat}{v u:Value}{b:Bk}{xs:List Value}(h:K8 w base v b)(hrow:w.ownsRow b2 26 2 u n xs)(hg:w.grownBy w' u.ownBlock):K8 w' base v b:=by
 obtain⟨a1,c1,a2,c2,ps,rfl,hB,hm,hF⟩:=h;exact⟨a1,c1,a2,c2,ps,rfl,⟨P4 hB.1 hg (X5 hB.1 hrow (by decide)),λp hp=>⟨P4 (hB.2 p hp).1 hg (X5 (hB.2 p hp).1 hrow (by decide)),P4 (hB.2 p hp).2.1 hg (X5 (hB.2 p hp).2.1 hrow (by decide)),(hB.2 p hp).2.2⟩⟩,hm,hF.keep λf _ ho=>P4 ho hg (X5 ho hrow (by decide))⟩
structure Dy where
 lv:Value
 i1:Option Addr
 j1:Nat
 i2:Option Addr
 j2:Nat
 x:Nat
 z8:Nat
 z9:Nat
def KZ(bk:Bk)(γ:Dy):List Value:=[.slice γ.i1 bk.tg.length γ.j1,.slice γ.i2 bk.bs.length γ.j2]
def AZ(bk:Bk)(γ:Dy):Value:=.agg #[.slice γ.i1 bk.tg.length γ.j1,.slice γ.i2 bk.bs.length γ.j2]
def Bt(tv mv pt:Value)(nm:BA)(bk:Bk)(γ:Dy):Nat->Nat×Value
 | 0=>(160,tv)
 | 1=>(161,mv)
 | 2=>(162,pt)
 | 3=>(163,.string nm)
 | 4=>(164,tv)
 | 5=>(165,mv)
 | 6=>(166,pt)
 | 7=>(167,.string nm)
 | 8=>(168,γ.lv)
 | 9=>(169,.tuple #[AZ bk γ,.int .i64 0])
 | 10=>(159,.tuple #[AZ bk γ,.int .i64 0])
 | 11=>(170,AZ bk γ)
 | 12=>(171,.int .i64 0)
 | 13=>(13,.pointer (some ⟨γ.x,0,none⟩))
 | 14=>(13,.pointer (some ⟨γ.x,0,none⟩))
 | _=>(14,.int .i64 0)
def Pg(V0:Nat)(ms:List BA)(bk:Bk)(γ:Dy)(done:List Nat)(u:World):Prop:=(8∈done->G3 u γ.z8 γ.lv ms)/\(9∈done->V0<=γ.z9/\K8 u γ.z9 (AZ bk γ) bk)/\(13∈done->V0<=γ.x/\(14∉done->∃y0 y1,CB u γ.x [y0,y1]/\u.ownsRow V0 26 2 (.slice (some ⟨γ.x,0,none⟩) 1 1) 1 [y0,y1]))/\(14∈done->CB u γ.x (KZ bk γ))
theorem La{V0:Nat}{ms:List BA}{bk:Bk}{γ:Dy}{done:List Nat}:S2 (Pg V0 ms bk γ done):=⟨λ_ _ h hb=>⟨λhm=>P0 (h.1 hm) hb,λhm=>⟨(h.2.1 hm).1,(h.2.1 hm).2.up hb⟩,λhm=>⟨(h.2.2.1 hm).1,λhn=>let ⟨y0,y1,h2,h3⟩:=(h.2.2.1 hm).2 hn;⟨y0,y1,h2.up hb h2.2.2,P0 h3 hb⟩⟩,λhm=>(h.2.2.2 hm).up hb (h.2.2.2 hm).2.2⟩,λ_ _ _ h=>⟨h.1,λhm=>⟨(h.2.1 hm).1,Cv (h.2.1 hm).2⟩,h.2.2.1,h.2.2.2⟩⟩
theorem Bb{V0:Nat}{ms:List BA}{bk:Bk}{γ:Dy}{done:List Nat}{u:World}{i:Nat}(h0:¬8=i)(h1:¬9=i)(h2:¬13=i)(h3:¬14=i)(h:Pg V0 ms bk γ done u):Pg V0 ms bk γ (i::done) u:=⟨λhm=>h.1 ((List.mem_cons.1 hm).resolve_left h0),λhm=>h.2.1 ((List.mem_cons.1 hm).resolve_left h1),λhm=>⟨(h.2.2.1 ((List.mem_cons.1 hm).resolve_left h2)).1,λhn=>(h.2.2.1 ((List.mem_cons.1 hm).resolve_left h2)).2 λh=>hn (C7 _ h)⟩,λhm=>h.2.2.2 ((List.mem_cons.1 hm).resolve_left h3)⟩
def Ie:Nat->Nat
 | 0=>160
 | 1=>161
 | 2=>162
 | 3=>163
 | 4=>164
 | 5=>165
 | 6=>166
 | 7=>167
 | 8=>168
 | 9=>169
 | 10=>159
 | 11=>170
 | 12=>171
 | 13=>13
 | 14=>13
 | _=>14
theorem Uj(tv mv pt:Value)(nm:BA)(bk:Bk)(γ:Dy)(i:Nat):(Bt tv mv pt nm bk γ i).1=Ie i:=by
 unfold Bt Ie;split<;>rfl
theorem Aaa:∀i j:Fin 16,i≠j->¬(i.1=13/\j.1=14)->¬(i.1=14/\j.1=13)->Ie i.1≠Ie j.1:=by decide
theorem Aey:Bn R9 2 [1]=true:=by kernel_rfl
theorem Aez:Bn R9 3 [2]=true:=by kernel_rfl
theorem Ae0:Bn R9 6 [5]=true:=by kernel_rfl
theorem Ae1:Bn R9 7 [6]=true:=by kernel_rfl
theorem VD:Bn R9 8 [4,7]=true:=by kernel_rfl
theorem LD:Bn R9 9 [0,3,8]=true:=by kernel_rfl
theorem MA:Bn R9 10 [9]=true:=by kernel_rfl
theorem Tp:Bn R9 11 [10]=true:=by kernel_rfl
theorem AbK:Bn R9 12 [10]=true:=by kernel_rfl
theorem FH:Bn R9 14 [9,11,13]=true:=by kernel_rfl
theorem AbL:Bn R9 15 [12]=true:=by kernel_rfl
theorem AkI:Nu R9=true:=by kernel_rfl
section
variable {X:Nat->Prop} {V:World} {F0:World->Prop} {b bk:Bk} {nm:BA} {ms:List BA} {a1 a2:Option Addr} {c1 c2 g o0 ml mc xb:Nat} {base:List (Nat×Value)} {kl:List Item} {W0:World}
theorem Ahe(hF0:S2 F0)(hCB:∀u,F0 u->CB u xb [Vz a1 b.tg.length c1,Vz a2 b.bs.length c2])(hBk:∀u,F0 u->K6 u (.agg #[Vz a1 b.tg.length c1,Vz a2 b.bs.length c2]) b)(hEr:∀u,F0 u->T8 u)(hCl:∀u,F0 u->At u g o0 (Tz nm))(hml:0<ml)(hb3:(3,Pz xb 0)∈base)(hb12:(12,Sy g o0 ml mc)∈base)(hbase:∀p∈base,∀i,p.1≠Ie i)(hn5:b.bs.length<=100)(hsm:∀y∈b.bs,y.nd.length<=100)(hms:ms=U8 b nm)(hmz:∀s∈ms,s.size<=maxLen)(hbk:bk=Z1 b nm ms)(hc0:Ej b nm ms=0)
  (kk:∀(γ:Dy)(X':Nat->Prop)(Shun:Loc->Prop) gs V' sl t T,V.heap.size<=γ.x->V.heap.size<=γ.z9->G6 prog Shun gs (G (bZ.at ⟨T,[]⟩ kl) []) t->O1 196 T ([(13,Pz γ.x 0),(14,Iz 0)]++base)->F5 X V (λu=>DR V.heap.size F0 u/\CB u γ.x (KZ bk γ)/\K8 u γ.z9 (AZ bk γ) bk) X' Shun V'->E7 prog (λv w=>v=.bool true/\Y6 W0 w) (crowd gs V' sl) t) :
  ∀(l done:List Nat)(γ:Dy)(X':Nat->Prop)(Shun:Loc->Prop) gs V' sl t T,OS R9 done l->FG R9 done->(∀j∈done,j<16)->G6 prog Shun gs (G (bZ.at ⟨T,[]⟩ (.inRegion R9 l::kl)) []) t->O1 196 T (done.map (Bt (.agg #[Vz a1 b.tg.length c1,Vz a2 b.bs.length c2]) (Sy g o0 ml mc) (Pz g o0) nm bk γ)++base)->F5 X V (λu=>DR V.heap.size F0 u/\Pg V.heap.size ms bk γ done u) X' Shun V'->E7 prog (λv w=>v=.bool true/\Y6 W0 w) (crowd gs V' sl) t:=by
 intro l;induction l with
 | nil =>
  intro done γ X' Shun gs V' sl t T hF hC hlt hh hT hI;have b3:∀i,i<16->i∈done:=λi hi=>hF i (by rw[Vf];exact hi);have a7:∀i,i<16->(Bt (.agg #[Vz a1 b.tg.length c1,Vz a2 b.bs.length c2]) (Sy g o0 ml mc) (Pz g o0) nm bk γ) i∈done.map (Bt (.agg #[Vz a1 b.tg.length c1,Vz a2 b.bs.length c2]) (Sy g o0 ml mc) (Pz g o0) nm bk γ)++base:=λi hi=>List.mem_append_left _ (List.mem_map.2 ⟨i,b3 i hi,rfl⟩);refine D9 hh rfl (λw=>stepG_region_end) λgs sl t dd hh=>?_;refine kk γ X' Shun gs _ sl t T ((hI.hold (λ_ _=>0) 0).2.2.2.1 (b3 13 (by omega))).1 ((hI.hold (λ_ _=>0) 0).2.2.1 (b3 9 (by omega))).1 hh ⟨hT.1,λp hp=>?_⟩ ((hI.at dd).mono λu hu=>⟨hu.1,hu.2.2.2.2 (b3 14 (by omega)),(hu.2.2.1 (b3 9 (by omega))).2⟩);rcases C9.1 hp with hp|hp
  ·simp only[List.mem_cons,List.not_mem_nil,or_false] at hp;rcases hp with rfl|rfl
   ·exact hT.2 _ (a7 13 (by omega))
   ·exact hT.2 _ (a7 15 (by omega))
  ·exact hT.2 p (List.mem_append_right _ hp)
 | cons i l ih =>
  intro done γ X' Shun gs V' sl t T hF hC hlt hh hT hI;obtain⟨hi,b0,a5,hF⟩:=hF;rw[Vf] at hi;have a8:=hC.cons a5
  have a6:∀j∈i::done,j<16:=λj hj=>by
   rcases List.mem_cons.1 hj with rfl|hj
   ·exact hi
   ·exact hlt j hj
  have a7:∀j,j∈done->(Bt (.agg #[Vz a1 b.tg.length c1,Vz a2 b.bs.length c2]) (Sy g o0 ml mc) (Pz g o0) nm bk γ) j∈done.map (Bt (.agg #[Vz a1 b.tg.length c1,Vz a2 b.bs.length c2]) (Sy g o0 ml mc) (Pz g o0) nm bk γ)++base:=λj hj=>List.mem_append_left _ (List.mem_map.2 ⟨j,hj,rfl⟩)
  have a3:∀γ':Dy,(i=13->14∉done)->i≠14->∀p∈done.map (Bt (.agg #[Vz a1 b.tg.length c1,Vz a2 b.bs.length c2]) (Sy g o0 ml mc) (Pz g o0) nm bk γ')++base,p.1≠Ie i:=λγ' h13 h14 p hp=>by
   rcases C9.1 hp with hp|hp
   ·obtain⟨j,hj,rfl⟩:=List.mem_map.1 hp;rw[Uj];exact Aaa ⟨j,hlt j hj⟩ ⟨i,hi⟩ (λe=>b0 (by have:=congrArg Fin.val e;simp only at this;rw[← this];exact hj)) (λh=>h14 h.2) (λh=>h13 h.2 (by have:=h.1;simp only at this;rw[← this];exact hj))
   ·exact hbase p hp i
  have b4:∀γ':Dy,γ'.i1=γ.i1/\γ'.j1=γ.j1/\γ'.i2=γ.i2/\γ'.j2=γ.j2/\γ'.x=γ.x->8∉done->done.map (Bt (.agg #[Vz a1 b.tg.length c1,Vz a2 b.bs.length c2]) (Sy g o0 ml mc) (Pz g o0) nm bk γ')=done.map (Bt (.agg #[Vz a1 b.tg.length c1,Vz a2 b.bs.length c2]) (Sy g o0 ml mc) (Pz g o0) nm bk γ):=λγ' hx hy=>List.map_congr_left λj hj=>by
   have c4:=hlt j hj;unfold Bt;split
   ·rfl
   ·rfl
   ·rfl
   ·rfl
   ·rfl
   ·rfl
   ·rfl
   ·rfl
   ·exact absurd hj hy
   ·simp only[AZ,hx.1,hx.2.1,hx.2.2.1,hx.2.2.2.1]
   ·simp only[AZ,hx.1,hx.2.1,hx.2.2.1,hx.2.2.2.1]
   ·simp only[AZ,hx.1,hx.2.1,hx.2.2.1,hx.2.2.2.1]
   ·rfl
   ·simp only[hx.2.2.2.2]
   ·simp only[hx.2.2.2.2]
   ·rfl
  have b5:∀γ':Dy,γ'.lv=γ.lv/\γ'.x=γ.x->9∉done->done.map (Bt (.agg #[Vz a1 b.tg.length c1,Vz a2 b.bs.length c2]) (Sy g o0 ml mc) (Pz g o0) nm bk γ')=done.map (Bt (.agg #[Vz a1 b.tg.length c1,Vz a2 b.bs.length c2]) (Sy g o0 ml mc) (Pz g o0) nm bk γ):=λγ' hx hy=>List.map_congr_left λj hj=>by
   have c4:=hlt j hj;unfold Bt;split
   ·rfl
   ·rfl
   ·rfl
   ·rfl
   ·rfl
   ·rfl
   ·rfl
   ·rfl
   ·simp only[hx.1]
   ·exact absurd hj hy
   ·exact absurd (hC.dep hj MA 9 (by simp)) hy
   ·exact absurd (hC.dep (hC.dep hj Tp 10 (by simp)) MA 9 (by simp)) hy
   ·rfl
   ·simp only[hx.2]
   ·simp only[hx.2]
   ·rfl
  have b6:∀γ':Dy,γ'.i1=γ.i1/\γ'.j1=γ.j1/\γ'.i2=γ.i2/\γ'.j2=γ.j2/\γ'.lv=γ.lv->13∉done->done.map (Bt (.agg #[Vz a1 b.tg.length c1,Vz a2 b.bs.length c2]) (Sy g o0 ml mc) (Pz g o0) nm bk γ')=done.map (Bt (.agg #[Vz a1 b.tg.length c1,Vz a2 b.bs.length c2]) (Sy g o0 ml mc) (Pz g o0) nm bk γ):=λγ' hx hy=>List.map_congr_left λj hj=>by
   have c4:=hlt j hj;unfold Bt;split
   ·rfl
   ·rfl
   ·rfl
   ·rfl
   ·rfl
   ·rfl
   ·rfl
   ·rfl
   ·simp only[hx.2.2.2.2]
   ·simp only[AZ,hx.1,hx.2.1,hx.2.2.1,hx.2.2.2.1]
   ·simp only[AZ,hx.1,hx.2.1,hx.2.2.1,hx.2.2.2.1]
   ·simp only[AZ,hx.1,hx.2.1,hx.2.2.1,hx.2.2.2.1]
   ·rfl
   ·exact absurd hj hy
   ·exact absurd (hC.dep hj FH 13 (by simp)) hy
   ·rfl
  have b7:i=0∨i=1∨i=2∨i=3∨i=4∨i=5∨i=6∨i=7∨i=8∨i=9∨i=10∨i=11∨i=12∨i=13∨i=14∨i=15:=by omega
  rcases b7 with rfl|rfl|rfl|rfl|rfl|rfl|rfl|rfl|rfl|rfl|rfl|rfl|rfl|rfl|rfl|rfl
  ·obtain⟨o,ho,a4,a0,hg⟩:=Ajt;refine X9 hI hh hT ho (D6 hg _) rfl a0 a4 (hT.ev 3 (Pz xb 0) (List.mem_append_right _ hb3)) (λu hu=>hCB u (hu.1.get hF0)) (by omega) (a3 γ (λh=>by omega) (by omega)) λgs sl t dd T hh hT=>?_;exact ih (0::done) γ X' Shun gs _ sl t T hF a8 a6 hh hT ((hI.at dd).mono λu hu=>⟨hu.1,Bb (by decide) (by decide) (by decide) (by decide) hu.2⟩)
  ·obtain⟨o,ho,a4,a0,hg⟩:=Aju;refine J4 hh hT ho (D6 hg _) rfl a0 (.inl a4) (hT.ev 12 (Sy g o0 ml mc) (List.mem_append_right _ hb12)) (by omega) (a3 γ (λh=>by omega) (by omega)) λgs sl t dd T hh hT=>?_;exact ih (1::done) γ X' Shun gs _ sl t T hF a8 a6 hh hT ((hI.at dd).mono λu hu=>⟨hu.1,Bb (by decide) (by decide) (by decide) (by decide) hu.2⟩)
  ·obtain⟨o,ho,a4,a0,hg⟩:=Ajv;have e:=hT.get 161 (Sy g o0 ml mc) (a7 1 (R5 Aey a5 1 (by simp)));refine I6 (v:=Pz g o0) 0 hh hT ho (D6 hg _) rfl a0 (by omega) (a3 γ (λh=>by omega) (by omega)) (λd=>by unfold execOp;rw[a4];simp[go_sem,Act.eval,e,hml]) (λd e' he=>by unfold execOp at he;rw[a4] at he;simp[go_sem,Act.eval,e,hml] at he) λgs sl t dd T hh hT=>?_;exact ih (2::done) γ X' Shun gs _ sl t T hF a8 a6 hh hT ((hI.at dd).mono λu hu=>⟨hu.1,Bb (by decide) (by decide) (by decide) (by decide) hu.2⟩)
  ·obtain⟨o,ho,a4,a0,hg⟩:=Ajw;refine Fk (v:=Tz nm) hI hh hT ho (D6 hg _) rfl a0 (by omega) (a3 γ (λh=>by omega) (by omega)) a4 (hT.ev 162 (Pz g o0) (a7 2 (R5 Aez a5 2 (by simp)))) (λu hu=>hCl u (hu.1.get hF0)) λgs sl t dd T hh hT=>?_;exact ih (3::done) γ X' Shun gs _ sl t T hF a8 a6 hh hT ((hI.at dd).mono λu hu=>⟨hu.1,Bb (by decide) (by decide) (by decide) (by decide) hu.2⟩)
  ·obtain⟨o,ho,a4,a0,hg⟩:=Ajx;refine X9 hI hh hT ho (D6 hg _) rfl a0 a4 (hT.ev 3 (Pz xb 0) (List.mem_append_right _ hb3)) (λu hu=>hCB u (hu.1.get hF0)) (by omega) (a3 γ (λh=>by omega) (by omega)) λgs sl t dd T hh hT=>?_;exact ih (4::done) γ X' Shun gs _ sl t T hF a8 a6 hh hT ((hI.at dd).mono λu hu=>⟨hu.1,Bb (by decide) (by decide) (by decide) (by decide) hu.2⟩)
  ·obtain⟨o,ho,a4,a0,hg⟩:=Ajy;refine J4 hh hT ho (D6 hg _) rfl a0 (.inl a4) (hT.ev 12 (Sy g o0 ml mc) (List.mem_append_right _ hb12)) (by omega) (a3 γ (λh=>by omega) (by omega)) λgs sl t dd T hh hT=>?_;exact ih (5::done) γ X' Shun gs _ sl t T hF a8 a6 hh hT ((hI.at dd).mono λu hu=>⟨hu.1,Bb (by decide) (by decide) (by decide) (by decide) hu.2⟩)
  ·obtain⟨o,ho,a4,a0,hg⟩:=Ajz;have e:=hT.get 165 (Sy g o0 ml mc) (a7 5 (R5 Ae0 a5 5 (by simp)));refine I6 (v:=Pz g o0) 0 hh hT ho (D6 hg _) rfl a0 (by omega) (a3 γ (λh=>by omega) (by omega)) (λd=>by unfold execOp;rw[a4];simp[go_sem,Act.eval,e,hml]) (λd e' he=>by unfold execOp at he;rw[a4] at he;simp[go_sem,Act.eval,e,hml] at he) λgs sl t dd T hh hT=>?_;exact ih (6::done) γ X' Shun gs _ sl t T hF a8 a6 hh hT ((hI.at dd).mono λu hu=>⟨hu.1,Bb (by decide) (by decide) (by decide) (by decide) hu.2⟩)
  ·obtain⟨o,ho,a4,a0,hg⟩:=Aj0;refine Fk (v:=Tz nm) hI hh hT ho (D6 hg _) rfl a0 (by omega) (a3 γ (λh=>by omega) (by omega)) a4 (hT.ev 166 (Pz g o0) (a7 6 (R5 Ae1 a5 6 (by simp)))) (λu hu=>hCl u (hu.1.get hF0)) λgs sl t dd T hh hT=>?_;exact ih (7::done) γ X' Shun gs _ sl t T hF a8 a6 hh hT ((hI.at dd).mono λu hu=>⟨hu.1,Bb (by decide) (by decide) (by decide) (by decide) hu.2⟩)
  ·obtain⟨o,ho,a4,a0,hg⟩:=Aj1;obtain⟨c5,a4⟩:=a4
   refine Es R4 hI.hX hI.base #[.agg #[Vz a1 b.tg.length c1,Vz a2 b.bs.length c2],Tz nm] hh hT ho (D6 hg _) rfl a0 a4 func18 (by kernel_rfl) rfl (by kernel_rfl) (by simp[hT.ev 164 (.agg #[Vz a1 b.tg.length c1,Vz a2 b.bs.length c2]) (a7 4 (R5 VD a5 4 (by simp))),hT.ev 167 (Tz nm) (a7 7 (R5 VD a5 7 (by simp)))]) (by omega) (a3 γ (λh=>by omega) (by omega)) (R:=λv u=>G3 u V'.heap.size v ms) (λ_ _ _ _ h=>h)
    (λτ d=>(Qt b _ nm _ (hBk _ ((hI.hold τ d).1.get hF0)) hn5 hsm).mono λe u' h=>?_) λgs V1 sl t v T hh hT hb1 hR1=>?_
   ·obtain⟨⟨v,e1,hO⟩,hb⟩:=h;(try unfold Up at hO);rw[I5,← hms] at hO;exact⟨⟨v,e1,hO⟩,hb⟩
   have a9:=hI.up ((CY hF0).and La) hI.hX hb1 (λk hk=>.inl hk) λτ d=>(hR1 τ d).2;have e:=b4 ⟨v,γ.i1,γ.j1,γ.i2,γ.j2,γ.x,V'.heap.size,γ.z9⟩ ⟨rfl,rfl,rfl,rfl,rfl⟩ b0;refine ih (8::done) ⟨v,γ.i1,γ.j1,γ.i2,γ.j2,γ.x,V'.heap.size,γ.z9⟩ X' Shun gs _ sl t T hF a8 a6 hh (by rw[List.map_cons,e];exact hT) ⟨a9.hX,a9.base,λτ d=>⟨(a9.hold τ d).1,?_⟩,a9.low,a9.far⟩;have hw:=(a9.hold τ d).2;exact⟨λ_=>(hR1 τ d).1,λhm=>hw.2.1 ((List.mem_cons.1 hm).resolve_left (by decide)),λhm=>⟨(hw.2.2.1 ((List.mem_cons.1 hm).resolve_left (by decide))).1,λhn=>(hw.2.2.1 ((List.mem_cons.1 hm).resolve_left (by decide))).2 λh=>hn (C7 _ h)⟩,λhm=>hw.2.2.2 ((List.mem_cons.1 hm).resolve_left (by decide))⟩
  ·obtain⟨o,ho,a4,a0,hg⟩:=Aj2;obtain⟨c5,a4⟩:=a4;have h8:=R5 LD a5 8 (by simp);have hms:=(hI.hold (λ_ _=>0) 0).2.1 h8;obtain⟨la,lc,d1⟩:=L9 hms;refine DL (X:=X') #[.agg #[Vz a1 b.tg.length c1,Vz a2 b.bs.length c2],Tz nm,γ.lv] hh hT ho (D6 hg _) rfl a0 a4 func7 (by kernel_rfl) rfl (by simp[hT.ev 160 (.agg #[Vz a1 b.tg.length c1,Vz a2 b.bs.length c2]) (a7 0 (R5 LD a5 0 (by simp))),hT.ev 163 (Tz nm) (a7 3 (R5 LD a5 3 (by simp))),hT.ev 168 γ.lv (a7 8 (R5 LD a5 8 (by simp)))]) (by omega) (a3 γ (λh=>by omega) (by omega)) (R:=λv u=>∃x,v=.tuple #[x,Iz 0]/\K8 u V'.heap.size x bk) (λd=>by rw[hbk,← hc0];exact Acq (b:=b) (nm:=nm) (ls:=ms) hI.hX (hI.base.at d) (λτ d=>hBk _ ((hI.hold τ d).1.get hF0)) (λτ d=>((hI.hold τ d).2.1 h8).lst.ls hmz) (λτ d=>hEr _ ((hI.hold τ d).1.get hF0))) λX1 Shun1 gs V1 sl t v T hX1 hW1 hh hT hb1 hR1=>?_;obtain⟨xv,rfl,c6⟩:=(hR1 (λ_ _=>0) 0).1
   have c7:∀τ d,K8 (E0 X1 V1 τ d) V'.heap.size xv bk:=λτ d=>by
    obtain⟨x',e,h⟩:=(hR1 τ d).1;cases e
    exact h
   obtain⟨i1,j1,i2,j2,rfl⟩:=c6.shape;have a9:=hI.up ((CY hF0).and La) hX1 hb1 hW1 λτ d=>(hR1 τ d).2;have e:=b5 ⟨γ.lv,i1,j1,i2,j2,γ.x,γ.z8,V'.heap.size⟩ ⟨rfl,rfl⟩ b0;have b8:14∉done:=λh=>b0 (hC.dep h FH 9 (by simp));refine ih (9::done) ⟨γ.lv,i1,j1,i2,j2,γ.x,γ.z8,V'.heap.size⟩ X1 Shun1 gs _ sl t T hF a8 a6 hh (by rw[List.map_cons,e];exact hT) ⟨a9.hX,a9.base,λτ d=>⟨(a9.hold τ d).1,?_⟩,a9.low,a9.far⟩;have hw:=(a9.hold τ d).2;exact⟨λhm=>hw.1 ((List.mem_cons.1 hm).resolve_left (by decide)),λ_=>⟨hI.size,c7 τ d⟩,λhm=>⟨(hw.2.2.1 ((List.mem_cons.1 hm).resolve_left (by decide))).1,λhn=>(hw.2.2.1 ((List.mem_cons.1 hm).resolve_left (by decide))).2 λh=>hn (C7 _ h)⟩,λhm=>absurd ((List.mem_cons.1 hm).resolve_left (by decide)) b8⟩
  ·obtain⟨o,ho,a4,a0,hg⟩:=AfY;refine J4 hh hT ho (D6 hg _) rfl a0 (.inl a4) (hT.ev 169 (.tuple #[AZ bk γ,Iz 0]) (a7 9 (R5 MA a5 9 (by simp)))) (by omega) (a3 γ (λh=>by omega) (by omega)) λgs sl t dd T hh hT=>?_;exact ih (10::done) γ X' Shun gs _ sl t T hF a8 a6 hh hT ((hI.at dd).mono λu hu=>⟨hu.1,Bb (by decide) (by decide) (by decide) (by decide) hu.2⟩)
  ·obtain⟨o,ho,a4,a0,hg⟩:=AfZ;have e:=hT.get 159 (.tuple #[AZ bk γ,Iz 0]) (a7 10 (R5 Tp a5 10 (by simp)));refine I6 (v:=AZ bk γ) 0 hh hT ho (D6 hg _) rfl a0 (by omega) (a3 γ (λh=>by omega) (by omega)) (λd=>by unfold execOp;rw[a4];simp[go_sem,Act.eval,e]) (λd e' he=>by unfold execOp at he;rw[a4] at he;simp[go_sem,Act.eval,e] at he) λgs sl t dd T hh hT=>?_;exact ih (11::done) γ X' Shun gs _ sl t T hF a8 a6 hh hT ((hI.at dd).mono λu hu=>⟨hu.1,Bb (by decide) (by decide) (by decide) (by decide) hu.2⟩)
  ·obtain⟨o,ho,a4,a0,hg⟩:=Aga;have e:=hT.get 159 (.tuple #[AZ bk γ,Iz 0]) (a7 10 (R5 AbK a5 10 (by simp)));refine I6 (v:=.int .i64 0) 0 hh hT ho (D6 hg _) rfl a0 (by omega) (a3 γ (λh=>by omega) (by omega)) (λd=>by unfold execOp;rw[a4];simp[go_sem,Act.eval,e]) (λd e' he=>by unfold execOp at he;rw[a4] at he;simp[go_sem,Act.eval,e] at he) λgs sl t dd T hh hT=>?_;exact ih (12::done) γ X' Shun gs _ sl t T hF a8 a6 hh hT ((hI.at dd).mono λu hu=>⟨hu.1,Bb (by decide) (by decide) (by decide) (by decide) hu.2⟩)
  ·obtain⟨o,ho,a4,a0,hg⟩:=Agb;have b8:14∉done:=λh=>b0 (hC.dep h FH 13 (by simp));refine Xl (V':=V'.alloc (Kz [Nz,Nz] 26)) (v:=Pz V'.heap.size 0) 0 hh ho (D6 hg _) rfl a0 (λz=>?_) (λz e he=>?_) λgs sl t z hh=>?_
   ·unfold execOp;rw[a4];simp[go_sem];exact⟨rfl,rfl⟩
   ·unfold execOp at he;rw[a4] at he;simp[go_sem] at he
   have e:=b6 ⟨γ.lv,γ.i1,γ.j1,γ.i2,γ.j2,V'.heap.size,γ.z8,γ.z9⟩ ⟨rfl,rfl,rfl,rfl,rfl⟩ b0;have c8:=hT.put 13 (Pz V'.heap.size 0) (by omega) (a3 γ (λ_=>b8) (by omega));refine ih (13::done) ⟨γ.lv,γ.i1,γ.j1,γ.i2,γ.j2,V'.heap.size,γ.z8,γ.z9⟩ X' Shun gs _ sl t _ hF a8 a6 hh (by rw[List.map_cons,e];exact c8) (F5.at (F5.alloc hI λu hu hs=>⟨(CY hF0).up _ _ hu.1 ((A4 _ _).alloc (A3 _) _),?_⟩) z);have hw:=La.up _ _ hu.2 ((A4 _ _).alloc (A3 u.heap.size) (Kz [Nz,Nz] 26));refine⟨λhm=>hw.1 ((List.mem_cons.1 hm).resolve_left (by decide)),λhm=>hw.2.1 ((List.mem_cons.1 hm).resolve_left (by decide)),λ_=>⟨hI.size,λ_=>⟨Nz,Nz,?_,?_⟩⟩,λhm=>absurd ((List.mem_cons.1 hm).resolve_left (by decide)) b8⟩
   ·show CB _ V'.heap.size _
    rw[← hs];exact O7 u [Nz,Nz] 26
   ·show World.ownsRow _ _ _ _ (Sz V'.heap.size 1 1) _ _
    rw[← hs];exact N1 (C0 u #[Nz,Nz] 1 (A3 _) (by unfold maxLen;omega) rfl) (by rw[hs];exact hI.size)
  ·obtain⟨o,ho,a4,a0,hg⟩:=Agc;have c3:=R5 FH a5 13 (by simp);have c9:=R5 FH a5 11 (by simp);have m9:=R5 FH a5 9 (by simp);obtain⟨hx,b1⟩:=(hI.hold (λ_ _=>0) 0).2.2.2.1 c3;obtain⟨y0,y1,b9,b2⟩:=b1 b0;have d0:F5 X V (λu=>(λu=>DR V.heap.size F0 u/\Pg V.heap.size ms bk γ done u) u/\CB u γ.x [y0,y1]/\u.ownsRow V.heap.size 26 2 (Sz γ.x 1 1) 1 [y0,y1]) X' Shun V':=⟨hI.hX,hI.base,λτ d=>⟨hI.hold τ d,b9,b2⟩,hI.low,hI.far⟩;refine Eh (y0:=y0) (y1:=y1) (F':=(λu=>DR V.heap.size F0 u/\Pg V.heap.size ms bk γ (14::done) u)) d0 hh hT ho (D6 hg _) rfl a0 a4 (hT.ev 13 (Pz γ.x 0) (a7 13 c3)) (hT.ev 170 (AZ bk γ) (a7 11 c9)) (λu hu=>hu.2.1) hx (λu hu=>?_) λgs V2 sl t hh hI2=>?_
   ·have hg:u.grownBy ((u.setCell ⟨γ.x,0,none⟩ (Vz γ.i1 bk.tg.length γ.j1)).setCell ⟨γ.x,1,none⟩ (Vz γ.i2 bk.bs.length γ.j2)) (some γ.x):=E6 (E6 (F4 u _) _) _;refine⟨(hu.1.1.set hx).set hx,λhm=>P4 (hu.1.2.1 ((List.mem_cons.1 hm).resolve_left (by decide))) hg (X5 (hu.1.2.1 ((List.mem_cons.1 hm).resolve_left (by decide))) hu.2.2 (by decide)),λ_=>⟨(hu.1.2.2.1 m9).1,To (hu.1.2.2.1 m9).2 hu.2.2 hg⟩,λ_=>⟨hx,λhn=>absurd (List.mem_cons_self) hn⟩,λ_=>hu.2.1.copy2 _ _⟩
   refine ih (14::done) γ X' Shun gs _ sl t T hF a8 a6 hh ⟨hT.1,λp hp=>?_⟩ hI2;rcases List.mem_cons.1 hp with rfl|hp
   ·exact hT.2 _ (a7 13 c3)
   ·exact hT.2 p hp
  ·obtain⟨o,ho,a4,a0,hg⟩:=Agd;refine J4 hh hT ho (D6 hg _) rfl a0 (.inr a4) (hT.ev 171 (Iz 0) (a7 12 (R5 AbL a5 12 (by simp)))) (by omega) (a3 γ (λh=>by omega) (by omega)) λgs sl t dd T hh hT=>?_;exact ih (15::done) γ X' Shun gs _ sl t T hF a8 a6 hh hT ((hI.at dd).mono λu hu=>⟨hu.1,Bb (by decide) (by decide) (by decide) (by decide) hu.2⟩)
end
end Go.Proofs.YtcgkgmmclfeohaaGreatDoor
