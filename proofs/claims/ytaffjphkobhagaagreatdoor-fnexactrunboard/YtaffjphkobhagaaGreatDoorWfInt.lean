/- The program fills its table of the instance int. -/
import Derived.Test.YtaffjphkobhagaaGreatDoorJ21
namespace Go.Proofs.YtaffjphkobhagaaGreatDoor
open Proofs.Tryz
open Go.RowKit
variable{ps:List Ph}{m:Nat}
def P5(_:Int):Int:=0
def S2(p:Ph)(a b:Int):Int:=p.wi+max a b
theorem EM:∀(l:List Ph),(∀p∈l,1<=p.wi/\p.wi<=1000)->∀nm,0<=O4 P5 S2 0 l nm/\O4 P5 S2 0 l nm<=1000*l.length
 | [],_,nm=>by simp[O4,P5]
 | p::rest,h,nm=>by
  have ih:=EM rest λq hq=>h q (by simp[hq]);have hp:=h p dC;have h1:=ih p.t;have h2:=ih p.e;have h3:=ih nm;rw[O4];split
  .simp only[S2,List.length_cons];omega
  .simp only[List.length_cons];omega
theorem DR(h:M3 ps=true):∀p∈ps,1<=p.wi/\p.wi<=1000:=by
 obtain⟨_,_,ha⟩:=(J2 ps).1 h;intro p hp;obtain⟨i,hi,rfl⟩:=B7 hp;have hs:=ha i ps[i] hi (by simp[hi]);simp only[Al,Bool.and_eq_true,Ph.okB,O7,U7,decide_eq_true_eq] at hs;exact hs.1.1.1.1.1.1.2
theorem AbP(hok:M3 ps=true)(hm:m<ps.length):
  (0<=look (fill P5 S2 0 (ps.drop (m+1))) (ps[m]).t 0/\look (fill P5 S2 0 (ps.drop (m+1))) (ps[m]).t 0<=12000)/\(0<=look (fill P5 S2 0 (ps.drop (m+1))) (ps[m]).e 0/\look (fill P5 S2 0 (ps.drop (m+1))) (ps[m]).e 0<=12000):=by
 have a0:ps.length<=12:=((J2 ps).1 hok).2.1;have hw:∀p∈ps.drop (m+1),1<=p.wi/\p.wi<=1000:=λp hp=>DR hok p (List.mem_of_mem_drop hp);have h1:=EM _ hw (ps[m]).t;have h2:=EM _ hw (ps[m]).e;rw[Do _ _ _ _ (EA hok (m+1)),Do _ _ _ _ (EA hok (m+1))];rw[A8] at h1 h2;omega
theorem Gd(n:Int)(w:World):cE prog 197 #[Iz n] w (Iz 0):=by
 delta cE;go_in;go_wp2;go_ret;exact⟨rfl,rfl⟩
theorem PZ(nm:BA)(k:Int)(a b:BA)(n wi:Int)(t e:BA)(x y:Int)(w:World)(h1:1<=wi)(h2:wi<=1000)(hx:0<=x)(hx':x<=12000)(hy:0<=y)(hy':y<=12000):
  cU prog 198 #[.agg #[Tz nm,Iz k,Tz a,Tz b,Iz n,Iz wi,Tz t,Tz e],Iz x,Iz y] w (Iz (wi+max x y)):=by
 delta cU;go_in;go_wp2
 all_goals
  go_ret;exact⟨K8 oM,(A4 _ _).alloc (A3 _) _⟩
theorem AbQ:(prog.info? 285).map (λi=>(i.zero,i.size,i.bytes))=some (some (.agg #[Ez,Iz 0]),2,24):=sI
set_option maxHeartbeats 2000000 in
theorem ZM(ps:List Ph)(b o c:Nat)(w:World)(hE:F6 w)(hr:G4 w b o ps)(hb:b<w.heap.size)(hok:M3 ps=true):
  Calls prog 196 #[Sx b o ps.length c,.func (.func 197) #[] #[],.func (.func 198) #[] #[]] w
   λe w'=>(∃g cap,e=.returned (Sy g (fill P5 S2 0 ps).length cap)/\Hj w' g (fill P5 S2 0 ps))/\Up w w':=by
 have HE:Hid (F6 w):=hE;obtain⟨g0,g1,g2,_⟩:=hE;have i0:∀w,(Instr.index 103 (.agg #[Tz ⟨#[103,111,111,100]⟩,Tz ⟨#[115,97,118,101,100]⟩,Tz ⟨#[115,99,114,97,112,112,101,100]⟩]) (Iz 0)).run prog w=.ok (Tz ⟨#[103,111,111,100]⟩) w:=λ_=>by kernel_rfl
 have i1:∀w,(Instr.index 103 (.agg #[Tz ⟨#[103,111,111,100]⟩,Tz ⟨#[115,97,118,101,100]⟩,Tz ⟨#[115,99,114,97,112,112,101,100]⟩]) (Iz 1)).run prog w=.ok (Tz ⟨#[115,97,118,101,100]⟩) w:=λ_=>by kernel_rfl
 have i2:∀w,(Instr.index 103 (.agg #[Tz ⟨#[103,111,111,100]⟩,Tz ⟨#[115,97,118,101,100]⟩,Tz ⟨#[115,99,114,97,112,112,101,100]⟩]) (Iz 2)).run prog w=.ok (Tz ⟨#[115,99,114,97,112,112,101,100]⟩) w:=λ_=>by kernel_rfl
 go_in;obtain⟨ii,hi,a6,a7,a8⟩:=info_parts AbQ;go_wp2_with fail;(try dsimp only[Iz,Sy,Sx,Nz,Vz,Tz,Ez,Pz]);go_loopw [7,14] (λv i w'=>∃(k:Nat)(j:Int),k<=3/\j=k/\i=.int .i64 j/\w'.ownsRow w.heap.size 285 2 v ((AR P5).take k).length (AC ((AR P5).take k))/\Up w w') (λ_ i _=>3-(intOf i).toNat)
 case atStart=>exact⟨0,0,oM,oM,rfl,B9 _ _ _ _,A4 _ _⟩
 case round =>
  obtain⟨k,j,hk,hj,rfl,a0,hB⟩:=hrel;obtain rfl|rfl|rfl|rfl:k=0\/k=1\/k=2\/k=3:=oM
  .obtain rfl:j=0:=oM
   clear hj;go_wp2_with (first|(go_at_call 216;refine Swz (Q4 _ _ (HE.out.up hB)) ?_)|(go_at_call 197;refine Swz (Gd _ _) ?_)|(at_builtin;refine wpList_append_own _ rfl _ _ 247 rfl w.heap.size 285 ii _ 2 24 underlying247 hi a6 a7 a8 rfl aS _ _ _ rfl (a0.alloc _) ⟨wr.heap.size,0,none⟩ 1 1 [Tz ⟨#[103,111,111,100]⟩,Iz 0] rfl rfl (λj u hj=>FH _ _ _ _ hj) (λu hu=>JY rfl hu) (by simp[maxLen,AR]) (by simp[AR]) (by have:=hB.size;simp;omega) ?_))
   intro v' w1 hown' hgrow _;have a4:Up w w1:=(hB.alloc hB.size _).grown hgrow (by have:=hB.size;simp;omega) (λk hk=>(a0.lt k hk).1);clear hgrow a0 hB;go_wp2_with fail;go_roundw
   case rel=>exact⟨1,1,oM,oM,rfl,by simpa [AR,AC,P5,GP,Ep,AH] using hown',a4⟩
   case measure=>simp[intOf]
  .obtain rfl:j=1:=oM
   clear hj;go_wp2_with (first|(go_at_call 216;refine Swz (Q4 _ _ (HE.out.up hB)) ?_)|(go_at_call 197;refine Swz (Gd _ _) ?_)|(at_builtin;refine wpList_append_own _ rfl _ _ 247 rfl w.heap.size 285 ii _ 2 24 underlying247 hi a6 a7 a8 rfl aS _ _ _ rfl (a0.alloc _) ⟨wr.heap.size,0,none⟩ 1 1 [Tz ⟨#[115,97,118,101,100]⟩,Iz 0] rfl rfl (λj u hj=>FH _ _ _ _ hj) (λu hu=>JY rfl hu) (by simp[maxLen,AR]) (by simp[AR]) (by have:=hB.size;simp;omega) ?_))
   intro v' w1 hown' hgrow _;have a4:Up w w1:=(hB.alloc hB.size _).grown hgrow (by have:=hB.size;simp;omega) (λk hk=>(a0.lt k hk).1);clear hgrow a0 hB;go_wp2_with fail;go_roundw
   case rel=>exact⟨2,2,oM,oM,rfl,by simpa [AR,AC,P5,GP,Ep,AH] using hown',a4⟩
   case measure=>simp[intOf]
  .obtain rfl:j=2:=oM
   clear hj;go_wp2_with (first|(go_at_call 216;refine Swz (Q4 _ _ (HE.out.up hB)) ?_)|(go_at_call 197;refine Swz (Gd _ _) ?_)|(at_builtin;refine wpList_append_own _ rfl _ _ 247 rfl w.heap.size 285 ii _ 2 24 underlying247 hi a6 a7 a8 rfl aS _ _ _ rfl (a0.alloc _) ⟨wr.heap.size,0,none⟩ 1 1 [Tz ⟨#[115,99,114,97,112,112,101,100]⟩,Iz 0] rfl rfl (λj u hj=>FH _ _ _ _ hj) (λu hu=>JY rfl hu) (by simp[maxLen,AR]) (by simp[AR]) (by have:=hB.size;simp;omega) ?_))
   intro v' w1 hown' hgrow _;have a4:Up w w1:=(hB.alloc hB.size _).grown hgrow (by have:=hB.size;simp;omega) (λk hk=>(a0.lt k hk).1);clear hgrow a0 hB;go_wp2_with fail;go_roundw
   case rel=>exact⟨3,3,oM,oM,rfl,by simpa [AR,AC,P5,GP,Ep,AH] using hown',a4⟩
   case measure=>simp[intOf]
  .obtain rfl:j=3:=oM
   clear i0 i1 i2 g0 g1 g2 hj;have d0:ps.length<=12:=((J2 ps).1 hok).2.1;go_wp2_with fail;(try dsimp only[Iz,Sy,Sx,Nz,Vz,Tz,Ez,Pz]);go_loopw [7,10] (λv i w'=>∃k:Nat,k<=ps.length/\i=.int .i64 ((k:Int)-1)/\w'.ownsRow w.heap.size 285 2 v (fill P5 S2 0 (ps.drop k)).length (AC (fill P5 S2 0 (ps.drop k)))/\Up w w') (λ_ i _=>(intOf i+1).toNat)
   case atStart=>exact⟨ps.length,A3 _,rfl,by rw[List.drop_length];exact a0,hB⟩
   case round =>
    obtain⟨k,c9,rfl,a1,b0⟩:=hrel;obtain⟨g,cap,rfl⟩:=UV a1 (Abh _ _ _ _);have hT:=Hj.of_own a1;cases k with
    | zero =>
     simp only[List.drop_zero] at hT a1;go_wp2_with fail;go_ret;exact⟨⟨g,cap,rfl,hT⟩,b0⟩
    | succ m =>
     have hm:m<ps.length:=oM
     obtain⟨c0,c1,c2,c3,c4,c5,c6,c7⟩:=hr.cells m hm;obtain⟨hc,hf⟩:=E2 b0;go_wp2_with fail;have hS:∃W1,W1=wr.alloc (Kz [Tz (ps[m]).nm,Iz (ps[m]).k,Tz (ps[m]).a,Tz (ps[m]).b,Iz (ps[m]).n,Iz (ps[m]).wi,Tz (ps[m]).t,Tz (ps[m]).e] 126):=⟨_,rfl⟩;obtain⟨W1,a3⟩:=hS;rw[← a3];have b8:wr.heap.size<W1.heap.size:=by rw[a3];simp
     have hS:Up W1 W1/\AS W1 wr.heap.size 0 (Tz (ps[m]).nm)/\AS W1 wr.heap.size 1 (Iz (ps[m]).k)/\AS W1 wr.heap.size 2 (Tz (ps[m]).a)/\AS W1 wr.heap.size 3 (Tz (ps[m]).b)/\AS W1 wr.heap.size 4 (Iz (ps[m]).n)/\AS W1 wr.heap.size 5 (Iz (ps[m]).wi)/\AS W1 wr.heap.size 6 (Tz (ps[m]).t)/\AS W1 wr.heap.size 7 (Tz (ps[m]).e):=by rw[a3];exact⟨A4 _ _,dC,dC,dC,dC,dC,dC,dC,dC⟩
     have a9:Up wr W1:=by rw[a3];exact (A4 _ _).alloc (A3 _) _
     have b4:=hT.up a9;have Hown:=R8 a1 a9;have b5:=D3 b0 a9;clear a3 c0 c1 c2 c3 c4 c5 c6 c7 hc hf hT a1 a9 a0;obtain⟨b1,b2⟩:=AbP hok hm;have b3:(fill P5 S2 0 (ps.drop (m+1))).length<=1048576:=by rw[Dc,A8];omega
     have b6:=DR hok ps[m] dC
     go_region_held (λw'=>Up W1 w'/\AS w' wr.heap.size 0 (Tz (ps[m]).nm)/\AS w' wr.heap.size 1 (Iz (ps[m]).k)/\AS w' wr.heap.size 2 (Tz (ps[m]).a)/\AS w' wr.heap.size 3 (Tz (ps[m]).b)/\AS w' wr.heap.size 4 (Iz (ps[m]).n)/\AS w' wr.heap.size 5 (Iz (ps[m]).wi)/\AS w' wr.heap.size 6 (Tz (ps[m]).t)/\AS w' wr.heap.size 7 (Tz (ps[m]).e)) (first|exact OQ hS|exact Vb b8 sO sO)
      (first|(go_at_call 199;refine (VO _ _ _ _ _ (b4.up (And.left sO)) b3).mono ?_;rintro e w1 ⟨rfl,c8⟩)|(go_at_call 198;refine (PZ _ _ _ _ _ _ _ _ _ _ _ b6.1 b6.2 b1.1 b1.2 b2.1 b2.2).mono ?_;rintro e w1 ⟨rfl,c8⟩))
     rename_i hHeld;obtain⟨hU,e0,-⟩:=hHeld;have a2:=R8 Hown hU;have a5:=D3 b5 hU;obtain⟨X,hX⟩:∃X,X=S2 ps[m] (look (fill P5 S2 0 (ps.drop (m+1))) (ps[m]).t 0) (look (fill P5 S2 0 (ps.drop (m+1))) (ps[m]).e 0):=⟨_,rfl⟩;have b7:(ps[m]).wi+max (look (fill P5 S2 0 (ps.drop (m+1))) (ps[m]).t 0) (look (fill P5 S2 0 (ps.drop (m+1))) (ps[m]).e 0)=X:=hX.symm;rw[b7];have HX:Hid (X=S2 ps[m] (look (fill P5 S2 0 (ps.drop (m+1))) (ps[m]).t 0) (look (fill P5 S2 0 (ps.drop (m+1))) (ps[m]).e 0)):=hX;have Hlen:(fill P5 S2 0 (ps.drop (m+1))).length<=16:=by rw[Dc,A8];omega
     clear hX b7 hS b4 Hown b1 b2 hU b5;go_wp2_with (at_builtin;refine wpList_append_own _ rfl _ _ 247 rfl w.heap.size 285 ii _ 2 24 underlying247 hi a6 a7 a8 rfl aS _ _ _ rfl (a2.alloc _) ⟨w1.heap.size,0,none⟩ 1 1 [Tz (ps[m]).nm,Iz X] rfl rfl (λj u hj=>FH _ _ _ _ hj) (λu hu=>JY rfl hu) (by simp only[maxLen];omega) oM (by have:=a5.size;simp;omega) ?_)
     intro v' w2 hown' hgrow _;have b9:Up w w2:=(a5.alloc a5.size _).grown hgrow (by have:=a5.size;simp;omega) (λk hk=>(a2.lt k hk).1);clear hgrow a2 a5;go_wp2_with fail;go_roundw
     case rel=>exact⟨m,oM,mO,by rw[ON _ _ _ hm,← HX.out,SI,A9];exact hown',b9⟩
     case measure=>simp[intOf]
end Go.Proofs.YtaffjphkobhagaaGreatDoor
