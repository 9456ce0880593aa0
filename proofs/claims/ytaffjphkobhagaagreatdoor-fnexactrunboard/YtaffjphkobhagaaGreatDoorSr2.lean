/- The program fills its table of the instance []string. -/
import Derived.Test.YtaffjphkobhagaaGreatDoorJ15
namespace Go.Proofs.YtaffjphkobhagaaGreatDoor
open Proofs.Tryz
open Go.RowKit
variable{ps:List Ph}{ys:List Value}{B:Nat}{u:Value}{W W' W1 w0:World}
theorem Zv{x0 x1 x2 x3 x4 x5 x6 x7:Value}(h:Up W1 w0/\AS w0 B 0 x0/\AS w0 B 1 x1/\AS w0 B 2 x2/\AS w0 B 3 x3/\AS w0 B 4 x4/\AS w0 B 5 x5/\AS w0 B 6 x6/\AS w0 B 7 x7):W1.heap.size<=w0.heap.size:=h.1.size
theorem FX(n:Int)(w:World):
  cE prog 187 #[Iz n] w (Nz):=by
 delta cE;go_in;go_wp2;go_ret;exact⟨rfl,rfl⟩
theorem Ab5:(prog.info? 270).map (λi=>(i.zero,i.size,i.bytes))=some (some (.agg #[Ez,Nz]),2,40):=sI
theorem Pi{base base' m:Nat}{x:VK}(h:BD W base x)(ht:W.ownsRow base' 270 2 u m ys)(hg:W.grownBy W' u.ownBlock):BD W' base x:=by
 refine World.ownsRow.kept h hg ?_;rcases h.2 with⟨h0,_⟩|⟨g,cap,cur,hv,_,hh,_⟩
 .left;rw[h0];rfl
 .right
  rw[hv];rcases ht.2 with⟨k0,_⟩|⟨g',cap',cur',kv,_,kh,_⟩
  .rw[k0];simp[Value.ownBlock]
  .rw[kv];intro e;obtain rfl:g=g':=by simpa [Value.ownBlock] using e
   rw[hh] at kh;have:=A5 kh;injection this with _ h2
   exact absurd h2 aS
theorem RU(hok:M3 ps=true)(p:Ph)(hp:p∈ps):1<=p.k/\p.k<=5:=by
 obtain⟨_,_,ha⟩:=(J2 ps).1 hok;obtain⟨i,hi,rfl⟩:=B7 hp;have hs:=ha i ps[i] hi (by simp[hi]);simp only[Al,Bool.and_eq_true,Ph.okB,O7] at hs;have h:=hs.1.1.1.1.1.2;unfold L4 at h;split at h
 .omega
 .split at h
  .omega
  .split at h
   .omega
   .split at h
    .rename_i h4;rcases h4 with h4|h4<;>omega
    .cases h
def AB:List (BA×VK):=[(GP,P3),(Ep,P3),(AH,P3)]
theorem WY:CR AB=fill MC EX [] []:=rfl
set_option maxRecDepth 20000 in
set_option maxHeartbeats 4000000 in
theorem Zw(ps:List Ph)(b o c:Nat)(w:World)(hE:F6 w)(hr:G4 w b o ps)(hb:b<w.heap.size)(hok:M3 ps=true):
  Calls prog 186 #[Sx b o ps.length c,.func (.func 187) #[] #[],.func (.func 188) #[] #[]] w
   λe w'=>(∃g cap rs,e=.returned (Sy g rs.length cap)/\CR rs=fill MC EX [] ps/\EV w' w.heap.size g rs)/\Up w w':=by
 have HE:Hid (F6 w):=hE;obtain⟨g0,g1,g2,_⟩:=hE;have i0:∀w,(Instr.index 103 (.agg #[Tz ⟨#[103,111,111,100]⟩,Tz ⟨#[115,97,118,101,100]⟩,Tz ⟨#[115,99,114,97,112,112,101,100]⟩]) (Iz 0)).run prog w=.ok (Tz ⟨#[103,111,111,100]⟩) w:=λ_=>by kernel_rfl
 have i1:∀w,(Instr.index 103 (.agg #[Tz ⟨#[103,111,111,100]⟩,Tz ⟨#[115,97,118,101,100]⟩,Tz ⟨#[115,99,114,97,112,112,101,100]⟩]) (Iz 1)).run prog w=.ok (Tz ⟨#[115,97,118,101,100]⟩) w:=λ_=>by kernel_rfl
 have i2:∀w,(Instr.index 103 (.agg #[Tz ⟨#[103,111,111,100]⟩,Tz ⟨#[115,97,118,101,100]⟩,Tz ⟨#[115,99,114,97,112,112,101,100]⟩]) (Iz 2)).run prog w=.ok (Tz ⟨#[115,99,114,97,112,112,101,100]⟩) w:=λ_=>by kernel_rfl
 go_in;obtain⟨ii,hi,b0,b1,b2⟩:=info_parts Ab5;go_wp2_with fail;(try dsimp only[Iz,Sy,Sx,Nz,Vz,Tz,Ez,Pz]);go_loopw [7,14] (λv i w'=>∃(k:Nat)(j:Int),k<=3/\j=k/\i=.int .i64 j/\w'.ownsRow w.heap.size 270 2 v (AB.take k).length (Am (AB.take k))/\Up w w') (λ_ i _=>3-(intOf i).toNat)
 case atStart=>exact⟨0,0,oM,oM,rfl,B9 _ _ _ _,A4 _ _⟩
 case round =>
  obtain⟨k,j,hk,hj,rfl,a0,hB⟩:=hrel;obtain rfl|rfl|rfl|rfl:k=0\/k=1\/k=2\/k=3:=oM
  .obtain rfl:j=0:=oM
   clear hj;go_wp2_with (first|(go_at_call 216;refine Swz (Q4 _ _ (HE.out.up hB)) ?_)|(go_at_call 187;refine Swz (FX _ _) ?_)|(at_builtin;refine wpList_append_own _ rfl _ _ 231 rfl w.heap.size 270 ii _ 2 40 underlying231 hi b0 b1 b2 rfl aS _ _ _ rfl (a0.alloc _) ⟨wr.heap.size,0,none⟩ 1 1 [Tz ⟨#[103,111,111,100]⟩,Nz] rfl rfl (λj u hj=>FH _ _ _ _ hj) (λu hu=>JY rfl hu) (by simp[maxLen,AB]) (by simp[AB]) (by have:=hB.size;simp;omega) ?_))
   intro v' w1 hown' hgrow _;have a6:Up w w1:=(hB.alloc hB.size _).grown hgrow (by have:=hB.size;simp;omega) (λk hk=>(a0.lt k hk).1);clear hgrow a0 hB;go_wp2_with fail;go_roundw
   case rel=>exact⟨1,1,oM,oM,rfl,by simpa [AB,Am,P3,GP,Ep,AH] using hown',a6⟩
   case measure=>simp[intOf]
  .obtain rfl:j=1:=oM
   clear hj;go_wp2_with (first|(go_at_call 216;refine Swz (Q4 _ _ (HE.out.up hB)) ?_)|(go_at_call 187;refine Swz (FX _ _) ?_)|(at_builtin;refine wpList_append_own _ rfl _ _ 231 rfl w.heap.size 270 ii _ 2 40 underlying231 hi b0 b1 b2 rfl aS _ _ _ rfl (a0.alloc _) ⟨wr.heap.size,0,none⟩ 1 1 [Tz ⟨#[115,97,118,101,100]⟩,Nz] rfl rfl (λj u hj=>FH _ _ _ _ hj) (λu hu=>JY rfl hu) (by simp[maxLen,AB]) (by simp[AB]) (by have:=hB.size;simp;omega) ?_))
   intro v' w1 hown' hgrow _;have a6:Up w w1:=(hB.alloc hB.size _).grown hgrow (by have:=hB.size;simp;omega) (λk hk=>(a0.lt k hk).1);clear hgrow a0 hB;go_wp2_with fail;go_roundw
   case rel=>exact⟨2,2,oM,oM,rfl,by simpa [AB,Am,P3,GP,Ep,AH] using hown',a6⟩
   case measure=>simp[intOf]
  .obtain rfl:j=2:=oM
   clear hj;go_wp2_with (first|(go_at_call 216;refine Swz (Q4 _ _ (HE.out.up hB)) ?_)|(go_at_call 187;refine Swz (FX _ _) ?_)|(at_builtin;refine wpList_append_own _ rfl _ _ 231 rfl w.heap.size 270 ii _ 2 40 underlying231 hi b0 b1 b2 rfl aS _ _ _ rfl (a0.alloc _) ⟨wr.heap.size,0,none⟩ 1 1 [Tz ⟨#[115,99,114,97,112,112,101,100]⟩,Nz] rfl rfl (λj u hj=>FH _ _ _ _ hj) (λu hu=>JY rfl hu) (by simp[maxLen,AB]) (by simp[AB]) (by have:=hB.size;simp;omega) ?_))
   intro v' w1 hown' hgrow _;have a6:Up w w1:=(hB.alloc hB.size _).grown hgrow (by have:=hB.size;simp;omega) (λk hk=>(a0.lt k hk).1);clear hgrow a0 hB;go_wp2_with fail;go_roundw
   case rel=>exact⟨3,3,oM,oM,rfl,by simpa [AB,Am,P3,GP,Ep,AH] using hown',a6⟩
   case measure=>simp[intOf]
  .obtain rfl:j=3:=oM
   clear i0 i1 i2 g0 g1 g2 hj;have e5:ps.length<=12:=((J2 ps).1 hok).2.1;have a0:wr.ownsRow w.heap.size 270 2 u7 AB.length (Am AB):=a0
   have a3:∀r∈AB,BD wr w.heap.size r.2:=by
    intro r hr;simp only[AB,List.mem_cons,List.not_mem_nil,or_false] at hr;rcases hr with rfl|rfl|rfl<;>exact RQ _ _
   go_wp2_with fail;(try dsimp only[Iz,Sy,Sx,Nz,Vz,Tz,Ez,Pz]);go_loopw [7,10] (λv i w'=>∃(k:Nat)(rs:List (BA×VK)),k<=ps.length/\i=.int .i64 ((k:Int)-1)/\CR rs=fill MC EX [] (ps.drop k)/\w'.ownsRow w.heap.size 270 2 v rs.length (Am rs)/\(∀r∈rs,BD w' w.heap.size r.2)/\Up w w') (λ_ i _=>(intOf i+1).toNat)
   case atStart=>exact⟨ps.length,AB,A3 _,rfl,by rw[List.drop_length];exact WY,a0,a3,hB⟩
   case round =>
    clear a0 a3 hB;obtain⟨k,rs,e4,rfl,a4,a2,d1,b5⟩:=hrel
    have b6:rs.length=(ps.drop k).length+3:=by
     have:=congrArg List.length a4;rw[Dc] at this;simpa [CR] using this
    obtain⟨g,cap,rfl⟩:=UV a2 oM;have hT:=EV.of_own a2 d1;cases k with
    | zero =>
     simp only[List.drop_zero] at a4;clear b6;go_wp2_with fail;go_ret;exact⟨⟨g,cap,rs,rfl,a4,hT⟩,b5⟩
    | succ m =>
     have hm:m<ps.length:=oM
     obtain⟨c0,c1,c2,c3,c4,c5,c6,c7⟩:=hr.cells m hm;obtain⟨hc,hf⟩:=E2 b5;have Hrl:Hid (rs.length=(ps.drop (m+1)).length+3):=b6;clear b6;go_wp2_with fail;have d7:=RU hok ps[m] dC
     have d2:∀nm,(look rs nm P3).2=Io (ps.drop (m+1)) nm:=λnm=>by
      rw[← Fk,a4,Do _ _ _ _ (EA hok (m+1))];rfl
     have b7:∀nm,(F8 (look rs nm P3).2).length<=24:=λnm=>by
      have:=OP (ps.drop (m+1)) nm;rw[d2,F8,B5];rw[A8] at this;omega
     have HF:Hid (fill MC EX [] (ps.drop m)=CR rs++[((ps[m]).nm,EX ps[m] (look rs (ps[m]).t P3).2 (look rs (ps[m]).e P3).2)]):=by
      show _=_
      rw[ON MC EX [] hm,← a4,Fk,Fk]
     generalize ps[m]=p at *;have hS:∃W1,W1=wr.alloc (Kz [Tz p.nm,Iz p.k,Tz p.a,Tz p.b,Iz p.n,Iz p.wi,Tz p.t,Tz p.e] 126):=⟨_,rfl⟩;obtain⟨W1,a5⟩:=hS;rw[← a5];have d8:wr.heap.size<W1.heap.size:=by rw[a5];simp
     have hS:Up W1 W1/\AS W1 wr.heap.size 0 (Tz p.nm)/\AS W1 wr.heap.size 1 (Iz p.k)/\AS W1 wr.heap.size 2 (Tz p.a)/\AS W1 wr.heap.size 3 (Tz p.b)/\AS W1 wr.heap.size 4 (Iz p.n)/\AS W1 wr.heap.size 5 (Iz p.wi)/\AS W1 wr.heap.size 6 (Tz p.t)/\AS W1 wr.heap.size 7 (Tz p.e):=by rw[a5];exact⟨A4 _ _,dC,dC,dC,dC,dC,dC,dC,dC⟩
     have b3:Up wr W1:=by rw[a5];exact (A4 _ _).alloc (A3 _) _
     have a7:=hT.up b3;have Hown:=R8 a2 b3;have b8:=D3 b5 b3;have b9:rs.length<=1048576:=by have:=Hrl.out;rw[A8] at this;omega
     have e6:=b7 p.t;have e7:=b7 p.e;clear a5 c0 c1 c2 c3 c4 c5 c6 c7 hc hf hT a2 b3 a0 d1 d2 b7 a4
     go_region_held (λw'=>Up W1 w'/\AS w' wr.heap.size 0 (Tz p.nm)/\AS w' wr.heap.size 1 (Iz p.k)/\AS w' wr.heap.size 2 (Tz p.a)/\AS w' wr.heap.size 3 (Tz p.b)/\AS w' wr.heap.size 4 (Iz p.n)/\AS w' wr.heap.size 5 (Iz p.wi)/\AS w' wr.heap.size 6 (Tz p.t)/\AS w' wr.heap.size 7 (Tz p.e)) (first|exact OQ hS|exact Vb d8 sO sO)
      (first
       | (go_at_call 189;refine (Vx rs w.heap.size g _ _ _ (a7.up (And.left sO)) b9).mono ?_;rintro e w1 ⟨rfl,e2⟩)
       | (go_at_call 188;have d9:=Zv sO;refine (PX p (F8 (look rs p.t P3).2) (F8 (look rs p.e P3).2) _ _ _ d7 ((a7.up (And.left sO)).look _).lst ((a7.up (And.left sO)).look _).lst oM).mono ?_;rintro e w3 ⟨⟨u,rfl,b4⟩,e3⟩;rw[DH,DH] at b4;obtain⟨a9,n9,c9,d6⟩:=BD.shape (x:=(u,_)) b4;subst d6))
     rename_i hHeld;obtain⟨hU,e0,-⟩:=hHeld;have a1:=R8 Hown hU;have a8:=D3 b8 hU;have d3:=a7.up hU;have hx:BD w3 w.heap.size (Vz a9 n9 c9,EX p (look rs p.t P3).2 (look rs p.e P3).2):=Dj b4 (by have:=b8.size;omega);have c8:Up w3 (w3.alloc (Kz [Tz p.nm,Vz a9 n9 c9] 270)):=(A4 _ _).alloc (A3 _) _;have d4:=hx.up c8;have d5:=d3.up c8;have Hrl':rs.length<=16:=by have:=Hrl.out;rw[A8] at this;omega
     clear hS a7 Hown hU b8 b4 d3 hx c8 e2 e3;go_wp2_with (at_builtin;refine wpList_append_own _ rfl _ _ 231 rfl w.heap.size 270 ii _ 2 40 underlying231 hi b0 b1 b2 rfl aS _ _ _ rfl (a1.alloc _) ⟨w3.heap.size,0,none⟩ 1 1 [Tz p.nm,Vz a9 n9 c9] rfl rfl (λj u hj=>FH _ _ _ _ hj) (λu hu=>JY rfl hu) (by simp only[maxLen];omega) oM (by have:=a8.size;simp;omega) ?_)
     intro v' w5 hown' hgrow _;have e1:Up w w5:=(a8.alloc a8.size _).grown hgrow (by have:=a8.size;simp;omega) (λk hk=>(a1.lt k hk).1)
     have d0:∀r∈rs++[(p.nm,((Vz a9 n9 c9,EX p (look rs p.t P3).2 (look rs p.e P3).2):VK))],BD w5 w.heap.size r.2:=by
      intro r hr;rcases C8.1 hr with hr|hr
      .exact Pi (d5.2.2 r hr) (a1.alloc _) hgrow
      .simp only[C9] at hr;subst hr;exact Pi d4 (a1.alloc _) hgrow
     clear hgrow a1 a8 d5 d4;go_wp2_with fail;go_roundw
     case rel=>exact⟨m,rs++[(p.nm,((Vz a9 n9 c9,EX p (look rs p.t P3).2 (look rs p.e P3).2):VK))],oM,mO,by rw[HF.out];simp[CR],by rw[RN,A9];exact hown',d0,e1⟩
     case measure=>simp[intOf]
end Go.Proofs.YtaffjphkobhagaaGreatDoor
