/- Drawing: a phase is spoilt. -/
import Derived.Test.YtmonodehegcfhaaGreatDoorJ26
import Derived.Deep.RegionHeld
namespace Go.Proofs.YtmonodehegcfhaaGreatDoor
open Go.Proofs.Tryz
open Go.RowKit
variable{k:Nat}{t:TypeId}{w1 w2:World}
theorem Kg(w:World)(xs:List Int)(k:Nat)(hk:k<xs.length)(t:TypeId):(w.alloc (.cells (xs.map (Value.int .i64)).toArray t)).cell? ⟨w.heap.size,k,none⟩=some (Iz (xs[k]'hk)):=by
 have:((xs.map (Value.int .i64)).toArray)[k]?=some (Iz (xs[k]'hk)):=by simp[hk]
 simp[go_sem,World.cell?_alloc_at,this]
theorem Zh{rb:Nat}{x y:Int}(hg2:(w1.alloc (Kz [Iz (-1),Iz 0,Iz 1,Iz x,Iz y,Iz 1000,Iz 1001] t)).drew.grownBy w2 (some rb))(h:rb<w1.heap.size)(hk:k<7):∃z,At w2 w1.heap.size k (Iz z) :=
 ⟨[-1,0,1,x,y,1000,1001][k]'hk,hg2.cell (a:=⟨w1.heap.size,k,none⟩) (Kg w1 [-1,0,1,x,y,1000,1001] k hk t) (by simp;omega)⟩
theorem Zi(w2:World)(x y:Int)(t:TypeId)(hk:k<7):∃z,(w2.alloc (Kz [Iz (-1),Iz 0,Iz 1,Iz x,Iz y,Iz 1000,Iz 1001] t)).cell? ⟨w2.heap.size,k,none⟩=some (Iz z) :=
 ⟨[-1,0,1,x,y,1000,1001][k]'hk,Kg w2 [-1,0,1,x,y,1000,1001] k hk t⟩
set_option maxRecDepth 100000 in
set_option maxHeartbeats 4000000 in
theorem UL(rb len N:Nat)(v:Value)(p:Ph)(w:World)(hR:Rd w rb v len N)(hN:N<=900000)(hp:p.sz):
  Calls prog 68 #[Pz rb 0,.agg #[Tz p.nm,Iz p.k,Tz p.a,Tz p.b,Iz p.n,Iz p.wi,Tz p.t,Tz p.e]] w
   λe w'=>(∃p:Ph,e=.returned (.agg #[Tz p.nm,Iz p.k,Tz p.a,Tz p.b,Iz p.n,Iz p.wi,Tz p.t,Tz p.e])/\p.sz)/\Rd w' rb v len (N+2)/\w.grownBy w' (some rb):=by
 have e3:=hR.lt;have b7:=(Fi w p 43).kept (F4 (r:=none) (E2 _ none) (Kz [Ez,Iz 0,Ez,Ez,Iz 0,Iz 0,Ez,Ez] 43)) (by simp);have b4:=Fi (w.alloc (Kz [Tz p.nm,Iz p.k,Tz p.a,Tz p.b,Iz p.n,Iz p.wi,Tz p.t,Tz p.e] 43)) ⟨⟨#[]⟩,0,⟨#[]⟩,⟨#[]⟩,0,0,⟨#[]⟩,⟨#[]⟩⟩ 43;have b8:=(hR.alloc (Kz [Tz p.nm,Iz p.k,Tz p.a,Tz p.b,Iz p.n,Iz p.wi,Tz p.t,Tz p.e] 43)).alloc (Kz [Ez,Iz 0,Ez,Ez,Iz 0,Iz 0,Ez,Ez] 43);have b9:=F4 (F4 (E2 w (some rb)) (Kz [Tz p.nm,Iz p.k,Tz p.a,Tz p.b,Iz p.n,Iz p.wi,Tz p.t,Tz p.e] 43)) (Kz [Ez,Iz 0,Ez,Ez,Iz 0,Iz 0,Ez,Ez] 43);have c8:(w.alloc (Kz [Tz p.nm,Iz p.k,Tz p.a,Tz p.b,Iz p.n,Iz p.wi,Tz p.t,Tz p.e] 43)).heap.size=w.heap.size+1:=by simp
 rw[c8] at b4;clear c8;go_in;go_wp2_with fail;refine (K2 rb len N v 8 _ b8 (by omega)).mono ?_;rintro e w1 ⟨⟨x,rfl,e6,e0⟩,a7,b3⟩;have e4:=e0 (by omega);clear e0;have a3:=b7.kept b3 (by simp;omega);have a4:=b4.kept b3 (by simp;omega);have a6:=E0 b9 b3;have e5:=a4.lt;clear b7 b4 b3 b9 b8 hR;obtain⟨z0,z2,z3,z6,z7,b1,b2⟩:=hp;obtain⟨c0,c1,c2,c3,c4,c5,c6,c7⟩:=a3.cells;obtain⟨f0,f1,f2,f3,f4,f5,f6,f7⟩:=a3.frozen;rcases (by omega:x=0∨x=1∨x=2∨x=3∨x=4∨x=5∨x=6∨x=7) with rfl|rfl|rfl|rfl|rfl|rfl|rfl|rfl
 ·go_wp2_with fail;refine (Ar rb len _ v [⟨#[]⟩,⟨#[65]⟩,⟨#[103,111,111,100]⟩,⟨#[102,49]⟩,⟨#[110,105,110,101,45,98,121,116,101,115]⟩] 5 _ 0 _ _ rfl (a7.alloc _) (by omega) (K8 w1 [⟨#[]⟩,⟨#[65]⟩,⟨#[103,111,111,100]⟩,⟨#[102,49]⟩,⟨#[110,105,110,101,45,98,121,116,101,115]⟩] 9) (by omega) (by omega) (by omega)).mono ?_;rintro e w2 ⟨⟨s,hs,rfl⟩,a5,a0⟩;have hz:s.size<=maxLen:=Y6 (ss:=[⟨#[]⟩,⟨#[65]⟩,⟨#[103,111,111,100]⟩,⟨#[102,49]⟩,⟨#[110,105,110,101,45,98,121,116,101,115]⟩]) (by decide) s hs;have a2:=(a3.kept (F4 (r:=none) (E2 w1 none) _) (by simp)).kept a0 (by simp;omega);have a1:=(a4.kept (F4 (r:=none) (E2 w1 none) _) (by simp)).kept a0 (by simp;omega);have a8:=E0 (F4 a6 _) a0;clear a0 a3 a4 a6 a7;clear c0 c1 c2 c3 c4 c5 c6 c7 f0 f1 f2 f3 f4 f5 f6 f7;obtain⟨c0,c1,c2,c3,c4,c5,c6,c7⟩:=a2.cells;obtain⟨f0,f1,f2,f3,f4,f5,f6,f7⟩:=a2.frozen;obtain⟨d0,d1,d2,d3,d4,d5,d6,d7⟩:=a1.cells;obtain⟨r0,r1,r2,r3,r4,r5,r6,r7⟩:=a1.frozen;simp only at c0 c1 c2 c3 c4 c5 c6 c7 d0 d1 d2 d3 d4 d5 d6 d7;go_wp2_with fail;refine bodyPost_ret (Cb (rk:=w.heap.size+1) (p:={p with nm:=s}) results68 ?ht ?hZ) rfl ?_
  case ht=>rfl
  case hZ=>exact T3.copy (a1.other (qb:=w.heap.size) (j:=0) (u:=Tz s) (by omega)) ({p with nm:=s})
  exact⟨⟨{p with nm:=s},rfl,⟨hz,z2,z3,z6,z7,b1,b2⟩⟩,(((((((((a5.setCell (by omega)).setCell (by omega)).setCell (by omega)).setCell (by omega)).setCell (by omega)).setCell (by omega)).setCell (by omega)).setCell (by omega)).setCell (by omega)).mono (by omega),D9 (D9 (D9 (D9 (D9 (D9 (D9 (D9 (D9 a8 (by omega) _) (by omega) _) (by omega) _) (by omega) _) (by omega) _) (by omega) _) (by omega) _) (by omega) _) (by omega) _⟩
 ·go_wp2_with fail;refine (K2 rb len _ v 8 _ a7 (by omega)).mono ?_;rintro e w2 ⟨⟨y,rfl,e1,b0⟩,a5,a0⟩;have c9:=b0 (by omega);clear b0;have a2:=a3.kept a0 (by simp;omega);have a1:=a4.kept a0 (by simp;omega);have a8:=E0 a6 a0;clear a0 a3 a4 a6 a7;clear c0 c1 c2 c3 c4 c5 c6 c7 f0 f1 f2 f3 f4 f5 f6 f7;obtain⟨c0,c1,c2,c3,c4,c5,c6,c7⟩:=a2.cells;obtain⟨f0,f1,f2,f3,f4,f5,f6,f7⟩:=a2.frozen;obtain⟨d0,d1,d2,d3,d4,d5,d6,d7⟩:=a1.cells;obtain⟨r0,r1,r2,r3,r4,r5,r6,r7⟩:=a1.frozen;simp only at c0 c1 c2 c3 c4 c5 c6 c7 d0 d1 d2 d3 d4 d5 d6 d7;go_wp2_with fail;refine bodyPost_ret (Cb (rk:=w.heap.size+1) (p:={p with k:=y-1}) results68 ?ht ?hZ) rfl ?_
  case ht=>rfl
  case hZ=>exact T3.copy (a1.other (qb:=w.heap.size) (j:=1) (u:=.int .i64 (y-1)) (by omega)) ({p with k:=y-1})
  exact⟨⟨{p with k:=y-1},rfl,⟨z0,z2,z3,z6,z7,b1,b2⟩⟩,(((((((((a5.setCell (by omega)).setCell (by omega)).setCell (by omega)).setCell (by omega)).setCell (by omega)).setCell (by omega)).setCell (by omega)).setCell (by omega)).setCell (by omega)).mono (by omega),D9 (D9 (D9 (D9 (D9 (D9 (D9 (D9 (D9 a8 (by omega) _) (by omega) _) (by omega) _) (by omega) _) (by omega) _) (by omega) _) (by omega) _) (by omega) _) (by omega) _⟩
 ·go_wp2_with fail;refine (Ar rb len _ v [⟨#[]⟩,⟨#[65]⟩,p.b,⟨#[103,111,111,100]⟩] 4 _ 0 _ _ rfl (a7.alloc _) (by omega) (K8 w1 [⟨#[]⟩,⟨#[65]⟩,p.b,⟨#[103,111,111,100]⟩] 9) (by omega) (by omega) (by omega)).mono ?_;rintro e w2 ⟨⟨s,hs,rfl⟩,a5,a0⟩
  have hz:s.size<=maxLen:=by
   have hl:s∈([⟨#[]⟩,⟨#[65]⟩,⟨#[103,111,111,100]⟩]:List BA)∨s=p.b:=by
    simp only[List.mem_cons,List.not_mem_nil,or_false] at hs ⊢
    rcases hs with h|h|h|h<;>simp[h]
   rcases hl with h|h
   ·exact Y6 (ss:=[⟨#[]⟩,⟨#[65]⟩,⟨#[103,111,111,100]⟩]) (by decide) s h
   ·rw[h];exact z3
  have a2:=(a3.kept (F4 (r:=none) (E2 w1 none) _) (by simp)).kept a0 (by simp;omega);have a1:=(a4.kept (F4 (r:=none) (E2 w1 none) _) (by simp)).kept a0 (by simp;omega);have a8:=E0 (F4 a6 _) a0;clear a0 a3 a4 a6 a7;clear c0 c1 c2 c3 c4 c5 c6 c7 f0 f1 f2 f3 f4 f5 f6 f7;obtain⟨c0,c1,c2,c3,c4,c5,c6,c7⟩:=a2.cells;obtain⟨f0,f1,f2,f3,f4,f5,f6,f7⟩:=a2.frozen;obtain⟨d0,d1,d2,d3,d4,d5,d6,d7⟩:=a1.cells;obtain⟨r0,r1,r2,r3,r4,r5,r6,r7⟩:=a1.frozen;simp only at c0 c1 c2 c3 c4 c5 c6 c7 d0 d1 d2 d3 d4 d5 d6 d7;go_wp2_with fail;refine bodyPost_ret (Cb (rk:=w.heap.size+1) (p:={p with a:=s}) results68 ?ht ?hZ) rfl ?_
  case ht=>rfl
  case hZ=>exact T3.copy (a1.other (qb:=w.heap.size) (j:=2) (u:=Tz s) (by omega)) ({p with a:=s})
  exact⟨⟨{p with a:=s},rfl,⟨z0,hz,z3,z6,z7,b1,b2⟩⟩,(((((((((a5.setCell (by omega)).setCell (by omega)).setCell (by omega)).setCell (by omega)).setCell (by omega)).setCell (by omega)).setCell (by omega)).setCell (by omega)).setCell (by omega)).mono (by omega),D9 (D9 (D9 (D9 (D9 (D9 (D9 (D9 (D9 a8 (by omega) _) (by omega) _) (by omega) _) (by omega) _) (by omega) _) (by omega) _) (by omega) _) (by omega) _) (by omega) _⟩
 ·go_wp2_with fail;refine (Ar rb len _ v [⟨#[]⟩,⟨#[65]⟩,p.a,⟨#[103,111,111,100]⟩] 4 _ 0 _ _ rfl (a7.alloc _) (by omega) (K8 w1 [⟨#[]⟩,⟨#[65]⟩,p.a,⟨#[103,111,111,100]⟩] 9) (by omega) (by omega) (by omega)).mono ?_;rintro e w2 ⟨⟨s,hs,rfl⟩,a5,a0⟩
  have hz:s.size<=maxLen:=by
   have hl:s∈([⟨#[]⟩,⟨#[65]⟩,⟨#[103,111,111,100]⟩]:List BA)∨s=p.a:=by
    simp only[List.mem_cons,List.not_mem_nil,or_false] at hs ⊢
    rcases hs with h|h|h|h<;>simp[h]
   rcases hl with h|h
   ·exact Y6 (ss:=[⟨#[]⟩,⟨#[65]⟩,⟨#[103,111,111,100]⟩]) (by decide) s h
   ·rw[h];exact z2
  have a2:=(a3.kept (F4 (r:=none) (E2 w1 none) _) (by simp)).kept a0 (by simp;omega);have a1:=(a4.kept (F4 (r:=none) (E2 w1 none) _) (by simp)).kept a0 (by simp;omega);have a8:=E0 (F4 a6 _) a0;clear a0 a3 a4 a6 a7;clear c0 c1 c2 c3 c4 c5 c6 c7 f0 f1 f2 f3 f4 f5 f6 f7;obtain⟨c0,c1,c2,c3,c4,c5,c6,c7⟩:=a2.cells;obtain⟨f0,f1,f2,f3,f4,f5,f6,f7⟩:=a2.frozen;obtain⟨d0,d1,d2,d3,d4,d5,d6,d7⟩:=a1.cells;obtain⟨r0,r1,r2,r3,r4,r5,r6,r7⟩:=a1.frozen;simp only at c0 c1 c2 c3 c4 c5 c6 c7 d0 d1 d2 d3 d4 d5 d6 d7;go_wp2_with fail;refine bodyPost_ret (Cb (rk:=w.heap.size+1) (p:={p with b:=s}) results68 ?ht ?hZ) rfl ?_
  case ht=>rfl
  case hZ=>exact T3.copy (a1.other (qb:=w.heap.size) (j:=3) (u:=Tz s) (by omega)) ({p with b:=s})
  exact⟨⟨{p with b:=s},rfl,⟨z0,z2,hz,z6,z7,b1,b2⟩⟩,(((((((((a5.setCell (by omega)).setCell (by omega)).setCell (by omega)).setCell (by omega)).setCell (by omega)).setCell (by omega)).setCell (by omega)).setCell (by omega)).setCell (by omega)).mono (by omega),D9 (D9 (D9 (D9 (D9 (D9 (D9 (D9 (D9 a8 (by omega) _) (by omega) _) (by omega) _) (by omega) _) (by omega) _) (by omega) _) (by omega) _) (by omega) _) (by omega) _⟩
 ·go_wp2_with fail;clear c0 c1 c2 c3 c4 c6 c7 f0 f1 f2 f3 f5 f6 f7
  go_region_with
   (first|(go_at_call 20;refine (K2 rb len _ v 7 _ (by first|exact a7.alloc _|exact a7) (by omega)).mono ?_;rintro e w2 ⟨⟨y,rfl,e1,b0⟩,a5,a0⟩;have c9:=b0 (by omega);first|(obtain⟨z,a9⟩:=Zh (k:=y.toNat) a0 (by omega) (by omega);have a2:=(a3.kept (S8 (F4 (r:=none) (E2 w1 none) _)) (by simp)).kept a0 (by simp;omega);have c4:=a2.cells.2.2.2.2.1;have b5:=a2.frozen.2.2.2.2.1)|(obtain⟨z,a9⟩:=Zi (k:=y.toNat) w2 p.wi (IntKind.i64.wrap (p.wi+1)) 3 (by omega);have b6:=(a3.kept (S8 (E2 w1 none)) (by simp)).kept a0 (by simp;omega);have e2:=b6.cells.2.2.2.2.2.1;have a2:=b6.kept (F4 (r:=none) (E2 w2 none) (Kz [Iz (-1),Iz 0,Iz 1,Iz p.wi,Iz (IntKind.i64.wrap (p.wi+1)),Iz 1000,Iz 1001] 3)) (by simp);have c4:=a2.cells.2.2.2.2.1;have b5:=a2.frozen.2.2.2.2.1)))
  all_goals first
   | (have a1:=(a4.kept (S8 (F4 (r:=none) (E2 w1 none) _)) (by simp)).kept a0 (by simp;omega)
      have a8:=E0 (S8 (F4 a6 _)) a0;clear a9 c4 b5)
   | (have a1:=((a4.kept (S8 (E2 w1 none)) (by simp)).kept a0 (by simp;omega)).kept (F4 (r:=none) (E2 w2 none) (Kz [Iz (-1),Iz 0,Iz 1,Iz p.wi,Iz (IntKind.i64.wrap (p.wi+1)),Iz 1000,Iz 1001] 3)) (by simp)
      have a8:=F4 (E0 (S8 a6) a0) (Kz [Iz (-1),Iz 0,Iz 1,Iz p.wi,Iz (IntKind.i64.wrap (p.wi+1)),Iz 1000,Iz 1001] 3);have d8:=a5.alloc (Kz [Iz (-1),Iz 0,Iz 1,Iz p.wi,Iz (IntKind.i64.wrap (p.wi+1)),Iz 1000,Iz 1001] 3);clear a5;have a5:=d8;clear d8 a9 c4 b5 b6 e2;generalize w2.alloc (Kz [Iz (-1),Iz 0,Iz 1,Iz p.wi,Iz (IntKind.i64.wrap (p.wi+1)),Iz 1000,Iz 1001] 3)=W2 at *)
  all_goals
   clear c5 f4 a0 a3 a4 a6 a7 b0;obtain⟨c0,c1,c2,c3,c4,c5,c6,c7⟩:=a2.cells;obtain⟨f0,f1,f2,f3,f4,f5,f6,f7⟩:=a2.frozen;obtain⟨d0,d1,d2,d3,d4,d5,d6,d7⟩:=a1.cells;obtain⟨r0,r1,r2,r3,r4,r5,r6,r7⟩:=a1.frozen;simp only at c0 c1 c2 c3 c4 c5 c6 c7 d0 d1 d2 d3 d4 d5 d6 d7;go_wp2_with fail;refine bodyPost_ret (Cb (rk:=w.heap.size+1) (p:={p with n:=z}) results68 ?ht ?hZ) rfl ?_
   case ht=>rfl
   case hZ=>exact T3.copy (a1.other (qb:=w.heap.size) (j:=4) (u:=.int .i64 z) (by omega)) ({p with n:=z})
   exact⟨⟨{p with n:=z},rfl,⟨z0,z2,z3,z6,z7,b1,b2⟩⟩,(((((((((a5.setCell (by omega)).setCell (by omega)).setCell (by omega)).setCell (by omega)).setCell (by omega)).setCell (by omega)).setCell (by omega)).setCell (by omega)).setCell (by omega)).mono (by omega),D9 (D9 (D9 (D9 (D9 (D9 (D9 (D9 (D9 a8 (by omega) _) (by omega) _) (by omega) _) (by omega) _) (by omega) _) (by omega) _) (by omega) _) (by omega) _) (by omega) _⟩
 ·go_wp2_with fail;refine (K2 rb len _ v 5 _ (a7.alloc _) (by omega)).mono ?_;rintro e w2 ⟨⟨y,rfl,e1,b0⟩,a5,a0⟩;have c9:=b0 (by omega);obtain⟨k,rfl⟩:∃k:Nat,y=(k:Int):=⟨y.toNat,by omega⟩;have hk:k<5:=by omega
  have a9:=a0.cell (Kg w1 [-1,0,1,1000,1001] k (by simp;omega) 3) (by simp;omega);have Hm:Hid (([-1,0,1,1000,1001]:List Int)[k]'(by simp;omega)∈([-1,0,1,1000,1001]:List Int)):=by show _∈_;exact List.getElem_mem _
  generalize ([-1,0,1,1000,1001]:List Int)[k]'(by simp;omega)=y at *
  have d9:-5000<=y/\y<=5000:=by
   have:∀y∈([-1,0,1,1000,1001]:List Int),-5000<=y/\y<=5000:=by decide
   exact this y (Hm.out)
  have a2:=(a3.kept (F4 (r:=none) (E2 w1 none) _) (by simp)).kept a0 (by simp;omega);have a1:=(a4.kept (F4 (r:=none) (E2 w1 none) _) (by simp)).kept a0 (by simp;omega);have a8:=E0 (F4 a6 _) a0;clear b0 a0 a3 a4 a6 a7;clear c0 c1 c2 c3 c4 c5 c6 c7 f0 f1 f2 f3 f4 f5 f6 f7;obtain⟨c0,c1,c2,c3,c4,c5,c6,c7⟩:=a2.cells;obtain⟨f0,f1,f2,f3,f4,f5,f6,f7⟩:=a2.frozen;obtain⟨d0,d1,d2,d3,d4,d5,d6,d7⟩:=a1.cells;obtain⟨r0,r1,r2,r3,r4,r5,r6,r7⟩:=a1.frozen;simp only at c0 c1 c2 c3 c4 c5 c6 c7 d0 d1 d2 d3 d4 d5 d6 d7;go_wp2_with fail;refine bodyPost_ret (Cb (rk:=w.heap.size+1) (p:={p with wi:=y}) results68 ?ht ?hZ) rfl ?_
  case ht=>rfl
  case hZ=>exact T3.copy (a1.other (qb:=w.heap.size) (j:=5) (u:=.int .i64 y) (by omega)) ({p with wi:=y})
  exact⟨⟨{p with wi:=y},rfl,⟨z0,z2,z3,z6,z7,d9.1,d9.2⟩⟩,(((((((((a5.setCell (by omega)).setCell (by omega)).setCell (by omega)).setCell (by omega)).setCell (by omega)).setCell (by omega)).setCell (by omega)).setCell (by omega)).setCell (by omega)).mono (by omega),D9 (D9 (D9 (D9 (D9 (D9 (D9 (D9 (D9 a8 (by omega) _) (by omega) _) (by omega) _) (by omega) _) (by omega) _) (by omega) _) (by omega) _) (by omega) _) (by omega) _⟩
 ·go_wp2_with fail;refine (Ar rb len _ v [⟨#[]⟩,⟨#[98,114,101,119]⟩,⟨#[102,49]⟩,⟨#[114,101,115,116]⟩,⟨#[110,111,110,101]⟩] 5 _ 0 _ _ rfl (a7.alloc _) (by omega) (K8 w1 [⟨#[]⟩,⟨#[98,114,101,119]⟩,⟨#[102,49]⟩,⟨#[114,101,115,116]⟩,⟨#[110,111,110,101]⟩] 9) (by omega) (by omega) (by omega)).mono ?_;rintro e w2 ⟨⟨s,hs,rfl⟩,a5,a0⟩;have hz:s.size<=maxLen:=Y6 (ss:=[⟨#[]⟩,⟨#[98,114,101,119]⟩,⟨#[102,49]⟩,⟨#[114,101,115,116]⟩,⟨#[110,111,110,101]⟩]) (by decide) s hs;have a2:=(a3.kept (F4 (r:=none) (E2 w1 none) _) (by simp)).kept a0 (by simp;omega);have a1:=(a4.kept (F4 (r:=none) (E2 w1 none) _) (by simp)).kept a0 (by simp;omega);have a8:=E0 (F4 a6 _) a0;clear a0 a3 a4 a6 a7;clear c0 c1 c2 c3 c4 c5 c6 c7 f0 f1 f2 f3 f4 f5 f6 f7;obtain⟨c0,c1,c2,c3,c4,c5,c6,c7⟩:=a2.cells;obtain⟨f0,f1,f2,f3,f4,f5,f6,f7⟩:=a2.frozen;obtain⟨d0,d1,d2,d3,d4,d5,d6,d7⟩:=a1.cells;obtain⟨r0,r1,r2,r3,r4,r5,r6,r7⟩:=a1.frozen;simp only at c0 c1 c2 c3 c4 c5 c6 c7 d0 d1 d2 d3 d4 d5 d6 d7;go_wp2_with fail;refine bodyPost_ret (Cb (rk:=w.heap.size+1) (p:={p with t:=s}) results68 ?ht ?hZ) rfl ?_
  case ht=>rfl
  case hZ=>exact T3.copy (a1.other (qb:=w.heap.size) (j:=6) (u:=Tz s) (by omega)) ({p with t:=s})
  exact⟨⟨{p with t:=s},rfl,⟨z0,z2,z3,hz,z7,b1,b2⟩⟩,(((((((((a5.setCell (by omega)).setCell (by omega)).setCell (by omega)).setCell (by omega)).setCell (by omega)).setCell (by omega)).setCell (by omega)).setCell (by omega)).setCell (by omega)).mono (by omega),D9 (D9 (D9 (D9 (D9 (D9 (D9 (D9 (D9 a8 (by omega) _) (by omega) _) (by omega) _) (by omega) _) (by omega) _) (by omega) _) (by omega) _) (by omega) _) (by omega) _⟩
 ·go_wp2_with fail;refine (Ar rb len _ v [⟨#[]⟩,⟨#[98,114,101,119]⟩,⟨#[102,49]⟩,⟨#[114,101,115,116]⟩,⟨#[110,111,110,101]⟩] 5 _ 0 _ _ rfl (a7.alloc _) (by omega) (K8 w1 [⟨#[]⟩,⟨#[98,114,101,119]⟩,⟨#[102,49]⟩,⟨#[114,101,115,116]⟩,⟨#[110,111,110,101]⟩] 9) (by omega) (by omega) (by omega)).mono ?_;rintro e w2 ⟨⟨s,hs,rfl⟩,a5,a0⟩;have hz:s.size<=maxLen:=Y6 (ss:=[⟨#[]⟩,⟨#[98,114,101,119]⟩,⟨#[102,49]⟩,⟨#[114,101,115,116]⟩,⟨#[110,111,110,101]⟩]) (by decide) s hs;have a2:=(a3.kept (F4 (r:=none) (E2 w1 none) _) (by simp)).kept a0 (by simp;omega);have a1:=(a4.kept (F4 (r:=none) (E2 w1 none) _) (by simp)).kept a0 (by simp;omega);have a8:=E0 (F4 a6 _) a0;clear a0 a3 a4 a6 a7;clear c0 c1 c2 c3 c4 c5 c6 c7 f0 f1 f2 f3 f4 f5 f6 f7;obtain⟨c0,c1,c2,c3,c4,c5,c6,c7⟩:=a2.cells;obtain⟨f0,f1,f2,f3,f4,f5,f6,f7⟩:=a2.frozen;obtain⟨d0,d1,d2,d3,d4,d5,d6,d7⟩:=a1.cells;obtain⟨r0,r1,r2,r3,r4,r5,r6,r7⟩:=a1.frozen;simp only at c0 c1 c2 c3 c4 c5 c6 c7 d0 d1 d2 d3 d4 d5 d6 d7;go_wp2_with fail;refine bodyPost_ret (Cb (rk:=w.heap.size+1) (p:={p with e:=s}) results68 ?ht ?hZ) rfl ?_
  case ht=>rfl
  case hZ=>exact T3.copy (a1.other (qb:=w.heap.size) (j:=7) (u:=Tz s) (by omega)) ({p with e:=s})
  exact⟨⟨{p with e:=s},rfl,⟨z0,z2,z3,z6,hz,b1,b2⟩⟩,(((((((((a5.setCell (by omega)).setCell (by omega)).setCell (by omega)).setCell (by omega)).setCell (by omega)).setCell (by omega)).setCell (by omega)).setCell (by omega)).setCell (by omega)).mono (by omega),D9 (D9 (D9 (D9 (D9 (D9 (D9 (D9 (D9 a8 (by omega) _) (by omega) _) (by omega) _) (by omega) _) (by omega) _) (by omega) _) (by omega) _) (by omega) _) (by omega) _⟩
end Go.Proofs.YtmonodehegcfhaaGreatDoor
