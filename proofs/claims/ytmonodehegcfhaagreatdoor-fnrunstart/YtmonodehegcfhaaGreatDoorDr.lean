/- Drawing a phase. -/
import Derived.Test.YtmonodehegcfhaaGreatDoorJ26
namespace Go.Proofs.YtmonodehegcfhaaGreatDoor
open Go.Proofs.Tryz
open Go.RowKit
set_option maxRecDepth 100000 in
set_option maxHeartbeats 4000000 in
theorem Fq(rb len N:Nat)(v:Value)(nm:BA)(later:List BA)(g2 o2 c2 n2:Nat)(w:World)(hR:Rd w rb v len N)(hN:N<=900000)(hnm:nm.size<=maxLen)(hsz:TD later)(hl2:later.length=n2)(hn2:n2<=100)(hS2:F9 w g2 o2 later)(hg2:g2≠rb):
  Calls prog 64 #[Pz rb 0,Tz nm,Sy g2 o2 n2 c2] w
   λe w'=>(∃p:Ph,e=.returned (.agg #[Tz p.nm,Iz p.k,Tz p.a,Tz p.b,Iz p.n,Iz p.wi,Tz p.t,Tz p.e])/\p.sz)/\Rd w' rb v len (N+12)/\w.grownBy w' (some rb):=by
 have i8:=hR.lt;have b4:=Fi w ⟨⟨#[]⟩,0,⟨#[]⟩,⟨#[]⟩,0,0,⟨#[]⟩,⟨#[]⟩⟩ 43;have d9:w.grownBy (w.alloc (Kz [Ez,Iz 0,Ez,Ez,Iz 0,Iz 0,Ez,Ez] 43)) (some rb):=F4 (E2 _ _) _;have f9:=hR.alloc (Kz [Ez,Iz 0,Ez,Ez,Iz 0,Iz 0,Ez,Ez] 43);have g0:=hS2.kept d9 hg2;have i9:(w.alloc (Kz [Ez,Iz 0,Ez,Ez,Iz 0,Iz 0,Ez,Ez] 43)).heap.size=w.heap.size+1:=by simp
 go_in;go_wp2_with fail;generalize hA:w.alloc (Kz [Ez,Iz 0,Ez,Ez,Iz 0,Iz 0,Ez,Ez] 43)=A1 at *;clear hA;refine (K2 rb len N v 5 _ f9 (by omega)).mono ?_;rintro e w1 ⟨⟨x1,rfl,i2,c8⟩,g7,g8⟩;have h7:=c8 (by omega);clear c8;go_wp2_with fail;refine (Pw rb len _ v _ g7 (by omega)).mono ?_;rintro e w2 ⟨⟨s,rfl,hs⟩,g9,c9⟩;go_wp2_with fail;refine (K2 rb len _ v 20 _ g9 (by omega)).mono ?_;rintro e w3 ⟨⟨x2,rfl,i3,d8⟩,h1,e4⟩;have h8:=d8 (by omega);clear d8;have e1:=E0 (E0 g8 c9) e4;clear g8 c9 e4 g7 g9 f9;go_upto_region 2 with fail;obtain⟨ii,hi,h3,h4,h5⟩:=info_parts V7;have b2:=Fi w3 ⟨nm,1+x1,s,⟨#[]⟩,0,1+x2,⟨#[]⟩,⟨#[]⟩⟩ 43;have a7:=F4 e1 (Kz [Tz nm,Iz (1+x1),Tz s,Ez,Iz 0,Iz (1+x2),Ez,Ez] 43);have b3:=h1.alloc (Kz [Tz nm,Iz (1+x1),Tz s,Ez,Iz 0,Iz (1+x2),Ez,Ez] 43);have j0:w.heap.size+1<=w3.heap.size:=by have:=e1.size;omega
 have f8:w3.heap.size<(w3.alloc (Kz [Tz nm,Iz (1+x1),Tz s,Ez,Iz 0,Iz (1+x2),Ez,Ez] 43)).heap.size:=by simp
 have a5:Ph.sz ⟨nm,1+x1,s,⟨#[]⟩,0,1+x2,⟨#[]⟩,⟨#[]⟩⟩:=⟨hnm,hs,Jw,Jw,Jw,by dsimp only;omega,by dsimp only;omega⟩;generalize hX:w3.alloc (Kz [Tz nm,Iz (1+x1),Tz s,Ez,Iz 0,Iz (1+x2),Ez,Ez] 43)=X at *;generalize w3.heap.size=pb at *;clear hX h1 e1;obtain⟨c0,c1,a0,c3,c4,c5,c6,c7⟩:=b2.cells;obtain⟨f0,f1,f2,f3,f4,f5,f6,f7⟩:=b2.frozen;simp only at c0 c1 a0 c3 c4 c5 c6 c7;go_cut [20] (λv20 wc=>v20=.int .i64 (1+x1)/\wc=X)
 case first =>
  go_wp2_with fail;go_meet
  case rel=>exact⟨rfl,rfl⟩
 case rest =>
  obtain⟨rfl,rfl⟩:=hcut;obtain⟨X,rfl⟩:∃X,X=wc:=⟨_,rfl⟩;apply_assumption
  go_cut [21,31,46] (λ_ _ _ wc=>∃(p:Ph)(M:Nat),T3 wc pb p/\p.sz/\M<=N+6/\Rd wc rb v len M/\A1.grownBy wc (some rb)/\pb<wc.heap.size)
  case first =>
   by_cases hk1:x1=3∨x1=4
   ·have g1:((1+x1:Int)==1)=false/\((1+x1:Int)==2)=false/\((1+x1:Int)==3)=false:=by simp;omega
    obtain⟨k1,k2,k3⟩:=g1;clear hk1;go_wp2_with fail;go_meet
    case rel=>exact⟨_,_,b2,a5,A4 _,b3.mono (by omega),a7,f8⟩
   ·by_cases hk2:x1=0
    ·clear hk1;obtain rfl:x1=0:=by omega
     go_wp2_with fail;refine (Ar rb len _ v Oz 2 _ 0 _ _ rfl (b3.alloc _) (by omega) (K8 X Oz 9) (by omega) (by omega) (by omega)).mono ?_;rintro e w4 ⟨⟨s2,i4,rfl⟩,b0,b7⟩;have e2:s2.size<=maxLen:=Y6 (ss:=Oz) (by decide) s2 i4;have a6:=(b2.kept (F4 (r:=none) (E2 X none) _) (by simp)).kept b7 (by simp;omega);have a8:=E0 (F4 a7 _) b7;clear b7;clear c0 c1 a0 c3 c4 c5 c6 c7 f0 f1 f2 f3 f4 f5 f6 f7;obtain⟨c0,c1,a0,c3,c4,c5,c6,c7⟩:=a6.cells;obtain⟨f0,f1,f2,f3,f4,f5,f6,f7⟩:=a6.frozen;simp only at c0 c1 a0 c3 c4 c5 c6 c7;go_wp2_with fail;refine (K2 rb len _ v 30 _ (b0.setCell (pb:=pb) (off:=3) (u:=Tz s2) (by omega)) (by omega)).mono ?_;rintro e w5 ⟨⟨x4,rfl,b8,a3⟩,b1,a4⟩;have b5:=a3 (by omega);have a2:=(a6.set3 s2).kept a4 (by simp;omega);have a9:=E0 (D9 a8 (pb:=pb) (off:=3) (by omega) (Tz s2)) a4;clear a4 a3 a6 a8 b0;clear c0 c1 a0 c3 c4 c5 c6 c7 f0 f1 f2 f3 f4 f5 f6 f7;obtain⟨c0,c1,a0,c3,c4,c5,c6,c7⟩:=a2.cells;obtain⟨f0,f1,f2,f3,f4,f5,f6,f7⟩:=a2.frozen;simp only at c0 c1 a0 c3 c4 c5 c6 c7;go_wp2_with fail;go_meet
     case rel=>exact⟨_,_,a2.set4 (1+x4),⟨hnm,hs,e2,Jw,Jw,by dsimp only;omega,by dsimp only;omega⟩,A4 _,(b1.setCell (pb:=pb) (off:=4) (u:=.int .i64 (1+x4)) (by omega)).mono (by omega),D9 a9 (pb:=pb) (off:=4) (by omega) (Iz (1+x4)),(a2.set4 (1+x4)).lt⟩
    by_cases hk3:x1=1
    ·clear hk1 hk2;obtain rfl:x1=1:=by omega
     go_wp2_with fail;refine (Pw rb len _ v _ b3 (by omega)).mono ?_;rintro e w4 ⟨⟨s2,rfl,e2⟩,b0,b7⟩;have a6:=b2.kept b7 (by simp;omega);have a8:=E0 a7 b7;clear b7;clear c0 c1 a0 c3 c4 c5 c6 c7 f0 f1 f2 f3 f4 f5 f6 f7;obtain⟨c0,c1,a0,c3,c4,c5,c6,c7⟩:=a6.cells;obtain⟨f0,f1,f2,f3,f4,f5,f6,f7⟩:=a6.frozen;simp only at c0 c1 a0 c3 c4 c5 c6 c7;cases hq:(s2.toList==s.toList)
     ·go_wp2_with fail;refine (K2 rb len _ v 30 _ (b0.setCell (pb:=pb) (off:=3) (u:=Tz s2) (by omega)) (by omega)).mono ?_;rintro e w5 ⟨⟨x4,rfl,b8,a3⟩,b1,a4⟩;have b5:=a3 (by omega);have a2:=(a6.set3 s2).kept a4 (by simp;omega);have a9:=E0 (D9 a8 (pb:=pb) (off:=3) (by omega) (Tz s2)) a4;clear a4 a3 a6 a8 b0;clear c0 c1 a0 c3 c4 c5 c6 c7 f0 f1 f2 f3 f4 f5 f6 f7;obtain⟨c0,c1,a0,c3,c4,c5,c6,c7⟩:=a2.cells;obtain⟨f0,f1,f2,f3,f4,f5,f6,f7⟩:=a2.frozen;simp only at c0 c1 a0 c3 c4 c5 c6 c7;go_wp2_with fail;go_meet
      case rel=>exact⟨_,_,a2.set4 (1+x4),⟨hnm,hs,e2,Jw,Jw,by dsimp only;omega,by dsimp only;omega⟩,A4 _,(b1.setCell (pb:=pb) (off:=4) (u:=.int .i64 (1+x4)) (by omega)).mono (by omega),D9 a9 (pb:=pb) (off:=4) (by omega) (Iz (1+x4)),(a2.set4 (1+x4)).lt⟩
     ·go_wp2_with fail;refine (K2 rb len _ v 30 _ ((b0.setCell (pb:=pb) (off:=3) (u:=Tz s2) (by omega)).setCell (pb:=pb) (off:=3) (u:=Tz ⟨#[118,97,116]⟩) (by omega)) (by omega)).mono ?_;rintro e w5 ⟨⟨x4,rfl,b8,a3⟩,b1,a4⟩;have b5:=a3 (by omega);have a2:=((a6.set3 s2).set3 ⟨#[118,97,116]⟩).kept a4 (by simp;omega);have a9:=E0 (D9 (D9 a8 (pb:=pb) (off:=3) (by omega) (Tz s2)) (pb:=pb) (off:=3) (by omega) (Tz ⟨#[118,97,116]⟩)) a4;clear a4 a3 a6 a8 b0;clear c0 c1 a0 c3 c4 c5 c6 c7 f0 f1 f2 f3 f4 f5 f6 f7;obtain⟨c0,c1,a0,c3,c4,c5,c6,c7⟩:=a2.cells;obtain⟨f0,f1,f2,f3,f4,f5,f6,f7⟩:=a2.frozen;simp only at c0 c1 a0 c3 c4 c5 c6 c7;go_wp2_with fail;go_meet
      case rel=>exact⟨_,_,a2.set4 (1+x4),⟨hnm,hs,Y6 (ss:=[⟨#[118,97,116]⟩]) (by decide) _ (by simp),Jw,Jw,by dsimp only;omega,by dsimp only;omega⟩,A4 _,(b1.setCell (pb:=pb) (off:=4) (u:=.int .i64 (1+x4)) (by omega)).mono (by omega),D9 a9 (pb:=pb) (off:=4) (by omega) (Iz (1+x4)),(a2.set4 (1+x4)).lt⟩
    ·have g1:x1=2:=by omega
     clear hk1 hk2 hk3;obtain rfl:x1=2:=by omega
     go_wp2_with fail;refine (K2 rb len _ v _ _ b3 (by omega)).mono ?_;rintro e w5 ⟨⟨x4,rfl,b8,a3⟩,b1,a4⟩;have b5:=a3 (by omega);have a2:=b2.kept a4 (by simp;omega);have a9:=E0 a7 a4;clear a4 a3;clear c0 c1 a0 c3 c4 c5 c6 c7 f0 f1 f2 f3 f4 f5 f6 f7;obtain⟨c0,c1,a0,c3,c4,c5,c6,c7⟩:=a2.cells;obtain⟨f0,f1,f2,f3,f4,f5,f6,f7⟩:=a2.frozen;simp only at c0 c1 a0 c3 c4 c5 c6 c7;go_wp2_with fail;go_meet
     case rel=>exact⟨_,_,a2.set4 (1+x4),⟨hnm,hs,Jw,Jw,Jw,by dsimp only;omega,by dsimp only;omega⟩,A4 _,(b1.setCell (pb:=pb) (off:=4) (u:=.int .i64 (1+x4)) (by omega)).mono (by omega),D9 a9 (pb:=pb) (off:=4) (by omega) (Iz (1+x4)),(a2.set4 (1+x4)).lt⟩
  case rest =>
   obtain⟨p,M,b2,a5,hM,b3,a7,f8⟩:=hcut;obtain⟨X,rfl⟩:∃X,X=wc:=⟨_,rfl⟩;have j1:w.heap.size+1<=X.heap.size:=by have:=a7.size;omega
   go_wp2_with (at_builtin;refine wpList_append_own _ rfl _ _ 23 rfl X.heap.size 9 ii _ 1 16 underlying23 hi h3 h4 h5 rfl (by decide) _ _ _ rfl (C0 _ _ 3 (A4 _) (by unfold maxLen;omega) rfl) ⟨g2,o2,none⟩ n2 c2 (later.map Value.string) rfl (by simp[hl2]) (S0 ((g0.kept a7 hg2).alloc _)) (CJ later) (by unfold maxLen;omega) (by omega) (by simp) ?_)
   intro v' w4 hown4 a1 _;clear c0 c1 a0 c3 c4 c5 c6 c7 f0 f1 f2 f3 f4 f5 f6 f7;obtain⟨g3,h6,rfl⟩:=I6 hown4 (by omega);have e3:F9 w4 g3 0 (ES++later):=GM (ss:=ES++later) (by simpa [ES] using hown4) (by simp[ES,hl2];omega);have e4:=(hown4.lt g3 rfl).1;have a1:(X.alloc (Kz [Tz ⟨#[103,111,111,100]⟩,Tz ⟨#[115,97,118,101,100]⟩,Tz ⟨#[115,99,114,97,112,112,101,100]⟩] 9)).grownBy w4 (some X.heap.size):=a1;have b0:=(b3.alloc (Kz [Tz ⟨#[103,111,111,100]⟩,Tz ⟨#[115,97,118,101,100]⟩,Tz ⟨#[115,99,114,97,112,112,101,100]⟩] 9)).row a1 (by have:=a7.size;omega);have a6:=(b2.kept (F4 (r:=none) (E2 X none) (Kz [Tz ⟨#[103,111,111,100]⟩,Tz ⟨#[115,97,118,101,100]⟩,Tz ⟨#[115,99,114,97,112,112,101,100]⟩] 9)) (by simp)).kept a1 (by simp;omega);have a8:=I3 (F4 a7 (Kz [Tz ⟨#[103,111,111,100]⟩,Tz ⟨#[115,97,118,101,100]⟩,Tz ⟨#[115,99,114,97,112,112,101,100]⟩] 9)) a1 (by have:=a7.size;omega);have j2:rb<X.heap.size:=by omega
   clear hown4 a1 b3 b2 a7;go_wp2_with fail;refine (Ar rb len _ v (ES++later) _ g3 0 _ _ (by simp[ES,hl2];omega) b0 (by omega) e3 (by omega) (by omega) (by omega)).mono ?_;rintro e w5 ⟨⟨s3,i5,rfl⟩,b1,a4⟩;have a2:=a6.kept a4 (by simp;omega);have g4:=e3.kept a4 (by omega);have a9:=E0 a8 a4;clear a6 e3 a8 a4 b0;obtain⟨c0,c1,a0,c3,c4,c5,c6,c7⟩:=a2.cells;obtain⟨f0,f1,f2,f3,f4,f5,f6,f7⟩:=a2.frozen;go_wp2_with fail;refine (Ar rb len _ v (ES++later) _ g3 0 _ _ (by simp[ES,hl2];omega) (b1.setCell (pb:=pb) (off:=6) (u:=Tz s3) (by omega)) (by omega) (g4.other (by omega)) (by omega) (by omega) (by omega)).mono ?_;rintro e w6 ⟨⟨s4,i6,rfl⟩,e6,e7⟩;have e0:=(a2.set6 s3).kept e7 (by simp;omega);have b9:=E0 (D9 a9 (pb:=pb) (off:=6) (by omega) (Tz s3)) e7;have g5:s3.size<=maxLen:=TS hsz s3 i5;have e5:s4.size<=maxLen:=TS hsz s4 i6;clear a2 g4 a9 e7 b1 c0 c1 a0 c3 c4 c5 c6 c7 f0 f1 f2 f3 f4 f5 f6 f7;obtain⟨c0,c1,a0,c3,c4,c5,c6,c7⟩:=e0.cells;obtain⟨f0,f1,f2,f3,f4,f5,f6,f7⟩:=e0.frozen;simp only at c0 c1 a0 c3 c4 c5 c6 c7;by_cases h0:n2=0
   ·obtain⟨d0,d1,d2,d3,d4,d5,d6,d7⟩:=(b4.kept b9 (by simp;omega)).cells;obtain⟨r0,r1,r2,r3,r4,r5,r6,r7⟩:=(b4.kept b9 (by simp;omega)).frozen;simp only at d0 d1 d2 d3 d4 d5 d6 d7;have h9:¬pb=w.heap.size:=by omega
    have i0:¬w.heap.size=pb:=by omega
    subst h0;go_wp2_with fail;refine bodyPost_ret (Cb (rk:=w.heap.size) (p:={p with t:=s3,e:=s4}) results64 ?ht ?hZ) rfl ?_
    case ht=>rfl
    case hZ=>exact T3.copy ((b4.kept b9 (by simp;omega)).other (qb:=pb) (j:=7) (u:=Tz s4) (by omega)) ({p with t:=s3,e:=s4})
    exact⟨⟨{p with t:=s3,e:=s4},rfl,⟨a5.1,a5.2.1,a5.2.2.1,g5,e5,a5.2.2.2.2.2⟩⟩,(((((((((e6.setCell (by omega)).setCell (by omega)).setCell (by omega)).setCell (by omega)).setCell (by omega)).setCell (by omega)).setCell (by omega)).setCell (by omega)).setCell (by omega)).mono (by omega),D9 (D9 (D9 (D9 (D9 (D9 (D9 (D9 (E0 d9 (D9 b9 (by omega) _)) (by omega) _) (by omega) _) (by omega) _) (by omega) _) (by omega) _) (by omega) _) (by omega) _) (by omega) _⟩
   ·have i1:0<n2:=by omega
    clear h0;go_wp2_with fail;refine (K2 rb len _ v 4 _ (e6.setCell (pb:=pb) (off:=7) (u:=Tz s4) (by omega)) (by omega)).mono ?_;rintro e w7 ⟨⟨x3,rfl,i7,e8⟩,h2,e9⟩;clear e8;have g6:=(e0.set7 s4).kept e9 (by simp;omega);have b6:=E0 (D9 b9 (pb:=pb) (off:=7) (by omega) (Tz s4)) e9;clear e0 e6 b9 e9 c0 c1 a0 c3 c4 c5 c6 c7 f0 f1 f2 f3 f4 f5 f6 f7;obtain⟨c0,c1,a0,c3,c4,c5,c6,c7⟩:=g6.cells;obtain⟨f0,f1,f2,f3,f4,f5,f6,f7⟩:=g6.frozen;obtain⟨d0,d1,d2,d3,d4,d5,d6,d7⟩:=(b4.kept b6 (by simp;omega)).cells;obtain⟨r0,r1,r2,r3,r4,r5,r6,r7⟩:=(b4.kept b6 (by simp;omega)).frozen;simp only at c0 c1 a0 c3 c4 c5 c6 c7 d0 d1 d2 d3 d4 d5 d6 d7;have h9:¬pb=w.heap.size:=by omega
    have i0:¬w.heap.size=pb:=by omega
    have j3:At w7 g2 o2 (Tz (later[0]'(by omega))):=by
     have:=(g0.kept b6 hg2) 0 (later[0]'(by omega)) (by simp);simpa using this
    by_cases hx3:0<x3
    ·go_wp2_with fail;refine bodyPost_ret (Cb (rk:=w.heap.size) (p:={p with t:=later[0]'(by omega),e:=s4}) results64 ?ht ?hZ) rfl ?_
     case ht=>rfl
     case hZ=>exact T3.copy ((b4.kept b6 (by simp;omega)).other (qb:=pb) (j:=6) (u:=Tz (later[0]'(by omega))) (by omega)) ({p with t:=later[0]'(by omega),e:=s4})
     exact⟨⟨{p with t:=later[0]'(by omega),e:=s4},rfl,⟨a5.1,a5.2.1,a5.2.2.1,hsz _ (by simp),e5,a5.2.2.2.2.2⟩⟩,(((((((((h2.setCell (by omega)).setCell (by omega)).setCell (by omega)).setCell (by omega)).setCell (by omega)).setCell (by omega)).setCell (by omega)).setCell (by omega)).setCell (by omega)).mono (by omega),D9 (D9 (D9 (D9 (D9 (D9 (D9 (D9 (E0 d9 (D9 b6 (by omega) _)) (by omega) _) (by omega) _) (by omega) _) (by omega) _) (by omega) _) (by omega) _) (by omega) _) (by omega) _⟩
    ·go_wp2_with fail;refine bodyPost_ret (Cb (rk:=w.heap.size) (p:={p with t:=s3,e:=s4}) results64 ?ht ?hZ) rfl ?_
     case ht=>rfl
     case hZ=>exact T3.copy (b4.kept b6 (by simp;omega)) ({p with t:=s3,e:=s4})
     exact⟨⟨{p with t:=s3,e:=s4},rfl,⟨a5.1,a5.2.1,a5.2.2.1,g5,e5,a5.2.2.2.2.2⟩⟩,(((((((((h2).setCell (by omega)).setCell (by omega)).setCell (by omega)).setCell (by omega)).setCell (by omega)).setCell (by omega)).setCell (by omega)).setCell (by omega)).mono (by omega),D9 (D9 (D9 (D9 (D9 (D9 (D9 (D9 (E0 d9 b6) (by omega) _) (by omega) _) (by omega) _) (by omega) _) (by omega) _) (by omega) _) (by omega) _) (by omega) _⟩
end Go.Proofs.YtmonodehegcfhaaGreatDoor
