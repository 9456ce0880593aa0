/- Drawing for the share: a book that is spoilt: its walk. -/
import Derived.Test.YtmonodehegcfhaaGreatDoorDn9
import Derived.Test.YtmonodehegcfhaaGreatDoorJ37
namespace Go.Proofs.YtmonodehegcfhaaGreatDoor
open Go.Proofs.Tryz
open Go.RowKit
variable{b:Bk}{p':Bv}{s:BA}{ps:List Bv}{ss ts:List BA}{N k len q rb:Nat}{tv v xv:Value}{W w:World}
def Jp:List BA:=[⟨#[]⟩,⟨#[65]⟩,⟨#[97]⟩,⟨#[122,122]⟩]
def Jq:List BA:=[⟨#[]⟩,⟨#[66]⟩,⟨#[122,122]⟩,⟨#[97]⟩]
def DF:List BA:=[⟨#[]⟩,⟨#[122,122]⟩,⟨#[107,101,103]⟩,⟨#[119]⟩]
theorem Vn(n:Int)(w:World)(h0:0<=n)(h1:n<100):
  Calls prog 160 #[Iz n] w λe w'=>(∃s:BA,e=.returned (Tz s)/\s.size<=20)/\Up w w':=by
 go_in;go_wp2_with fail;refine (MJ n _ h0 h1).mono ?_;rintro e w1 ⟨⟨s,rfl,hs⟩,hb⟩;go_wp2_with fail;go_ret;exact⟨⟨s,rfl,hs⟩,hb⟩
theorem EO(ht:∀s∈ts,s.size<=maxLen)(htl:ts.length<=50)(hpl:ps.length<=50)(hp:∀p∈ps,p.1.nm.size<=maxLen/\p.1.has.length<=50/\p.1.nj.length<=50/\(∀s∈p.1.has,s.size<=maxLen)/\∀s∈p.1.nj,s.size<=maxLen):Y0 ⟨ts,ps.map (·.1)⟩/\Md ⟨ts,ps.map (·.1)⟩:=by
 have hm:∀x∈ps.map (·.1),∃p∈ps,p.1=x:=λx hx=>by simpa using List.mem_map.1 hx
 refine⟨⟨ht,λx hx=>?_⟩,htl,by simpa using hpl,λx hx=>?_⟩
 ·obtain⟨p,a0,rfl⟩:=hm x hx;exact (hp p a0).2.2.2
 ·obtain⟨p,a0,rfl⟩:=hm x hx;exact⟨(hp p a0).2.1,(hp p a0).2.2.1⟩
theorem Jy.loose(h:Jy ps):∀p∈ps,p.1.nm.size<=maxLen/\p.1.has.length<=50/\p.1.nj.length<=50/\(∀s∈p.1.has,s.size<=maxLen)/\∀s∈p.1.nj,s.size<=maxLen:=λp hp=>by
 obtain⟨h1,h2,h3,h4⟩:=h p hp;exact⟨h1,by omega,by omega,h4⟩
theorem Jy.set(h:Jy ps)(h':p'.1.nm.size<=maxLen/\p'.1.has.length<=50/\p'.1.nj.length<=50/\(∀s∈p'.1.has,s.size<=maxLen)/\∀s∈p'.1.nj,s.size<=maxLen):
  ∀p∈ps.set k p',p.1.nm.size<=maxLen/\p.1.has.length<=50/\p.1.nj.length<=50/\(∀s∈p.1.has,s.size<=maxLen)/\∀s∈p.1.nj,s.size<=maxLen:=λp hp=>by
 rcases List.mem_or_eq_of_mem_set hp with hp|rfl
 ·exact h.loose p hp
 ·exact h'
theorem MN(h:∀t∈ss,t.size<=maxLen)(hs:s.size<=maxLen):∀t∈ss++[s],t.size<=maxLen:=λt ht=>by
 rcases D0.1 ht with h1|h1
 ·exact h t h1
 ·obtain rfl:t=s:=by simpa using h1
  exact hs
theorem XF.parts(h:XF w W rb len N q v tv xv b):∃a1 c1 a2 c2,tv=Vz a1 b.tg.length c1/\xv=Vz a2 b.bs.length c2:=by
 obtain⟨a1,c1,a2,c2,_,e,_⟩:=h.bk.parts;simp at e;exact⟨a1,c1,a2,c2,e.1,e.2⟩
theorem XF.fin{M:Nat}(h:XF w W rb len N q v tv xv b)(hrb:rb<w.heap.size)(hM:N<=M):
  (∃(u:Value)(b':Bk),Ending.returned (.agg #[tv,xv])=.returned u/\Gk ((W.setCell ⟨w.heap.size+1,0,none⟩ tv).setCell ⟨w.heap.size+1,1,none⟩ xv) w.heap.size u b')/\
  Rd ((W.setCell ⟨w.heap.size+1,0,none⟩ tv).setCell ⟨w.heap.size+1,1,none⟩ xv) rb v len M/\w.grownBy ((W.setCell ⟨w.heap.size+1,0,none⟩ tv).setCell ⟨w.heap.size+1,1,none⟩ xv) (some rb) :=
 ⟨⟨_,b,rfl,((h.bk.set (by omega)).set (by omega)).low (by omega),h.z⟩,((h.rd.setCell (by omega)).setCell (by omega)).mono hM,D9 (D9 h.g (by omega) _) (by omega) _⟩
set_option maxRecDepth 20000 in
set_option maxHeartbeats 4000000 in
theorem QX(rb len N B:Nat)(v bkv:Value)(b:Bk)(w:World)(hR:Rd w rb v len N)(hN:N<=800000)(hD:Dk w B bkv b):
  Calls prog 117 #[Pz rb 0,bkv] w
   λe w'=>(∃(u:Value)(b':Bk),e=.returned u/\Gk w' w.heap.size u b')/\Rd w' rb v len (N+20)/\w.grownBy w' (some rb):=by
 have b2:=hR.lt;have f3:=hD.bk;obtain⟨-,d7,k0,i5,d8⟩:=hD;obtain⟨a1,c1,a2,c2,rfl,-,-⟩:=f3.parts;obtain⟨is,e5,e6,e7,e8⟩:=info_parts V7;obtain⟨ib,f7,f8,f9,g2⟩:=info_parts Cs;go_in;go_upto_region 1 with fail;obtain⟨W1,g3,kA,kR,d9,i6⟩:=cbE2 w [Vz a1 b.tg.length c1,Vz a2 b.bs.length c2] 26 [Nz,Nz] 26;rw[g3];clear g3;obtain⟨e0,e1⟩:=kA.c2';have hk:=f3.up d9;have d0:w.heap.size+2<=W1.heap.size:=by omega
 clear f3 i6;go_wp2_with fail;refine (Uw b _ _ hk (by omega) (by omega) (λy hy=>by have:=d8 y hy;omega)).mono ?_;rintro e w2 ⟨⟨a3,c3,a4,c4,ps,rfl,x2,x3,hF⟩,c9⟩;have hl:b.bs.length=ps.length:=by rw[← x3,B5]
 have kR:=kR.up c9 kR.2.2;have g9:=(hR.kept d9).kept c9;have h2:=E0 (L2 (r:=some rb) d9) (L2 c9);have j2:=c9.size;rw[hl];rw[hl] at x2
 have h3:Jy ps:=λp hp=>by
  have hm:p.1∈b.bs:=by rw[← x3];exact List.mem_map_of_mem hp
  exact⟨(x2.2 p hp).2.2,(d8 _ hm).1,(d8 _ hm).2,(d7.2 _ hm).1,(d7.2 _ hm).2⟩
 have h4:=d7.1;have j3:ps.length<=40:=by omega
 clear e0 e1 kA hk d9 c9 x3 hl i5 d8 d7 hR;generalize b.tg=ts at *;go_upto_region 2 with fail;obtain⟨W3,g4,kX,d4,i7⟩:=cbE1 w2 [(Vz a3 ts.length c3),(Vz a4 ps.length c4)] 26;rw[g4]
 have Q3:SQ w W3 rb len N w2.heap.size v (Vz a3 ts.length c3) (Vz a4 ps.length c4) ts ps :=
  ⟨kR.up d4 kR.2.2,kX,g9.kept d4,E0 h2 (L2 d4),I8 (E4 x2.1 d4) d0,((hF.avoid (A4 _)).up d4).low d0,λm hm e=>by
   have h1:=(x2.1.lt m hm).2;have:m=w2.heap.size:=by simpa using e
   omega,by omega⟩
 clear g4 kX d4 i7 kR g9 h2 j2 x2 hF d0;generalize w2.heap.size=q at *;have Hpz:Hid (Jy ps):=h3;have Htz:Hid (∀s∈ts,s.size<=maxLen):=h4;clear h3 h4;go_cut [19] (λc19 wc=>∃(M:Nat)(c:Bool),c19=.bool c/\M<=N+1/\(c=false->0<ps.length)/\SQ w wc rb len M q v (Vz a3 ts.length c3) (Vz a4 ps.length c4) ts ps)
 case first =>
  obtain⟨z0,z1⟩:=Q3.x.c2';by_cases h0:ps.length=0
  ·have j4:((ps.length:Int)==0)=true:=by simp[h0]
   clear h0;go_wp2_with fail;go_meet
   case rel=>exact⟨N,true,rfl,by omega,λh=>(by cases h),Q3⟩
  ·have j4:((ps.length:Int)==0)=false:=by rw[beq_eq_false_iff_ne];omega
   have Hp0:Hid (0<ps.length):=(by omega:0<ps.length);clear h0;go_wp2_with fail;refine (Er rb len _ v 4 _ Q3.rd (by omega)).mono ?_;rintro e w4 ⟨⟨x,rfl,-,-⟩,h5,h6⟩;have Q4:=Q3.gr b2 h6 h5;clear Q3 h5 h6 z0 z1;go_wp2_with fail;go_meet
   case rel=>exact⟨_,_,rfl,by omega,λ_=>Hp0.out,Q4⟩
 case rest =>
  obtain⟨M,c,rfl,hM,hc,Q4⟩:=hcut;clear Q3;cases c
  case true =>
   clear hc;have d1:=Q4.rd.lt;have f1:=Q4.qz;have a0:At wc.drew q 0 (Vz a3 ts.length c3):=Q4.x.c2'.1;have QA:=Q4.drew.alloc (.cells (Jp.map Value.string).toArray 9);have b3:World.cell? (wc.drew.alloc (.cells (Jp.map Value.string).toArray 9)) ⟨q,0,none⟩=some (Vz a3 ts.length c3):=QA.x.c2'.1;have a9:F9 (wc.drew.alloc (.cells (Jp.map Value.string).toArray 9)) wc.heap.size 0 Jp:=K8 wc.drew Jp 9;go_wp2_with fail;refine F5 8 (λw'=>At w' q 0 (Vz a3 ts.length c3)) (by kernel_rfl) ?_;refine D6 0 rfl a0 ?_;refine D6 1 rfl a0 ?_;refine D6 2 rfl a0 ?_;refine E7 3 rfl (λK hK=>?_);go_simp;refine E6 hK b3 ?_;clear hK K;refine E7 4 rfl (λK hK=>?_);go_simp;go_wp2_with (go_at_call 159;refine (Jm rb len _ v Jp 4 wc.heap.size 0 4 _ rfl QA.rd (by omega) a9 (by omega) (by omega) (by omega)).mono ?_;rintro e wN ⟨⟨s9,b7,rfl⟩,b8,c0⟩;have QN:=QA.gr b2 c0 b8;have b1:s9.size<=maxLen:=Y6 (ss:=Jp) (by decide) s9 b7;have b5:At wN q 0 (Vz a3 ts.length c3):=QN.x.c2'.1)
   clear QA Q4 c0 b8 a9 b7;refine E6 hK b5 ?_;clear hK K;have QB:=QN.alloc (Kz [Tz s9] 9);have c8:At (wN.alloc (Kz [Tz s9] 9)) q 0 (Vz a3 ts.length c3):=QB.x.c2'.1;have d5:=QB.z;have a8:=QB.head;refine E7 5 rfl (λK hK=>?_);go_simp;refine E6 hK c8 ?_;clear hK K;refine E7 6 rfl (λK hK=>?_);refine Bm rfl _ _ 23 rfl (w.heap.size+2) 9 is _ 1 16 underlying23 e5 e6 e7 e8 rfl (by decide) _ _ _ rfl a8 ⟨wN.heap.size,0,none⟩ 1 1 [Tz s9] rfl rfl (AD _ _ _) (DG s9) (by omega) (by unfold maxLen;omega) (by omega) d5 ?_;intro v' wP hownP hgrP hwhP;have hO:F7 wP (w.heap.size+2) v' (ts++[s9]):=by unfold F7;simpa using hownP
   have b6:At wP q 0 (Vz a3 ts.length c3):=(QB.x.kept hgrP λe=>QB.fam.av ((Vz a3 ts.length c3),ts) (by simp) q e.symm rfl).c2'.1;have QT:=QB.tg b2 hgrP hO hwhP;have kP:=QB.x.kept hgrP λe=>QB.fam.av ((Vz a3 ts.length c3),ts) (by simp) q e.symm rfl;obtain⟨⟨j0,j1⟩,m0,m1⟩:=kP.c2;obtain⟨aP,cP,rfl⟩:=hO.lst.shape;have f4:(ts++[s9]).length<=50:=by simp;omega
   have Hts9:Hid (∀s∈ts++[s9],s.size<=maxLen):=MN Htz.out b1;clear QN QB a8 hgrP hownP hwhP b5 c8 hO kP;generalize ts++[s9]=ts9 at *;refine E6 hK b6 ?_;clear hK K;refine D6 7 rfl b6 ?_;refine E7 8 rfl (λK hK=>?_);go_simp;refine Bf hK ?_;clear hK K;refine F0 (by kernel_rfl) ?_ _;clear a0 b3 b6 j0 j1 m0 m1;generalize wP.setCell ⟨q,0,none⟩ (Vz aP ts9.length cP)=wT at *;have hX:=QT.fin (λp hp=>(Hpz.out p hp).1) (EO Hts9.out f4 (by omega) Hpz.out.loose);have kR:=QT.r;obtain⟨j0,j1⟩:=QT.x.c2';obtain⟨⟨y0,y1⟩,g0,g1⟩:=kR.c2;clear QT;go_wp2_with fail;refine FM results117 underlying26 rfl M5 kR rfl ?_;exact hX.fin b2 (by omega)
  case false =>
   have j5:=hc rfl;clear hc;obtain⟨z0,z1⟩:=Q4.x.c2';go_wp2_with fail;refine (Er rb len _ v _ _ Q4.rd (by omega)).mono ?_;rintro e w5 ⟨⟨y,rfl,j9,h7⟩,h8,h9⟩;have j6:=h7 (by omega);obtain⟨k,rfl⟩:∃k:Nat,y=(k:Int):=⟨y.toNat,by omega⟩;have hk:k<ps.length:=by omega
   have Q5:=Q4.gr b2 h9 h8;clear Q4 h8 h9 j9 h7 j6 z0 z1;go_upto_region 6 with fail;go_cut [35] (λv35 wc=>∃(M:Nat)(x:Int),v35=.int .i64 x/\0<=x/\M<=N+5/\SQ w wc rb len M q v (Vz a3 ts.length c3) (Vz a4 ps.length c4) ts ps)
   case first =>
    go_wp2_with fail;refine (Er rb len _ v 5 _ Q5.rd (by omega)).mono ?_;rintro e w8 ⟨⟨x,rfl,e9,-⟩,i0,i1⟩;have Q8:=Q5.gr b2 i1 i0;clear Q5 i0 i1;go_wp2_with fail;go_meet
    case rel=>exact⟨_,x,rfl,e9,by omega,Q8⟩
   case rest =>
    obtain⟨M8,x,rfl,e9,k1,Q8⟩:=hcut;clear Q5;obtain⟨gg,cg,g5⟩:=I6 Q8.row (by omega);obtain⟨rfl,-,rfl⟩:=Value.slice.inj g5;clear g5;obtain⟨⟨x0,hv,nv⟩,hp⟩:∃p:Bv,ps[k]?=some p:=⟨_,A0 hk⟩;obtain⟨g6,e2,e3,g7,g8⟩:=Hpz.out _ (A7 hp);have e2:x0.has.length<=40:=e2;have e3:x0.nj.length<=40:=e3;have Hfm:=CQ (A7 hp);obtain⟨ah,ch,i8⟩:=(show F7 wc (w.heap.size+2) hv x0.has from Q8.fam.own _ (C7 _ Hfm.1)).lst.shape;obtain⟨an,cn,i9⟩:=(show F7 wc (w.heap.size+2) nv x0.nj from Q8.fam.own _ (C7 _ Hfm.2)).lst.shape;subst i8 i9;have Hp:Hid (ps[k]?=some ((x0,Vz ah x0.has.length ch,Vz an x0.nj.length cn):Bv)):=hp;have HM:Hid ((Vz ah x0.has.length ch,x0.has)∈((Vz a3 ts.length c3),ts)::N0 ps/\(Vz an x0.nj.length cn,x0.nj)∈((Vz a3 ts.length c3),ts)::N0 ps):=⟨C7 _ Hfm.1,C7 _ Hfm.2⟩;have Hp3:Hid ((∀s∈x0.has,s.size<=maxLen)/\∀s∈x0.nj,s.size<=maxLen):=⟨g7,g8⟩;have Hp0:Hid (x0.nm.size<=maxLen):=g6;clear hp g7 g8 Hfm g6;apply_assumption
    go_cut [7,8,55,65,83,101] (λ_ _ _ _ _ _ wc=>∃(M:Nat)(tv xv:Value)(b':Bk),M<=N+20/\XF w wc rb len M q v tv xv b')
    case first =>
     rcases (by omega:x=0∨x=1∨x=2∨x=3∨4<=x) with hx|hx|hx|hx|hx
     ·subst hx;have a0:At wc.drew q 1 (Sz gg ps.length c4):=Q8.x.c2'.2;have QA:=Q8.drew.alloc (.cells (Jq.map Value.string).toArray 9);have b3:World.cell? (wc.drew.alloc (.cells (Jq.map Value.string).toArray 9)) ⟨q,1,none⟩=some (Sz gg ps.length c4):=QA.x.c2'.2;have a9:F9 (wc.drew.alloc (.cells (Jq.map Value.string).toArray 9)) wc.heap.size 0 Jq:=K8 wc.drew Jq 9;have d1:=Q8.rd.lt;go_wp2_with fail;refine F5 8 (λw'=>At w' q 1 (Sz gg ps.length c4)) (by kernel_rfl) ?_;refine D6 0 rfl a0 ?_;refine D6 1 rfl a0 ?_;refine D6 2 rfl a0 ?_;refine D6 3 rfl a0 ?_;refine E7 4 rfl (λK hK=>?_);go_simp;refine E6 hK b3 ?_;clear hK K;refine E7 5 rfl (λK hK=>?_);go_simp;go_wp2_with (go_at_call 159;refine (Jm rb len _ v Jq 4 wc.heap.size 0 4 _ rfl QA.rd (by omega) a9 (by omega) (by omega) (by omega)).mono ?_;rintro e wN ⟨⟨s9,b7,rfl⟩,b8,c0⟩;have QN:=QA.gr b2 c0 b8;have b1:s9.size<=maxLen:=Y6 (ss:=Jq) (by decide) s9 b7;have b5:At wN q 1 (Sz gg ps.length c4):=QN.x.c2'.2)
      clear QA Q8 c0 b8 a9 b7;refine E6 hK b5 ?_;clear hK K;have r0:=(QN.row.cellAt (k*3) (by omega)).trans (V0 ps k _ Hp.out 0 _ rfl);have f0:=QN.row.frozenAt (k*3);refine E7 6 rfl (λK hK=>?_);go_simp;refine E6 hK b5 ?_;clear hK K;refine D6 7 rfl b5 ?_;refine E7 8 rfl (λK hK=>?_);go_simp;refine Bf hK ?_;clear hK K;refine F0 (by kernel_rfl) ?_ _;have QT:=QN.store b2 rfl (k*3) (Tz s9) (List.length_set ..) (Mp ps k _ ⟨s9,x0.has,x0.nj⟩ Hp.out) (NF ps k _ s9 Hp.out);have b0:=Hpz.out.set (k:=k) (p':=((⟨s9,x0.has,x0.nj⟩,Vz ah x0.has.length ch,Vz an x0.nj.length cn):Bv)) ⟨b1,by show x0.has.length<=50;omega,by show x0.nj.length<=50;omega,Hp3.out⟩;have hX:=QT.fin (λy hy=>(b0 y hy).1) (EO Htz.out (by omega) (by rw[List.length_set];omega) b0);clear b0;clear QT QN a0 b3 b5 r0 f0;go_wp2_with fail;go_meet
      case rel=>exact⟨_,_,_,_,by omega,hX⟩
     ·subst hx;have HS:Hid (∀(W:World)(M:Nat),SQ w W rb len M q v (Vz a3 ts.length c3) (Sz gg ps.length c4) ts ps->(At W q 1 (Sz gg ps.length c4)/\At W gg (k*3+2) (Vz an (x0.nj).length cn))):=λW M Q=>⟨Q.x.c2'.2,(Q.row.cellAt (k*3+2) (by omega)).trans (V0 ps k _ Hp.out 2 _ rfl)⟩;have a0:=HS.out _ _ Q8.drew;have QA:=Q8.drew.alloc (.cells (DF.map Value.string).toArray 9);have b3:=HS.out _ _ QA;have a9:F9 (wc.drew.alloc (.cells (DF.map Value.string).toArray 9)) wc.heap.size 0 DF:=K8 wc.drew DF 9;have d1:=Q8.rd.lt;go_wp2_with fail;refine F5 16 (λw'=>(At w' q 1 (Sz gg ps.length c4)/\At w' gg (k*3+2) (Vz an (x0.nj).length cn))) (by kernel_rfl) ?_;refine D6 0 rfl a0 ?_;refine D6 1 rfl a0 ?_;refine D6 2 rfl a0 ?_;refine D6 3 rfl a0 ?_;refine D6 4 rfl a0 ?_;refine D6 5 rfl a0 ?_;refine D6 6 rfl a0 ?_;refine D6 7 rfl a0 ?_;refine D6 8 rfl a0 ?_;refine D6 9 rfl a0 ?_;refine E7 10 rfl (λK hK=>?_);go_simp;refine E6 hK b3 ?_;clear hK K;refine E7 11 rfl (λK hK=>?_);go_simp;go_wp2_with (go_at_call 159;refine (Jm rb len _ v DF 4 wc.heap.size 0 4 _ rfl QA.rd (by omega) a9 (by omega) (by omega) (by omega)).mono ?_;rintro e wN ⟨⟨s9,b7,rfl⟩,b8,c0⟩;have QN:=QA.gr b2 c0 b8;have b1:s9.size<=maxLen:=Y6 (ss:=DF) (by decide) s9 b7;have b5:=HS.out _ _ QN)
      clear QA Q8 c0 b8 a9 b7 b3;refine E6 hK b5 ?_;clear hK K;have QB:=QN.alloc (Kz [Tz s9] 9);have c8:=HS.out _ _ QB;have d5:=QB.z;have a8:F7 (wN.alloc (Kz [Tz s9] 9)) (w.heap.size+2) (Vz an x0.nj.length cn) x0.nj:=QB.fam.own _ HM.out.2;refine E7 12 rfl (λK hK=>?_);go_simp;refine E6 hK c8 ?_;clear hK K;refine E7 13 rfl (λK hK=>?_);refine Bm rfl _ _ 23 rfl (w.heap.size+2) 9 is _ 1 16 underlying23 e5 e6 e7 e8 rfl (by decide) _ _ _ rfl a8 ⟨wN.heap.size,0,none⟩ 1 1 [Tz s9] rfl rfl (AD _ _ _) (DG s9) (by omega) (by unfold maxLen;omega) (by omega) d5 ?_;intro v' wP hownP hgrP hwhP;have hO:F7 wP (w.heap.size+2) v' (x0.nj++[s9]):=by unfold F7;simpa using hownP
      obtain⟨-,eX,-,-,eR⟩:=QB.list b2 a8 (λe=>QB.fam.av _ HM.out.2 q e.symm rfl) hgrP;have r2:=(eR.cellAt (k*3+2) (by omega)).trans (V0 ps k _ Hp.out 2 _ rfl);have f2:=eR.frozenAt (k*3+2);have b6:(At wP q 1 (Sz gg ps.length c4)/\At wP gg (k*3+2) (Vz an (x0.nj).length cn)):=⟨eX.c2'.2,r2⟩;have QT:=QB.nj b2 Hp.out rfl hgrP hO hwhP;obtain⟨aP,cP,rfl⟩:=hO.lst.shape;have d6:(x0.nj++[s9]).length<=50:=by simp;omega
      have H9:Hid (∀s∈x0.nj++[s9],s.size<=maxLen):=MN Hp3.out.2 b1;clear QN QB a8 hgrP hownP hwhP b5 c8 hO eX eR b1;generalize x0.nj++[s9]=l9 at *;refine E6 hK b6 ?_;clear hK K;refine E7 14 rfl (λK hK=>?_);go_simp;refine E6 hK b6 ?_;clear hK K;refine D6 15 rfl b6 ?_;refine E7 16 rfl (λK hK=>?_);go_simp;refine Bf hK ?_;clear hK K;refine F0 (by kernel_rfl) ?_ _;have b0:=Hpz.out.set (k:=k) (p':=((⟨x0.nm,x0.has,l9⟩,Vz ah x0.has.length ch,Vz aP l9.length cP):Bv)) ⟨Hp0.out,by first|exact d6|(show x0.has.length<=50;omega),by first|exact d6|(show x0.nj.length<=50;omega),by first|exact H9.out|exact Hp3.out.1,by first|exact H9.out|exact Hp3.out.2⟩;have hX:=QT.fin (λy hy=>(b0 y hy).1) (EO Htz.out (by omega) (by rw[List.length_set];omega) b0);clear QT b0 a0 b6 r2 f2 HS;go_wp2_with fail;go_meet
      case rel=>exact⟨_,_,_,_,by omega,hX⟩
     ·subst hx;have HS:Hid (∀(W:World)(M:Nat),SQ w W rb len M q v (Vz a3 ts.length c3) (Sz gg ps.length c4) ts ps->(At W q 1 (Sz gg ps.length c4)/\At W gg (k*3+1) (Vz ah (x0.has).length ch))):=λW M Q=>⟨Q.x.c2'.2,(Q.row.cellAt (k*3+1) (by omega)).trans (V0 ps k _ Hp.out 1 _ rfl)⟩;have a0:=HS.out _ _ Q8.drew;have QA:=Q8.drew.alloc (.cells (DF.map Value.string).toArray 9);have b3:=HS.out _ _ QA;have a9:F9 (wc.drew.alloc (.cells (DF.map Value.string).toArray 9)) wc.heap.size 0 DF:=K8 wc.drew DF 9;have d1:=Q8.rd.lt;go_wp2_with fail;refine F5 16 (λw'=>(At w' q 1 (Sz gg ps.length c4)/\At w' gg (k*3+1) (Vz ah (x0.has).length ch))) (by kernel_rfl) ?_;refine D6 0 rfl a0 ?_;refine D6 1 rfl a0 ?_;refine D6 2 rfl a0 ?_;refine D6 3 rfl a0 ?_;refine D6 4 rfl a0 ?_;refine D6 5 rfl a0 ?_;refine D6 6 rfl a0 ?_;refine D6 7 rfl a0 ?_;refine D6 8 rfl a0 ?_;refine D6 9 rfl a0 ?_;refine E7 10 rfl (λK hK=>?_);go_simp;refine E6 hK b3 ?_;clear hK K;refine E7 11 rfl (λK hK=>?_);go_simp;go_wp2_with (go_at_call 159;refine (Jm rb len _ v DF 4 wc.heap.size 0 4 _ rfl QA.rd (by omega) a9 (by omega) (by omega) (by omega)).mono ?_;rintro e wN ⟨⟨s9,b7,rfl⟩,b8,c0⟩;have QN:=QA.gr b2 c0 b8;have b1:s9.size<=maxLen:=Y6 (ss:=DF) (by decide) s9 b7;have b5:=HS.out _ _ QN)
      clear QA Q8 c0 b8 a9 b7 b3;refine E6 hK b5 ?_;clear hK K;have QB:=QN.alloc (Kz [Tz s9] 9);have c8:=HS.out _ _ QB;have d5:=QB.z;have a8:F7 (wN.alloc (Kz [Tz s9] 9)) (w.heap.size+2) (Vz ah x0.has.length ch) x0.has:=QB.fam.own _ HM.out.1;refine E7 12 rfl (λK hK=>?_);go_simp;refine E6 hK c8 ?_;clear hK K;refine E7 13 rfl (λK hK=>?_);refine Bm rfl _ _ 23 rfl (w.heap.size+2) 9 is _ 1 16 underlying23 e5 e6 e7 e8 rfl (by decide) _ _ _ rfl a8 ⟨wN.heap.size,0,none⟩ 1 1 [Tz s9] rfl rfl (AD _ _ _) (DG s9) (by omega) (by unfold maxLen;omega) (by omega) d5 ?_;intro v' wP hownP hgrP hwhP;have hO:F7 wP (w.heap.size+2) v' (x0.has++[s9]):=by unfold F7;simpa using hownP
      obtain⟨-,eX,-,-,eR⟩:=QB.list b2 a8 (λe=>QB.fam.av _ HM.out.1 q e.symm rfl) hgrP;have r2:=(eR.cellAt (k*3+1) (by omega)).trans (V0 ps k _ Hp.out 1 _ rfl);have f2:=eR.frozenAt (k*3+1);have b6:(At wP q 1 (Sz gg ps.length c4)/\At wP gg (k*3+1) (Vz ah (x0.has).length ch)):=⟨eX.c2'.2,r2⟩;have QT:=QB.has b2 Hp.out rfl hgrP hO hwhP;obtain⟨aP,cP,rfl⟩:=hO.lst.shape;have d6:(x0.has++[s9]).length<=50:=by simp;omega
      have H9:Hid (∀s∈x0.has++[s9],s.size<=maxLen):=MN Hp3.out.1 b1;clear QN QB a8 hgrP hownP hwhP b5 c8 hO eX eR b1;generalize x0.has++[s9]=l9 at *;refine E6 hK b6 ?_;clear hK K;refine E7 14 rfl (λK hK=>?_);go_simp;refine E6 hK b6 ?_;clear hK K;refine D6 15 rfl b6 ?_;refine E7 16 rfl (λK hK=>?_);go_simp;refine Bf hK ?_;clear hK K;refine F0 (by kernel_rfl) ?_ _;have b0:=Hpz.out.set (k:=k) (p':=((⟨x0.nm,l9,x0.nj⟩,Vz aP l9.length cP,Vz an x0.nj.length cn):Bv)) ⟨Hp0.out,by first|exact d6|(show x0.has.length<=50;omega),by first|exact d6|(show x0.nj.length<=50;omega),by first|exact H9.out|exact Hp3.out.1,by first|exact H9.out|exact Hp3.out.2⟩;have hX:=QT.fin (λy hy=>(b0 y hy).1) (EO Htz.out (by omega) (by rw[List.length_set];omega) b0);clear QT b0 a0 b6 r2 f2 HS;go_wp2_with fail;go_meet
      case rel=>exact⟨_,_,_,_,by omega,hX⟩
     ·subst hx;have a0:At wc.drew q 1 (Sz gg ps.length c4):=Q8.x.c2'.2;have QA:=Q8.drew.alloc (Kz [Tz x0.nm,Vz ah x0.has.length ch,Vz an x0.nj.length cn] 115);have b3:At (wc.drew.alloc (Kz [Tz x0.nm,Vz ah x0.has.length ch,Vz an x0.nj.length cn] 115)) q 1 (Sz gg ps.length c4):=QA.x.c2'.2;have r0:wc.drew.cell? ⟨gg,k*3,none⟩=_:=(Q8.drew.row.cellAt (k*3) (by omega)).trans (V0 ps k _ Hp.out 0 _ rfl);have r1:wc.drew.cell? ⟨gg,k*3+1,none⟩=_:=(Q8.drew.row.cellAt (k*3+1) (by omega)).trans (V0 ps k _ Hp.out 1 _ rfl);have r2:wc.drew.cell? ⟨gg,k*3+2,none⟩=_:=(Q8.drew.row.cellAt (k*3+2) (by omega)).trans (V0 ps k _ Hp.out 2 _ rfl);go_wp2_with fail;refine F5 10 (λw'=>At w' q 1 (Sz gg ps.length c4)) (by kernel_rfl) ?_;refine D6 0 rfl a0 ?_;refine D6 1 rfl a0 ?_;refine D6 2 rfl a0 ?_;refine D6 3 rfl a0 ?_;refine D6 4 rfl a0 ?_;refine D6 5 rfl a0 ?_;refine E7 6 rfl (λK hK=>?_);go_simp;refine E6 hK a0 ?_;clear hK K;clear r0 r1 r2;refine E7 7 rfl (λK hK=>?_);go_simp;refine E6 hK b3 ?_;clear hK K;have f5:=QA.z;have b4:=QA.row;refine E7 8 rfl (λK hK=>?_);refine Bm rfl _ _ 24 rfl (w.heap.size+2) 115 ib _ 3 64 underlying24 f7 f8 f9 g2 rfl (by decide) _ _ _ rfl b4 ⟨wc.heap.size,0,none⟩ 1 1 [Tz x0.nm,Vz ah x0.has.length ch,Vz an x0.nj.length cn] rfl rfl (λj u hj=>Gu _ _ _ _ _ hj) (by simp[Value.oneCell']) (by omega) (by unfold maxLen;omega) (by omega) f5 ?_;intro v6 w6 hown6 hgr6 hwh6
      have hX:=QA.twice b2 Hp.out hgr6 hwh6 hown6 (λy hy=>(Hpz.out y hy).1) (EO Htz.out (by omega) (by simp;omega) (λy hy=>by
       rcases D0.1 hy with h1|h1
       ·exact Hpz.out.loose y h1
       ·obtain rfl:y=_:=by simpa using h1
        exact Hpz.out.loose _ (A7 Hp.out)))
      have a6:=QA.x.kept hgr6 λe=>QA.rq q e.symm rfl;have d2:At w6 q 1 (Sz gg ps.length c4):=a6.c2'.2;obtain⟨⟨j0,j1⟩,m0,m1⟩:=a6.c2;obtain⟨a7,c7,rfl⟩:=I7 hown6;clear hown6 hgr6 hwh6 QA b4 Q8 a6;refine E6 hK d2 ?_;clear hK K;refine D6 9 rfl d2 ?_;refine E7 10 rfl (λK hK=>?_);go_simp;refine Bf hK ?_;clear hK K;refine F0 (by kernel_rfl) ?_ _;clear a0 b3 d2 j0 j1 m0 m1;go_wp2_with fail;go_meet
      case rel=>exact⟨_,_,_,_,by omega,hX⟩
     ·have k6:(x==0)=false:=by simp;omega
      have k7:(x==1)=false:=by simp;omega
      have k8:(x==2)=false:=by simp;omega
      have k9:(x==3)=false:=by simp;omega
      clear hx Hp Hp3 Hp0 HM e2 e3;go_wp2_with fail;refine (Er rb len _ v 2 _ Q8.rd (by omega)).mono ?_;rintro e w9 ⟨⟨d,rfl,l3,i2⟩,i3,i4⟩;have l0:=i2 (by omega);have Q9:=Q8.gr b2 i4 i3;clear Q8 i3 i4 i2;go_wp2_with fail;(try dsimp only[Iz,Sz,Sy,Nz,Vz,Tz,Ez,Pz]);go_loopw [8] (λi w'=>∃(j:Nat)(a5:Option Addr)(c5:Nat)(qs:List Bv),i=.int .i64 j/\j<=qs.length/\qs.length<=40/\Jy qs/\SQ w w' rb len (M8+1) q v (Vz a3 ts.length c3) (Vz a5 qs.length c5) ts qs) (λi _=>10-(intOf i).toNat)
      case atStart=>exact⟨0,_,_,ps,rfl,by omega,by omega,Hpz.out,Q9⟩
      case round =>
       clear Q9 Hpz hk j5 j3;obtain⟨j,a5,c5,qs,rfl,hj,k2,f1,Q1⟩:=hrel;have Hqz:Hid (Jy qs):=f1;clear f1;obtain⟨z0,z1⟩:=Q1.x.c2';by_cases hlt:(qs.length:Int)<5+d
       ·have l1:j<6:=by omega
        have a0:At wr.drew q 1 (Vz a5 qs.length c5):=z1;have l2:=Q1.x.2.2;go_wp2_with fail;refine F5 9 (λw'=>At w' q 1 (Vz a5 qs.length c5)) (by kernel_rfl) ?_;refine D6 0 rfl a0 ?_;refine D6 1 rfl a0 ?_;refine D6 2 rfl a0 ?_;refine E7 3 rfl (λK hK=>?_);go_simp;go_wp2_with (go_at_call 160;refine (Vn _ _ (by omega) (by omega)).mono ?_;rintro e w2 ⟨⟨s,rfl,hs⟩,c9⟩;have Q2:=Q1.drew.up c9;have e4:At w2 q 1 (Vz a5 qs.length c5):=Q2.x.c2'.2)
        have j7:(⟨#[122]⟩++s:BA).size<=maxLen:=by rw[ByteArray.size_append];unfold maxLen;show 1+s.size<=_;omega
        clear Q1 c9 z0 z1;refine E6 hK e4 ?_;clear hK K;have j8:¬9223372036854775807<1+s.size:=by omega
        refine E7 4 rfl (λK hK=>?_);go_simp;refine E6 hK e4 ?_;clear hK K;refine E7 5 rfl (λK hK=>?_);go_simp;refine E6 hK e4 ?_;clear hK K;generalize (⟨#[122]⟩++s:BA)=s9 at *;have QA:=Q2.alloc (Kz [Tz s9,Nz,Nz] 115);have b3:At (w2.alloc (Kz [Tz s9,Nz,Nz] 115)) q 1 (Vz a5 qs.length c5):=QA.x.c2'.2;refine E7 6 rfl (λK hK=>?_);go_simp;refine E6 hK b3 ?_;clear hK K;have f5:=QA.z;have b4:=QA.row;refine E7 7 rfl (λK hK=>?_);refine Bm rfl _ _ 24 rfl (w.heap.size+2) 115 ib _ 3 64 underlying24 f7 f8 f9 g2 rfl (by decide) _ _ _ rfl b4 ⟨w2.heap.size,0,none⟩ 1 1 [Tz s9,Nz,Nz] rfl rfl (λj u hj=>Gu _ _ _ _ _ hj) (by simp[Value.oneCell']) (by omega) (by unfold maxLen;omega) (by omega) f5 ?_;intro v6 w6 hown6 hgr6 hwh6;have QT:=QA.push b2 hgr6 hwh6 hown6;have f6:Jy (qs++[((⟨s9,[],[]⟩,Nz,Nz):Bv)]):=Hqz.out.snoc j7 (by simp) (by simp) (λs hs=>by simp at hs) (λs hs=>by simp at hs);have d3:(qs++[((⟨s9,[],[]⟩,Nz,Nz):Bv)]).length=qs.length+1:=by simp
        have a6:=QA.x.kept hgr6 λe=>QA.rq q e.symm rfl;have d2:At w6 q 1 (Vz a5 qs.length c5):=a6.c2'.2;obtain⟨⟨j0,j1⟩,m0,m1⟩:=a6.c2;obtain⟨a7,c7,rfl⟩:=I7 hown6;rw[← d3] at QT;have Hql6:Hid ((qs++[((⟨s9,[],[]⟩,Nz,Nz):Bv)]).length=qs.length+1):=d3;clear hown6 hgr6 hwh6 QA b4 Q2 a6 d3;refine E6 hK d2 ?_;clear hK K;refine D6 8 rfl d2 ?_;refine E7 9 rfl (λK hK=>?_);go_simp;refine Bf hK ?_;clear hK K;refine F0 (by kernel_rfl) ?_ _;clear a0 b3 d2 j0 j1 m0 m1 e4;rw[Hql6.out] at QT;go_wp2_with fail;go_roundw
        case rel=>exact⟨j+1,a7,c7,_,by go_num,by rw[Hql6.out];omega,by rw[Hql6.out];omega,f6,by rw[Hql6.out];exact QT⟩
        case measure=>simp[intOf];omega
       ·have hX:=Q1.fin (λp hp=>(Hqz.out p hp).1) (EO Htz.out (by omega) (by omega) Hqz.out.loose);clear Q1;go_wp2_with fail;go_meet
        case rel=>exact⟨_,_,_,_,by omega,hX⟩
    case rest =>
     obtain⟨M9,k3,k4,b9,k5,hX⟩:=hcut;clear Q8 e9 Hp Hp3 Hp0 HM e2 e3;obtain⟨a5,c5,a6,c6,rfl,rfl⟩:=hX.parts;have kR:=hX.r;obtain⟨j0,j1⟩:=hX.x.c2';obtain⟨⟨y0,y1⟩,g0,g1⟩:=kR.c2;go_wp2_with fail;refine FM results117 underlying26 rfl M5 kR rfl ?_;exact hX.fin b2 (by omega)
end Go.Proofs.YtmonodehegcfhaaGreatDoor
