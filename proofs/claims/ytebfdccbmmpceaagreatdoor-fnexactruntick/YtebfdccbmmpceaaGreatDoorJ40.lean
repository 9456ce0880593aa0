/- The laws' marks over batches that go on: written. -/
import Derived.Test.YtebfdccbmmpceaaGreatDoorMn4
import Derived.Test.YtebfdccbmmpceaaGreatDoorJ32
import Derived.Test.YtebfdccbmmpceaaGreatDoorJ26
import Derived.Test.YtebfdccbmmpceaaGreatDoorXr
import Derived.Test.YtebfdccbmmpceaaGreatDoorJ33
import Derived.Test.YtebfdccbmmpceaaGreatDoorJ38
set_option maxRecDepth 20000
set_option maxHeartbeats 16000000
namespace Go.Proofs.YtebfdccbmmpceaaGreatDoor
open Go.RowKit
theorem Amf {m:Int} {bs:List Rb} {k:Nat} {ps:List Rv} (h:ps.map (·.1)=curA mkRb szRb m bs k) (hk:k<bs.length):∃ru su,ps[k]?=some (bs[k],ru,su):=by
 have h1:(ps.map (·.1))[k]?=some bs[k]:=by rw[h,Aov m bs k (Nat.le_of_lt hk),A0 hk]
 rw[B0] at h1;obtain⟨p,hp,e⟩:=B5.1 h1;exact⟨p.2.1,p.2.2,by rw[hp,← e]⟩
theorem Abt (ps:List Rv) (k:Nat) (a b:Rv):(ps.set k a).set k b=ps.set k b:=List.set_set _
theorem Ais (bs:List Rb) (base:Nat) (v:Value) (qs:List Rv) (m:Int) (w:World) (h:RbsQ w base v qs) (hq:qs.map (·.1)=bs) (hz:base<=w.heap.size) (hn:bs.length<=100) (hs:∀x∈bs,x.ps.length<=100/\x.sl.length<=100) (hm:1<=m) (hm9:m<=100000) :
  Calls Tryz.prog 27 #[v,.int .i64 m] w λe w'=>e=.returned (.int .i64 (m+szA szRb bs))/\(∃ps:List Rv,RbsQ w' base v ps/\ps.map (·.1)=mkA mkRb szRb m bs)/\Below base w w'/\KpT [52,84,169] w w':=by
 have hql:qs.length=bs.length:=by rw[← hq,B4]
 rcases C4 bs.length with h0|h0
 ·obtain rfl:bs=[]:=C5.1 h0
  obtain rfl:qs=[]:=by simpa using hq
  obtain⟨a,c,rfl⟩:=F2 h.m;have HR:Hid (RbsQ w base (.slice a 0 c) []):=h;clear h hq;simp only[List.length_nil];go_enter Tryz.func27,Tryz.ntmps27
  go_wp2
  go_rounds 1
  go_ret
  exact⟨by simp[szA],⟨[],HR.out,rfl⟩,A4 _ _,KpT.refl _ _⟩
 obtain⟨g,cap,rfl⟩:=F4 h.m (by omega);rw[hql] at h;have Hq:Hid (qs.map (·.1)=curA mkRb szRb m bs 0):=by show _=_;rw[Amd];exact hq
 clear hq;rw[hql];clear hql;go_enter Tryz.func27,Tryz.ntmps27
 go_wp2
 go_loopw [1,5] (λkk i w'=>∃(k:Nat) (ps:List Rv) (y:Int),k<=bs.length/\i=.int .i64 k/\kk=.int .i64 y/\y=m+szA szRb (bs.take k)/\1<=y/\y<=100000+1004*(k:Int)/\ps.map (·.1)=curA mkRb szRb m bs k/\RbsQ w' base (.slice (some ⟨g,0,none⟩) bs.length cap) ps/\Below base w w'/\KpT [52,84,169] w w') (λ_ i _=>bs.length-(intOf i).toNat)
 case atStart=>exact⟨0,qs,m,by omega,rfl,rfl,by simp[szA],hm,by omega,Hq.out,h,A4 _ _,KpT.refl _ _⟩
 case round =>
  clear h Hq;obtain⟨k,ps,y,hk,rfl,rfl,hy,hy1,hy9,hps,hR,hB,hK⟩:=hrel;have Hps:Hid (ps.map (·.1)=curA mkRb szRb m bs k):=hps;have Hy:Hid (y=m+szA szRb (bs.take k)):=hy;have HK:Hid (KpT [52,84,169] w wr):=hK;clear hps hy hK;by_cases hp:k<bs.length
  ·obtain⟨s1,s2⟩:=hs bs[k] (by simp)
   obtain⟨ru,su,hpk⟩:=Amf Hps.out hp
   have hpl:ps.length=bs.length:=by
    have:=congrArg List.length Hps.out;rw[B4,Anu m bs k hk] at this;exact this
   have Hstep:Hid ((ps.set k ((mkRb y bs[k],ru,su):Rv)).map (·.1)=curA mkRb szRb m bs (k+1)):=by
    show _=_
    rw[List.map_set,Hps.out,Ame m bs k hp,← Hy.out]
   have Hsz:Hid (m+(szA szRb (bs.take (k+1)):Int)=y+szRb bs[k]):=by
    show _=_
    rw[A7 hp,Aep,Hy.out];omega
   have hkl:k<ps.length:=by omega
   have Hset:Hid (∀a:Rv,(ps.set k a)[k]?=some a):=λa=>D0 hkl;have Hpl:Hid (ps.length=bs.length):=hpl;generalize bs[k]=x0 at *;have hsz:=hB.size;clear hpl hkl Hps;go_wp2_with fail
   refine (F7 y wr (by omega)).mono ?_;rintro e w1 ⟨rfl,hB1⟩;have hR1:=hR.up hB1;have hz1:=hB1.size;have hBB1:Below base w w1:=hB.trans (hB1.mono (by omega));have HK1:Hid (KpT [52,84,169] w w1):=HK.out.up hB1;have hrow1:=hR1.m;rw[Hpl.out] at hrow1;have c0:=G8 G6 hrow1 hpk 0 _ rfl;have f0:=hrow1.frozenAt (k*6);obtain⟨hR2,hg2⟩:=hR1.cell (y:={x0 with nm:=mkB y}) hpk (j:=0) (u:=.string (mkB y)) (by omega) rfl rfl rfl;rw[Nat.add_zero] at c0 hR2 hg2;have hB2:=F1 hBB1 (by omega) hrow1 hg2 (A3 _);have HK2:Hid (KpT [52,84,169] w (w1.setCell ⟨g,k*6,none⟩ (.string (mkB y)))):=HK1.out.gr hrow1 (by decide) hg2;have hz2:(w1.setCell ⟨g,k*6,none⟩ (.string (mkB y))).heap.size=w1.heap.size:=by simp
   have hp2:=Hset.out ({x0 with nm:=mkB y},ru,su);clear hR hB hB1 hR1 hBB1 hrow1 hg2 HK HK1 hpk;go_upto_region 6 with fail
   clear c0 f0;generalize w1.setCell ⟨g,k*6,none⟩ (.string (mkB y))=W2 at *;have hor:=hR2.r _ _ hp2;have hos:=hR2.s _ _ hp2;obtain⟨a3,c3,e3⟩:=F2 hor;obtain⟨a4,c4,e4⟩:=F2 hos;simp only at e3 e4;subst e3 e4;have hrow2:=hR2.m;rw[List.length_set,Hpl.out] at hrow2;have q1:=G8 G6 hrow2 hp2 1 _ rfl;go_wp2_with fail
   refine (Akk x0.ps base _ (y+1) _ hor (by omega) (by omega) (by omega)).mono ?_;rintro e w3 ⟨rfl,⟨ys,hyl,hym,hoy⟩,hg3⟩;obtain rfl:=Aiq hyl hym;have hz3:=hg3.size;have hR3:=hR2.phs hp2 hoy hg3;have hB3:=F1 hB2 (by omega) hor hg3 (A3 _);have HK3:Hid (KpT [52,84,169] w w3):=HK2.out.gr hor (by decide) hg3;rw[Abt] at hR3;have hp3:=Hset.out (({x0 with nm:=mkB y,ps:=mkPs (y+1) x0.ps.length}:Rb),(Value.slice a3 x0.ps.length c3),(Value.slice a4 x0.sl.length c4));clear q1 hR2 hB2 hor hos hrow2 hg3 hyl hym hoy hp2 HK2;have hos:=hR3.s _ _ hp3;have hrow3:=hR3.m;rw[List.length_set,Hpl.out] at hrow3;have q2:=G8 G6 hrow3 hp3 2 _ rfl;go_wp2_with fail
   refine (Aki x0.sl base _ (y+1+8*x0.ps.length) _ hos (by omega) (by omega) (by omega)).mono ?_;rintro e w4 ⟨rfl,⟨ys,hyl,hym,hoy⟩,hg4⟩;obtain rfl:=Air hyl hym;have hz4:=hg4.size;have hR4:=hR3.slots hp3 hoy hg4;have hB4:=F1 hB3 (by omega) hos hg4 (A3 _);have HK4:Hid (KpT [52,84,169] w w4):=HK3.out.gr hos (by decide) hg4;rw[Abt] at hR4;clear q2 hR3 hB3 hos hrow3 hg4 hyl hym hoy hp3 HK3;obtain⟨z,hzz⟩:∃z:Int,z=y+1+8*x0.ps.length+2*x0.sl.length:=⟨_,rfl⟩;rw[← hzz];have hz9:z<=300000:=by omega
   have hz0:1<=z:=by omega
   have Hzz:Hid (mkRb y x0=⟨mkB y,mkPs (y+1) x0.ps.length,mkSs (y+1+8*x0.ps.length) x0.sl.length,mkB z,z+1,z+1+1⟩):=by show _=_;rw[hzz];rfl
   have Hzv:Hid (z=y+1+8*x0.ps.length+2*x0.sl.length):=hzz;clear hzz;go_wp2_with fail
   refine (F7 z w4 (by omega)).mono ?_;rintro e w5 ⟨rfl,hB5⟩;have hR5:=hR4.up hB5;have hz5:=hB5.size;have hBB5:Below base w w5:=hB4.trans (hB5.mono (by omega));have HK5:Hid (KpT [52,84,169] w w5):=HK4.out.up hB5;have hp5:=Hset.out (({x0 with nm:=mkB y,ps:=mkPs (y+1) x0.ps.length,sl:=mkSs (y+1+8*x0.ps.length) x0.sl.length}:Rb),(Value.slice a3 x0.ps.length c3),(Value.slice a4 x0.sl.length c4));have hrow5:=hR5.m;rw[List.length_set,Hpl.out] at hrow5;have c3':=G8 G6 hrow5 hp5 3 _ rfl;have c4':=G8 G6 hrow5 hp5 4 _ rfl;have c5':=G8 G6 hrow5 hp5 5 _ rfl;have f3:=hrow5.frozenAt (k*6+3);have f4:=hrow5.frozenAt (k*6+4);have f5:=hrow5.frozenAt (k*6+5);obtain⟨hR6,hg6⟩:=hR5.cell (y:=⟨mkB y,mkPs (y+1) x0.ps.length,mkSs (y+1+8*x0.ps.length) x0.sl.length,mkB z,x0.si,x0.st⟩) hp5 (j:=3) (u:=.string (mkB z)) (by omega) rfl rfl rfl;rw[Abt] at hR6;obtain⟨hR7,hg7⟩:=hR6.cell (y:=⟨mkB y,mkPs (y+1) x0.ps.length,mkSs (y+1+8*x0.ps.length) x0.sl.length,mkB z,z+1,x0.st⟩) (Hset.out _) (j:=4) (u:=.int .i64 (z+1)) (by omega) rfl rfl rfl;rw[Abt] at hR7;obtain⟨hR8,hg8⟩:=hR7.cell (y:=⟨mkB y,mkPs (y+1) x0.ps.length,mkSs (y+1+8*x0.ps.length) x0.sl.length,mkB z,z+1,z+1+1⟩) (Hset.out _) (j:=5) (u:=.int .i64 (z+1+1)) (by omega) rfl rfl rfl;rw[Abt,← Hzz.out] at hR8;have hg9:=E3 (E3 hg6 hg7) hg8;have hB9:=F1 hBB5 (by omega) hrow5 hg9 (A3 _);have HK9:=HK5.out.gr hrow5 (show 52∈[52,84,169] by decide) hg9;clear hR4 hR5 hR6 hR7 hg6 hg7 hg8 hg9 hB4 hB5 hBB5 hrow5 hp5 HK4 HK5;have HF:Hid (RbsQ (((w5.setCell ⟨g,k*6+3,none⟩ (.string (mkB z))).setCell ⟨g,k*6+4,none⟩ (.int .i64 (z+1))).setCell ⟨g,k*6+5,none⟩ (.int .i64 (z+1+1))) base (.slice (some ⟨g,0,none⟩) bs.length cap) (ps.set k ((mkRb y x0,(Value.slice a3 x0.ps.length c3),(Value.slice a4 x0.sl.length c4)):Rv))/\KpT [52,84,169] w (((w5.setCell ⟨g,k*6+3,none⟩ (.string (mkB z))).setCell ⟨g,k*6+4,none⟩ (.int .i64 (z+1))).setCell ⟨g,k*6+5,none⟩ (.int .i64 (z+1+1)))):=⟨hR8,HK9⟩;clear hR8 HK9;go_wp2_with fail
   go_roundw
   case rel=>exact⟨k+1,_,_,by omega,by go_num,rfl,by rw[Hsz.out,Hzv.out];simp[szRb];omega,by omega,by rw[Hzv.out];omega,Hstep.out,HF.out.1,hB9,HF.out.2⟩
   case measure=>simp[intOf];omega
  ·obtain rfl:k=bs.length:=by omega
   have HE:Hid (y=m+szA szRb bs):=by have:=Hy.out;rwa [List.take_length] at this
   have HP:Hid (ps.map (·.1)=mkA mkRb szRb m bs):=by have:=Hps.out;rwa [Ant] at this
   go_wp2_with fail
   go_ret
   exact⟨by rw[← HE.out];rfl,⟨ps,hR,HP.out⟩,hB,HK.out⟩
theorem Ait (bs:List Rb) (base:Nat) (v:Value) (ps:List Rv) (m:Int) (w:World) (h:RbsQ w base v ps) (hq:ps.map (·.1)=mkA mkRb szRb m bs) (hn:bs.length<=100) (hs:∀x∈bs,x.ps.length<=100/\x.sl.length<=100) (hm:1<=m) (hm9:m<=100000) :
  Calls Tryz.prog 30 #[v,.int .i64 m] w λe w'=>e=.returned (.int .i64 (m+szA szRb bs))/\Below w.heap.size w w':=by
 have hpl:ps.length=bs.length:=by
  have:=congrArg List.length hq;rwa [B4,Z9] at this
 rcases C4 bs.length with h0|h0
 ·obtain rfl:bs=[]:=C5.1 h0
  obtain rfl:ps=[]:=C5.1 hpl;obtain⟨a,c,rfl⟩:=F2 h.m;clear h hq;simp only[List.length_nil];go_enter Tryz.func30,Tryz.ntmps30
  go_wp2
  go_rounds 1
  go_ret
  exact⟨by simp[szA],A4 _ _⟩
 obtain⟨g,cap,rfl⟩:=F4 h.m (by omega);rw[hpl] at h ⊢
 have hgl:=(h.m.lt g rfl).2;have Hq:Hid (ps.map (·.1)=mkA mkRb szRb m bs):=hq;have HR:Hid (RbsQ w base (.slice (some ⟨g,0,none⟩) bs.length cap) ps):=h;clear hq h hpl;go_enter Tryz.func30,Tryz.ntmps30
 go_wp2
 go_loopw [1,5] (λkk i w'=>∃(k:Nat) (y:Int),k<=bs.length/\i=.int .i64 k/\kk=.int .i64 y/\y=m+szA szRb (bs.take k)/\1<=y/\y<=100000+1004*(k:Int)/\Below w.heap.size w w') (λ_ i _=>bs.length-(intOf i).toNat)
 case atStart=>exact⟨0,m,by omega,rfl,rfl,by simp[szA],hm,by omega,A4 _ _⟩
 case round =>
  obtain⟨k,y,hk,rfl,rfl,hy,hy1,hy9,hB⟩:=hrel;have Hy:Hid (y=m+szA szRb (bs.take k)):=hy;clear hy;by_cases hp:k<bs.length
  ·obtain⟨s1,s2⟩:=hs bs[k] (by simp)
   obtain⟨ru,su,hpk⟩:∃ru su,ps[k]?=some (mkRb y bs[k],ru,su):=by
    have h1:(ps.map (·.1))[k]?=some (mkRb y bs[k]):=by rw[Hq.out,Amc m bs k hp,Hy.out]
    rw[B0] at h1;obtain⟨p,hp,e⟩:=B5.1 h1;exact⟨p.2.1,p.2.2,by rw[hp,← e]⟩
   have Hsz:Hid (m+(szA szRb (bs.take (k+1)):Int)=y+szRb bs[k]):=by
    show _=_
    rw[A7 hp,Aep,Hy.out];omega
   generalize bs[k]=x0 at *;have hor:=HR.out.r _ _ hpk;have hos:=HR.out.s _ _ hpk;obtain⟨a3,c3,e3⟩:=F2 hor;obtain⟨a4,c4,e4⟩:=F2 hos;simp only[mkRb,Abr,Abs] at e3 e4;subst e3 e4;have hrow:=HR.out.m
   have hpl:ps.length=bs.length:=by
    have:=congrArg List.length Hq.out;rwa [B4,Z9] at this
   rw[hpl] at hrow;have HC:Hid (∀(j:Nat) (u:Value),(rowR (mkRb y x0,.slice a3 x0.ps.length c3,.slice a4 x0.sl.length c4))[j]?=some u->∀W,Below w.heap.size w W->World.cell? W ⟨g,k*6+j,none⟩=some u):=λj u hu W hW=>(hW.cell (p:=⟨g,k*6+j,none⟩) hgl).trans (G8 G6 hrow hpk j u hu);have OR:Hid (∀W,Below w.heap.size w W->W.ownsRow base 84 8 (.slice a3 x0.ps.length c3) (mkPs (y+1) x0.ps.length).length (rowsF Ph.cells (mkPs (y+1) x0.ps.length))):=λW hW=>E1 hor hW;have OS:Hid (∀W,Below w.heap.size w W->W.ownsRow base 169 2 (.slice a4 x0.sl.length c4) (mkSs (y+1+8*x0.ps.length) x0.sl.length).length (rowsF Sl.cells (mkSs (y+1+8*x0.ps.length) x0.sl.length))):=λW hW=>E1 hos hW;have hS:Below w.heap.size w wr/\World.cell? wr ⟨g,k*6,none⟩=some (.string (mkB y)):=⟨hB,HC.out 0 _ rfl wr hB⟩;clear hB hor hos hrow hpl hpk;go_wp2_with fail;go_region_held (λw'=>Below w.heap.size w w'/\World.cell? w' ⟨g,k*6,none⟩=some (.string (mkB (y)))) (first|exact⟨hS.1.drew,hS.2⟩|exact Aab hgl (by assumption) (by assumption)) (first|(go_at_call 65;refine (F7 (y) _ (by omega)).mono ?_;rintro e w1 ⟨rfl,hB1⟩))
   rename_i hH1;have hB:=hH1.1;clear hH1 hS;have d1:World.cell? w1 ⟨g,k*6+1,none⟩=some (.slice a3 x0.ps.length c3):=HC.out 1 _ rfl w1 hB;go_wp2_with fail
   refine (Akl (mkPs (y+1) x0.ps.length) base _ (y+1) _ (OR.out _ hB) (by rw[Abr];exact AdE _ _) (by rw[Abr];omega) (by omega) (by omega)).mono ?_;rw[Abr];rintro e w2 ⟨rfl,hB2⟩;have hB3:=D6 hB hB2;have d2:World.cell? w2 ⟨g,k*6+2,none⟩=some (.slice a4 x0.sl.length c4):=HC.out 2 _ rfl w2 hB3;clear d1 hB hB2;have hn1:¬(y+1+8*(x0.ps.length:Int)<0):=by omega
   go_wp2_with fail
   refine (Akj (mkSs (y+1+8*x0.ps.length) x0.sl.length) base _ (y+1+8*x0.ps.length) _ (OS.out _ hB3) (by rw[Abs];exact AdF _ _) (by rw[Abs];omega) (by omega) (by omega)).mono ?_;rw[Abs];rintro e w3 ⟨rfl,hB4⟩;have hB:=D6 hB3 hB4;clear d2 hB3 hB4 hn1;have HD:Hid (∀z:Int,z=y+1+8*x0.ps.length+2*x0.sl.length->(rowR (mkRb y x0,.slice a3 x0.ps.length c3,.slice a4 x0.sl.length c4))[3]?=some (.string (mkB z))/\(rowR (mkRb y x0,.slice a3 x0.ps.length c3,.slice a4 x0.sl.length c4))[4]?=some (.int .i64 (z+1))/\(rowR (mkRb y x0,.slice a3 x0.ps.length c3,.slice a4 x0.sl.length c4))[5]?=some (.int .i64 (z+1+1))):=λz hz=>by subst hz;exact⟨rfl,rfl,rfl⟩
   obtain⟨z,hzz⟩:∃z:Int,z=y+1+8*x0.ps.length+2*x0.sl.length:=⟨_,rfl⟩;rw[← hzz];have hz9:z<=300000:=by omega
   have hz0:1<=z:=by omega
   have Hzz:Hid (z=y+1+8*x0.ps.length+2*x0.sl.length):=hzz;clear hzz;obtain⟨k3,k4,k5⟩:=HD.out z Hzz.out;have hS:Below w.heap.size w w3/\World.cell? w3 ⟨g,k*6+3,none⟩=some (.string (mkB z)):=⟨hB,HC.out 3 _ k3 w3 hB⟩;have K4:Hid (∀W,Below w.heap.size w W->World.cell? W ⟨g,k*6+4,none⟩=some (.int .i64 (z+1))/\World.cell? W ⟨g,k*6+5,none⟩=some (.int .i64 (z+1+1))):=λW hW=>⟨HC.out 4 _ k4 W hW,HC.out 5 _ k5 W hW⟩;clear hB k3 k4 k5 HD;go_wp2_with fail;go_region_held (λw'=>Below w.heap.size w w'/\World.cell? w' ⟨g,k*6+3,none⟩=some (.string (mkB (z)))) (first|exact⟨hS.1.drew,hS.2⟩|exact Aab hgl (by assumption) (by assumption)) (first|(go_at_call 65;refine (F7 (z) _ (by omega)).mono ?_;rintro e w1 ⟨rfl,hB1⟩))
   rename_i hH1;have hB:=hH1.1;clear hH1 hS;obtain⟨d4,d5⟩:=K4.out w1 hB;go_wp2_with fail
   go_roundw
   case rel=>exact⟨k+1,_,by omega,by go_num,rfl,by rw[Hsz.out,Hzz.out];simp[szRb];omega,by omega,by rw[Hzz.out];omega,hB⟩
   case measure=>simp[intOf];omega
  ·obtain rfl:k=bs.length:=by omega
   have HE:Hid (y=m+szA szRb bs):=by have:=Hy.out;rwa [List.take_length] at this
   go_wp2_with fail
   go_ret
   exact⟨by rw[← HE.out];rfl,hB⟩
def mkDn (m:Int):Done:=⟨mkB m,m+1,m+2⟩
def MarkedD (l:List Done) (m:Int) (k:Nat):Prop:=∀i:Nat,i<k->l[i]?=some (mkDn (m+3*i))
theorem MarkedD.set {l:List Done} {m:Int} {k:Nat} (h:MarkedD l m k) (hk:k<l.length):MarkedD (l.set k (mkDn (m+3*k))) m (k+1):=λi hi=>by
 rw[List.getElem?_set];by_cases e:k=i
 ·subst e;rw[if_pos rfl,if_pos hk]
 ·rw[if_neg e];exact h i (by omega)
theorem Anv {w:World} {base g n cap k:Nat} {l:List Done} (h:w.ownsRow base 90 3 (.slice (some ⟨g,0,none⟩) n cap) n (rowsF Done.cells l)) (hk:k<l.length) (d:Done) :
  (((w.setCell ⟨g,k*3,none⟩ (.string d.nm)).setCell ⟨g,k*3+1,none⟩ (.int .i64 d.e)).setCell ⟨g,k*3+2,none⟩ (.int .i64 d.t)).ownsRow base 90 3 (.slice (some ⟨g,0,none⟩) n cap) n (rowsF Done.cells (l.set k d))/\w.grownBy (((w.setCell ⟨g,k*3,none⟩ (.string d.nm)).setCell ⟨g,k*3+1,none⟩ (.int .i64 d.e)).setCell ⟨g,k*3+2,none⟩ (.int .i64 d.t)) (some g):=by
 have h0:=B3 h (k*3+0) (.string d.nm);have h1:=B3 h0.1 (k*3+1) (.int .i64 d.e);have h2:=B3 h1.1 (k*3+2) (.int .i64 d.t);have e0:=R5 G7 l k l[k] ⟨d.nm,(l[k]).e,(l[k]).t⟩ 0 (.string d.nm) (A0 hk) (by omega) rfl;have e1:=R5 G7 (l.set k ⟨d.nm,(l[k]).e,(l[k]).t⟩) k ⟨d.nm,(l[k]).e,(l[k]).t⟩ ⟨d.nm,d.e,(l[k]).t⟩ 1 (.int .i64 d.e) (D0 hk) (by omega) rfl;have e2:=R5 G7 ((l.set k ⟨d.nm,(l[k]).e,(l[k]).t⟩).set k ⟨d.nm,d.e,(l[k]).t⟩) k ⟨d.nm,d.e,(l[k]).t⟩ d 2 (.int .i64 d.t) (D0 (by rw[List.length_set];exact hk)) (by omega) rfl;have hs:=h2.1;rw[e0,e1,e2,List.set_set,List.set_set] at hs;exact⟨hs,E0 (rb:=g) (E0 (rb:=g) (E0 (rb:=g) (E4 _ _) _) _) _⟩
theorem Akm (l:List Done) (base:Nat) (u:Value) (m:Int) (w:World) (h:w.ownsRow base 90 3 u l.length (rowsF Done.cells l)) (hn:l.length<=1000) (hm:1<=m) (hm9:m<=1000000) :
  Calls Tryz.prog 28 #[u,.int .i64 m] w λe w'=>e=.returned (.int .i64 (m+3*l.length))/\(∃ys,ys.length=l.length/\MarkedD ys m l.length/\w'.ownsRow base 90 3 u ys.length (rowsF Done.cells ys))/\w.grownBy w' u.ownBlock:=by
 by_cases h0:l=[]
 ·subst h0
  obtain⟨a1,c1,rfl⟩:=F2 h;simp only[List.length_nil];have HO:Hid (w.ownsRow base 90 3 (.slice a1 0 c1) 0 []):=h;clear h;go_enter Tryz.func28,Tryz.ntmps28
  go_wp2
  go_rounds 1
  go_ret
  exact⟨by simp,⟨[],rfl,λi hi=>by omega,HO.out⟩,E4 _ _⟩
 have hpos:0<l.length:=by
  rcases C4 l.length with h1|h1
  ·exact absurd (C5.1 h1) h0
  ·exact h1
 obtain⟨g,cap,rfl⟩:=F4 h hpos;go_enter Tryz.func28,Tryz.ntmps28
 go_wp2
 go_loopw [1,5] (λkk i w'=>∃(k:Nat) (ys:List Done),k<=l.length/\i=.int .i64 k/\kk=.int .i64 (m+3*k)/\ys.length=l.length/\MarkedD ys m k/\w'.ownsRow base 90 3 (.slice (some ⟨g,0,none⟩) l.length cap) l.length (rowsF Done.cells ys)/\w.grownBy w' (some g)) (λ_ i _=>l.length-(intOf i).toNat)
 case atStart=>exact⟨0,l,by omega,rfl,by simp,rfl,λi hi=>by omega,h,E4 _ _⟩
 case round =>
  obtain⟨k,ys,hk,rfl,rfl,hyl,hM,hown,hG⟩:=hrel;by_cases hp:k<l.length
  ·go_wp2_with fail
   refine (F7 (m+3*k) wr (by omega)).mono ?_;rintro e w1 ⟨rfl,hB1⟩;have hown1:=E1 hown hB1;have hG1:=E3 hG (L3 (r:=some g) hB1);have hcl:=G8 G7 hown1 (A0 (show k<ys.length by omega));have c0:=hcl 0 _ rfl;have c1:=hcl 1 _ rfl;have c2:=hcl 2 _ rfl;rw[Nat.add_zero] at c0;have f0:=hown1.frozenAt (k*3);have f1:=hown1.frozenAt (k*3+1);have f2:=hown1.frozenAt (k*3+2);obtain⟨r1,r2⟩:=Anv hown1 (show k<ys.length by omega) (mkDn (m+3*k));have hG2:=E3 hG1 r2;have HM:Hid (MarkedD (ys.set k (mkDn (m+3*k))) m (k+1)):=hM.set (by omega);have Hyl:Hid ((ys.set k (mkDn (m+3*k))).length=l.length):=by show _=_;rw[List.length_set];exact hyl
   clear hown hB1 hG hown1 hG1 hM hcl r2;have HR:Hid (((w1.setCell ⟨g,k*3,none⟩ (.string (mkB (m+3*k)))).setCell ⟨g,k*3+1,none⟩ (.int .i64 (m+3*k+1))).setCell ⟨g,k*3+2,none⟩ (.int .i64 (m+3*k+2)) |>.ownsRow base 90 3 (.slice (some ⟨g,0,none⟩) l.length cap) l.length (rowsF Done.cells (ys.set k (mkDn (m+3*k))))):=r1;have HG:Hid (w.grownBy (((w1.setCell ⟨g,k*3,none⟩ (.string (mkB (m+3*k)))).setCell ⟨g,k*3+1,none⟩ (.int .i64 (m+3*k+1))).setCell ⟨g,k*3+2,none⟩ (.int .i64 (m+3*k+2))) (some g)):=hG2;clear r1 hG2;have e2:m+3*(k:Int)+1+1=m+3*k+2:=by omega
   go_wp2_with fail
   go_roundw
   case rel=>exact⟨k+1,ys.set k (mkDn (m+3*k)),by omega,by go_num,by go_num,Hyl.out,HM.out,HR.out,HG.out⟩
   case measure=>simp[intOf];omega
  ·obtain rfl:k=l.length:=by omega
   go_wp2_with fail
   go_ret
   exact⟨rfl,⟨ys,hyl,hM,by rw[hyl];exact hown⟩,hG⟩
theorem Akn (l:List Done) (base:Nat) (u:Value) (m:Int) (w:World) (h:w.ownsRow base 90 3 u l.length (rowsF Done.cells l)) (hM:MarkedD l m l.length) (hn:l.length<=1000) (hm:1<=m) (hm9:m<=1000000) :
  Calls Tryz.prog 31 #[u,.int .i64 m] w λe w'=>e=.returned (.int .i64 (m+3*l.length))/\Below w.heap.size w w':=by
 by_cases h0:l=[]
 ·subst h0
  obtain⟨a1,c1,rfl⟩:=F2 h;simp only[List.length_nil];clear h hM;go_enter Tryz.func31,Tryz.ntmps31
  go_wp2
  go_rounds 1
  go_ret
  exact⟨by simp,A4 _ _⟩
 have hpos:0<l.length:=by
  rcases C4 l.length with h1|h1
  ·exact absurd (C5.1 h1) h0
  ·exact h1
 obtain⟨g,cap,rfl⟩:=F4 h hpos;have hgl:=(h.lt g rfl).2;have HM:Hid (MarkedD l m l.length):=hM;clear hM h0;go_enter Tryz.func31,Tryz.ntmps31
 go_wp2
 go_loopw [1,5] (λkk i w'=>∃k:Nat,k<=l.length/\i=.int .i64 k/\kk=.int .i64 (m+3*k)/\Below w.heap.size w w') (λ_ i _=>l.length-(intOf i).toNat)
 case atStart=>exact⟨0,by omega,rfl,by simp,A4 _ _⟩
 case round =>
  obtain⟨k,hk,rfl,rfl,hB⟩:=hrel;by_cases hp:k<l.length
  ·have hcl:=G8 G7 h (HM.out k hp)
   have c0:World.cell? wr ⟨g,k*3,none⟩=some (.string (mkB (m+3*k))):=(hB.cell (p:=⟨g,k*3,none⟩) hgl).trans (hcl 0 _ rfl);have c1:World.cell? wr ⟨g,k*3+1,none⟩=some (.int .i64 (m+3*k+1)):=(hB.cell (p:=⟨g,k*3+1,none⟩) hgl).trans (hcl 1 _ rfl);have c2:World.cell? wr ⟨g,k*3+2,none⟩=some (.int .i64 (m+3*k+2)):=(hB.cell (p:=⟨g,k*3+2,none⟩) hgl).trans (hcl 2 _ rfl);have hgr:g<wr.heap.size:=A1 hgl hB.size;clear hcl;go_upto_region 4 with fail
   go_cut [19] (λv19 wc=>v19=.bool false/\Below wr.heap.size wr wc)
   case first =>
    have hS1:World.cell? wr.drew ⟨g,k*3,none⟩=some (.string (mkB (m+3*k))):=c0;have hbd:Below wr.heap.size wr wr.drew:=(A4 _ _).drew;refine F5 99 (λw'=>World.cell? w' ⟨g,k*3,none⟩=some (.string (mkB (m+3*k)))) (by kernel_rfl) ?_;generalize wr.drew=X1 at hS1 hbd ⊢
    refine tkx 0 rfl hS1 ?_;refine tkx 1 rfl hS1 ?_;refine tkx 2 rfl hS1 ?_;refine tkx 3 rfl hS1 ?_;refine tkx 4 rfl hS1 ?_;refine tkx 5 rfl hS1 ?_;refine D8 (i:=6) (by kernel_rfl) rfl (λK hK=>?_);go_simp
    go_wp2_with (go_at_call 65;refine (F7 (m+3*k) _ (by omega)).mono ?_;rintro e w1 ⟨rfl,hB1⟩)
    have hb1:=D6 hbd hB1;have hS2:World.cell? w1 ⟨g,k*3,none⟩=some (.string (mkB (m+3*k))):=(hb1.cell (p:=⟨g,k*3,none⟩) hgr).trans c0;refine hK.out _ _ (λ_=>hS2) ?_;clear hK K;refine D8 (i:=7) (by kernel_rfl) rfl (λK hK=>?_);go_simp
    refine hK.out _ _ (λ_=>hS2) ?_;clear hK K;refine F0 (by kernel_rfl) ?_ _;go_wp2_with fail
    go_meet
    exact⟨rfl,hb1⟩
   case rest =>
   obtain⟨rfl,hbc⟩:=hcut;have d1:=(hbc.cell (p:=⟨g,k*3+1,none⟩) hgr).trans c1;have d2:=(hbc.cell (p:=⟨g,k*3+2,none⟩) hgr).trans c2;have hBc:=D6 hB hbc;clear c0 c1 c2 hbc;have e2:m+3*(k:Int)+1+1=m+3*k+2:=by omega
   go_wp2_with fail
   go_roundw
   case rel=>exact⟨k+1,by omega,by go_num,by go_num,hBc⟩
   case measure=>simp[intOf];omega
  ·obtain rfl:k=l.length:=by omega
   go_wp2_with fail
   go_ret
   exact⟨rfl,hB⟩
def mkDs (m:Int) (n:Nat):List Done:=(List.range n).map λ(i:Nat)=>mkDn (m+3*i)
theorem Abu (m:Int) (n:Nat):(mkDs m n).length=n:=by simp[mkDs]
theorem AdG (m:Int) (n:Nat):MarkedD (mkDs m n) m n:=λi hi=>by simp[mkDs,hi]
theorem Aiu {ys:List Done} {m:Int} {n:Nat} (hl:ys.length=n) (h:MarkedD ys m n):ys=mkDs m n:=by
 refine List.ext_getElem? λi=>?_;by_cases hi:i<n
 ·rw[h i hi];exact (AdG m n i hi).symm
 ·rw[C7 (by omega),C7 (by rw[Abu];omega)]
def mkH (h:House):House:=⟨h.now,h.last,mkBk h.sh,mkA mkRb szRb (mkEnd h.sh) h.bs,mkDs (mkEnd h.sh+szA szRb h.bs) h.ds.length⟩
def endH (h:House):Int:=mkEnd h.sh+szA szRb h.bs+3*h.ds.length
structure LitH (h:House):Prop where
 k:Lit h.sh
 n:h.bs.length<=100
 x:∀x∈h.bs,x.ps.length<=100/\x.sl.length<=100
 d:h.ds.length<=100
structure HQ (w:World) (base:Nat) (h:House) (tv bv xv dv:Value):Prop where
 k:BkF w base (.agg #[tv,bv]) h.sh
 x:∃ps,RbsQ w base xv ps/\ps.map (·.1)=h.bs
 d:w.ownsRow base 90 3 dv h.ds.length (rowsF Done.cells h.ds)
theorem HP.q {w:World} {base:Nat} {h:House} {tv bv xv dv:Value} (H:HP w base h tv bv xv dv):HQ w base h tv bv xv dv:=⟨H.k,H.x.imp λ_ x=>⟨x.1.q,x.2⟩,H.d.1⟩
theorem HQ.up {w w':World} {base:Nat} {h:House} {tv bv xv dv:Value} (H:HQ w base h tv bv xv dv) (hb:Below w.heap.size w w'):HQ w' base h tv bv xv dv:=⟨H.k.up hb,H.x.imp λ_ x=>⟨x.1.up hb,x.2⟩,E1 H.d hb⟩
theorem HQ.shapes {w:World} {base:Nat} {h:House} {tv bv xv dv:Value} (H:HQ w base h tv bv xv dv):∃a1 c1 a2 c2 a3 c3 a4 c4,tv=.slice a1 h.sh.things.length c1/\bv=.slice a2 h.sh.bs.length c2/\xv=.slice a3 h.bs.length c3/\dv=.slice a4 h.ds.length c4:=by
 obtain⟨a1,c1,a2,c2,e⟩:=H.k.shape;obtain⟨ps,h1,h2⟩:=H.x;obtain⟨a3,c3,e3⟩:=F2 h1.m;obtain⟨a4,c4,e4⟩:=F2 H.d;simp at e;rw[show ps.length=h.bs.length by rw[← h2,B4]] at e3;exact⟨a1,c1,a2,c2,a3,c3,a4,c4,e.1,e.2,e3,e4⟩
theorem Fam.kp {T:List Nat} {w w':World} {B:Nat} {q:Option Nat} {fs:List (Value×List ByteArray)} (h:Fam w B q fs) (hk:KpT T w w') (h1:9∉T):Fam w' B q fs:=⟨λf hf=>hk _ _ _ _ _ _ h1 (h.own f hf),h.ap,h.av⟩
theorem BkF.kp {T:List Nat} {w w':World} {base:Nat} {v:Value} {b:Bk} (h:BkF w base v b) (hk:KpT T w w') (h1:9∉T) (h2:128∉T):BkF w' base v b:=by
 obtain⟨a1,c1,a2,c2,ps,rfl,hB,hm,hF⟩:=h;exact⟨a1,c1,a2,c2,ps,rfl,⟨hk _ _ _ _ _ _ h2 hB.1,λp hp=>⟨hk _ _ _ _ _ _ h1 (hB.2 p hp).1,hk _ _ _ _ _ _ h1 (hB.2 p hp).2.1,(hB.2 p hp).2.2⟩⟩,hm,hF.kp hk h1⟩
theorem AfS (h:House) (base:Nat) (tv bv xv dv:Value) (w:World) (H:HQ w base h tv bv xv dv) (hl:LitH h) (hz:base<=w.heap.size) :
  Calls Tryz.prog 9 #[.agg #[.int .i64 h.now,.int .i64 h.last,tv,bv,xv,dv],.int .i64 1] w λe w'=>e=.returned (.int .i64 (endH h))/\HQ w' base (mkH h) tv bv xv dv/\Below base w w'/\KpT [9,128,52,84,169,90] w w':=by
 obtain⟨a1,c1,a2,c2,a3,c3,a4,c4,rfl,rfl,rfl,rfl⟩:=H.shapes;obtain⟨lk,ln,lx,ld⟩:=hl;have Hlid:Hid ((szBas h.sh.bs<=201*h.sh.bs.length)/\szA szRb h.bs<=1004*h.bs.length):=⟨AaE h.sh.bs lk.2.2,Afg 1004 _ λx hx=>by have:=lx x hx;simp only[szRb];omega⟩;have Hme:Hid (mkEnd h.sh=1+h.sh.things.length+szBas h.sh.bs):=rfl;obtain⟨ps,hps,hpm⟩:=H.x;obtain⟨W1,hW1,kA,hB1,hs1⟩:∃W1,w.alloc (.cells #[.int .i64 h.now,.int .i64 h.last,.slice a1 h.sh.things.length c1,.slice a2 h.sh.bs.length c2,.slice a3 h.bs.length c3,.slice a4 h.ds.length c4] 37)=W1/\W1.ownsRow w.heap.size 37 6 (.slice (some ⟨w.heap.size,0,none⟩) 1 1) 1 [.int .i64 h.now,.int .i64 h.last,.slice a1 h.sh.things.length c1,.slice a2 h.sh.bs.length c2,.slice a3 h.bs.length c3,.slice a4 h.ds.length c4]/\Below w.heap.size w W1/\W1.heap.size=w.heap.size+1:=⟨_,rfl,B9 w _ 1 (A3 _) (by unfold maxLen;omega) rfl,(A4 _ _).alloc (A3 _) _,by simp⟩;have hk1:=(H.k.off (A3 _)).up hB1;have hx1:=hps.up hB1;have hd1:=E1 H.d hB1;have hBB1:Below base w W1:=(A4 base w).trans (hB1.mono hz);have HK1:Hid (KpT [9,128,52,84,169,90] w W1):=(KpT.refl _ _).up hB1;have hm9:mkEnd h.sh<=30000:=by have:=Hlid.out.1;have:=lk.1;have:=lk.2.1;rw[Hme.out];omega
 have hm1:1<=mkEnd h.sh:=by rw[Hme.out];omega
 clear H hps hB1;go_enter Tryz.func9,Tryz.ntmps9
 go_upto_region 1 with fail
 try rw[hW1]
 clear hW1;obtain⟨e0,e1,e2,e3,e4,e5⟩:=(D9 kA).c6;go_wp2_with fail
 refine (AjW h.sh base _ W1 w.heap.size (by omega) hk1 lk (by omega)).mono ?_;rintro e w2 ⟨rfl,hk2,hb2,-,hp2⟩;have hz2:=hb2.size;have kA2:=hp2 _ _ _ _ _ _ (by decide) kA;have hx2:=hx1.kp hp2 (by decide) (by decide) (by decide);have hd2:=hp2 _ _ _ _ _ _ (by decide) hd1;have hBB2:=hBB1.trans hb2;have HK2:Hid (KpT [9,128,52,84,169,90] w w2):=HK1.out.trans (hp2.more (by decide));clear e0 e1 e2 e3 e4 e5 kA hx1 hd1 hBB1 hb2 hp2 hk1 HK1;obtain⟨e0,e1,e2,e3,e4,e5⟩:=(D9 kA2).c6;go_wp2_with fail
 refine (Ais h.bs base _ ps (mkEnd h.sh) w2 hx2 hpm (by omega) ln lx hm1 (by omega)).mono ?_;rintro e w3 ⟨rfl,⟨qs,hx3,hq3⟩,hb3,hp3⟩;have hz3:=hb3.size;have kA3:=hp3 _ _ _ _ _ _ (by decide) kA2;have hk3:=hk2.free.kp hp3 (by decide) (by decide);have hd3:=hp3 _ _ _ _ _ _ (by decide) hd2;have hBB3:=hBB2.trans hb3;have HK3:Hid (KpT [9,128,52,84,169,90] w w3):=HK2.out.trans (hp3.more (by decide));clear e0 e1 e2 e3 e4 e5 kA2 hx2 hd2 hBB2 hb3 hp3 hk2 HK2;obtain⟨e0,e1,e2,e3,e4,e5⟩:=(D9 kA3).c6;have hs9:=Hlid.out.2;go_wp2_with fail
 refine (Akm h.ds base _ (mkEnd h.sh+szA szRb h.bs) w3 hd3 (by omega) (by omega) (by omega)).mono ?_;rintro e w4 ⟨rfl,⟨ys,hyl,hym,hoy⟩,hg4⟩;obtain rfl:=Aiu hyl hym;have hp4:KpT [90] w3 w4:=(KpT.refl _ _).gr hd3 (by decide) hg4;have hk4:=hk3.kp hp4 (by decide) (by decide);have hx4:=hx3.kp hp4 (by decide) (by decide) (by decide);have hBB4:=F1 hBB3 (by omega) hd3 hg4 (A3 _);have HK4:Hid (KpT [9,128,52,84,169,90] w w4):=HK3.out.trans (hp4.more (by decide));have HQ4:Hid (HQ w4 base (mkH h) (.slice a1 h.sh.things.length c1) (.slice a2 h.sh.bs.length c2) (.slice a3 h.bs.length c3) (.slice a4 h.ds.length c4)):=⟨hk4,⟨qs,hx4,hq3⟩,hoy⟩;clear e0 e1 e2 e3 e4 e5 kA3 hx3 hd3 hBB3 hp4 hk3 HK3 hyl hym hoy hg4 hk4 hx4;go_wp2_with fail
 go_ret
 exact⟨rfl,HQ4.out,hBB4,HK4.out⟩
theorem AcL (h:House) (base:Nat) (tv bv xv dv:Value) (w:World) (H:HQ w base (mkH h) tv bv xv dv) (hl:LitH h) :
  Calls Tryz.prog 10 #[.agg #[.int .i64 h.now,.int .i64 h.last,tv,bv,xv,dv],.int .i64 1] w λe w'=>e=.returned (.int .i64 (endH h))/\Below w.heap.size w w':=by
 obtain⟨a1,c1,a2,c2,a3,c3,a4,c4,e1,e2,e3,e4⟩:=H.shapes;rw[show (mkH h).sh.things.length=h.sh.things.length from M7 _ _] at e1;rw[show (mkH h).sh.bs.length=h.sh.bs.length from M3 _ _] at e2;rw[show (mkH h).bs.length=h.bs.length from Z9 _ _] at e3;rw[show (mkH h).ds.length=h.ds.length from Abu _ _] at e4;subst e1 e2 e3 e4;obtain⟨lk,ln,lx,ld⟩:=hl;have Hlid:Hid ((szBas h.sh.bs<=201*h.sh.bs.length)/\szA szRb h.bs<=1004*h.bs.length):=⟨AaE h.sh.bs lk.2.2,Afg 1004 _ λx hx=>by have:=lx x hx;simp only[szRb];omega⟩;have Hme:Hid (mkEnd h.sh=1+h.sh.things.length+szBas h.sh.bs):=rfl;obtain⟨ps,hps,hpm⟩:=H.x;obtain⟨W1,hW1,kA,hB1,hs1⟩:=K9 w [.int .i64 h.now,.int .i64 h.last,.slice a1 h.sh.things.length c1,.slice a2 h.sh.bs.length c2,.slice a3 h.bs.length c3,.slice a4 h.ds.length c4] 37;have hk:BkF w base (.agg #[.slice a1 h.sh.things.length c1,.slice a2 h.sh.bs.length c2]) (mkBk h.sh):=H.k;have hd:w.ownsRow base 90 3 (.slice a4 h.ds.length c4) (mkDs (mkEnd h.sh+szA szRb h.bs) h.ds.length).length (rowsF Done.cells (mkDs (mkEnd h.sh+szA szRb h.bs) h.ds.length)):=H.d;have hpm:ps.map (·.1)=mkA mkRb szRb (mkEnd h.sh) h.bs:=hpm;have hm9:mkEnd h.sh<=30000:=by have:=Hlid.out.1;have:=lk.1;have:=lk.2.1;rw[Hme.out];omega
 have hm1:1<=mkEnd h.sh:=by rw[Hme.out];omega
 clear H;go_enter Tryz.func10,Tryz.ntmps10
 go_upto_region 1 with fail
 try rw[hW1]
 clear hW1;obtain⟨e0,e1,e2,e3,e4,e5⟩:=kA.c6;go_wp2_with fail
 refine (AfQ h.sh base _ W1 (hk.up hB1) lk).mono ?_;rintro e w2 ⟨rfl,hb2⟩;have hB2:=D6 hB1 hb2;have kA2:=kA.up hb2 (by omega);have hz2:=hb2.size;clear e0 e1 e2 e3 e4 e5 kA hB1 hb2;obtain⟨e0,e1,e2,e3,e4,e5⟩:=kA2.c6;have hn1:¬(mkEnd h.sh<0):=by omega
 go_wp2_with fail
 refine (Ait h.bs base _ ps (mkEnd h.sh) w2 (hps.up hB2) hpm ln lx hm1 (by omega)).mono ?_;rintro e w3 ⟨rfl,hb3⟩;have hB3:=D6 hB2 hb3;have kA3:=kA2.up hb3 (by omega);clear e0 e1 e2 e3 e4 e5 kA2 hB2 hb3;obtain⟨e0,e1,e2,e3,e4,e5⟩:=kA3.c6;have hs9:=Hlid.out.2;have hn2:¬(mkEnd h.sh+(szA szRb h.bs:Int)<0):=by omega
 go_wp2_with fail
 refine (Akn (mkDs (mkEnd h.sh+szA szRb h.bs) h.ds.length) base _ (mkEnd h.sh+szA szRb h.bs) w3 (E1 hd hB3) (by rw[Abu];exact AdG _ _) (by rw[Abu];omega) (by omega) (by omega)).mono ?_;rw[Abu];rintro e w4 ⟨rfl,hb4⟩;have hB4:=D6 hB3 hb4;clear e0 e1 e2 e3 e4 e5 kA3 hB3 hb4;have hn3:¬(mkEnd h.sh+(szA szRb h.bs:Int)+3*(h.ds.length:Int)<0):=by omega
 go_wp2_with fail
 go_ret
 exact⟨rfl,hB4⟩
def ShB (bs:List Rb):Prop:=∀x∈bs,x.ps.length<=100/\x.sl.length<=100
theorem ShB.set {bs:List Rb} (h:ShB bs) {k:Nat} {x y:Rb} (hx:bs[k]?=some x) (h1:y.ps=x.ps) (h2:y.sl=x.sl):ShB (bs.set k y):=λz hz=>by
 rcases List.mem_or_eq_of_mem_set hz with h3|rfl
 ·exact h z h3
 ·rw[h1,h2];exact h x (A6 hx)
theorem ShB.cut {bs:List Rb} (h:ShB bs) (k:Nat):ShB (bs.take k++bs.drop (k+1)):=λz hz=>by
 rcases D1.1 hz with h1|h1
 ·exact h z (List.mem_of_mem_take h1)
 ·exact h z (List.mem_of_mem_drop h1)
theorem Amg {h:House} (H:ShB h.bs) (k:Nat) (nm:ByteArray):ShB (onH h k nm).bs:=by
 unfold onH;split
 ·exact H
 ·rename_i x hx
  split
  ·exact H.set hx rfl rfl
  ·exact H.cut k
theorem Amh {h:House} (H:ShB h.bs) (k:Nat):ShB (goT h k).bs:=by
 unfold goT;split
 ·exact H
 ·rename_i x hx
  have hs:ShB (h.bs.set k {x with si:=x.si+1}):=H.set hx rfl rfl;split
  ·split
   ·exact Amg (h:={h with bs:=h.bs.set k {x with si:=x.si+1}}) hs _ _
   ·exact hs
  ·exact H
theorem AeM:∀(k:Nat) {h:House},ShB h.bs->ShB (goTo h k).bs
 | 0,_,H=>H
 | k+1,_,H=>AeM k (Amh H k)
theorem Ako {h:House} (H:ShB h.bs) (k:Nat):ShB (askH h k).bs:=by
 unfold askH;split
 ·exact H
 ·rename_i x hx
  split
  ·exact H
  ·split
   ·exact H.set hx rfl rfl
   ·exact H
theorem AdH {h:House} (H:ShB h.bs):∀k,ShB (asksH h k).bs
 | 0=>H
 | k+1=>Ako (AdH H k) k
theorem HouseOk.short {h:House} (H:HouseOk h):ShB h.bs:=λx hx=>by
 obtain⟨i,hi⟩:=C6.1 hx;have hk:=H.batch hi;have h1:=((J8 x.ps).1 hk.2.1).2.1;have h2:=SlotsOk.len hk.2.2.1;omega
theorem Ahv:∀(k:Nat) {h:House},h.ds.length<=20->(∀x∈h.bs,-1<=x.si)->(goTo h k).ds.length<=20/\(goTo h k).bs.length<=h.bs.length
 | 0,_,h1,_=>⟨h1,A3 _⟩
 | k+1,h,h1,h2=>by
  obtain⟨-,-,a3,a4,a5⟩:=Af7 (h:=h) k h1 h2;obtain⟨b1,b2⟩:=Ahv k a3 a5;exact⟨b1,B1 b2 a4⟩
theorem Anw {b:Bk} (h:Tiny b):Lit b:=⟨by have:=h.1;omega,by have:=h.2.1;omega,λx hx=>by have:=h.2.2 x hx;omega⟩
theorem Anx:ShB noHouse.bs:=λx hx=>by simp[noHouse] at hx
theorem Anz {h h':House} {c:Int} (H:TickP h c h') (hf:Few h'):LitH h':=by
 obtain⟨f1,-,-⟩:=hf
 have key:h'.bs.length<=100/\ShB h'.bs/\h'.ds.length<=100:=by
  rcases H with⟨-,-,rfl⟩|⟨hk,-,-,rfl⟩|⟨hk,-,-,rfl⟩
  ·exact⟨by simp[noHouse],Anx,by simp[noHouse]⟩
  ·obtain⟨-,t2,t3⟩:=hk.tiny
   exact⟨by omega,hk.short,by omega⟩
  ·obtain⟨-,t2,t3⟩:=hk.tiny
   have hsi:∀x∈h.bs,-1<=x.si:=λx hx=>by
    obtain⟨i,hi⟩:=C6.1 hx;exact (hk.batch hi).2.2.2.2.2.1
   obtain⟨g1,g2⟩:=Ahv h.bs.length (h:={h with now:=h.now+1}) t3 hsi;obtain⟨-,-,a3,a4⟩:=Aao (goTo {h with now:=h.now+1} h.bs.length) (goTo {h with now:=h.now+1} h.bs.length).bs.length;refine⟨by rw[a4];exact B1 g2 (by show h.bs.length<=100;omega),AdH (AeM _ (h:={h with now:=h.now+1}) hk.short) _,by rw[a3];omega⟩
 exact⟨Anw f1,key.1,key.2.1,key.2.2⟩
theorem Aow (w:World) (base:Nat):HQ w base noHouse (.slice none 0 0) (.slice none 0 0) (.slice none 0 0) (.slice none 0 0) :=
 ⟨Agv w base,⟨[],⟨B8 _ _ _ _,λi p hp=>by simp at hp,λi p hp=>by simp at hp,λi j p q _ hp=>by simp at hp⟩,rfl⟩,B8 _ _ _ _⟩
theorem HPX.q {w:World} {base:Nat} {h:House} {tv bv xv dv:Value} (H:HPX w base h tv bv xv dv):HQ w base h tv bv xv dv:=by
 rcases H with H|⟨rfl,rfl,rfl,rfl,rfl⟩
 ·exact H.q
 ·exact Aow w base
theorem BkF.outw {w w':World} {lo hi base:Nat} {v:Value} {b:Bk} (h:BkF w base v b) (ho:Out lo hi w w') (hb:hi<=base):BkF w' base v b:=by
 obtain⟨a1,c1,a2,c2,ps,e,h1,h2,h3⟩:=h;exact⟨a1,c1,a2,c2,ps,e,⟨X6 h1.1 ho hb,λp hp=>⟨X6 (h1.2 p hp).1 ho hb,X6 (h1.2 p hp).2.1 ho hb,(h1.2 p hp).2.2⟩⟩,h2,h3.keep λf _ hf=>X6 hf ho hb⟩
theorem RcW.outw {w w':World} {lo hi base:Nat} {p:Rv} (h:RcW w base p) (ho:Out lo hi w w') (hb:hi<=base):RcW w' base p:={h with r:=X6 h.r ho hb,s:=X6 h.s ho hb}
theorem HP.outw {w w':World} {lo hi base:Nat} {h:House} {tv bv xv dv:Value} (H:HP w base h tv bv xv dv) (ho:Out lo hi w w') (hb:hi<=base):HP w' base h tv bv xv dv :=
 ⟨H.k.outw ho hb,H.z,H.x.imp λ_ x=>⟨⟨⟨X6 x.1.1.1 ho hb,λp hp=>(x.1.1.2 p hp).outw ho hb⟩,x.1.2⟩,x.2⟩,⟨X6 H.d.1 ho hb,H.d.2⟩⟩
theorem HPX.outw {w w':World} {lo hi base:Nat} {h:House} {tv bv xv dv:Value} (H:HPX w base h tv bv xv dv) (ho:Out lo hi w w') (hb:hi<=base):HPX w' base h tv bv xv dv:=H.imp (λx=>x.outw ho hb) id
theorem An0 (h:House):1<=endH h:=by have:=AlH h.sh;unfold endH;omega
theorem HR.shp {w:World} {l0 l1 l2 l3 b gd:Nat} {h:House} {tv bv:Value} (H:HR w l0 l1 l2 l3 h tv bv b gd):∃y1 y2,tv=.slice (some ⟨y1,0,none⟩) h.sh.things.length h.sh.things.length/\bv=.slice (some ⟨y2,0,none⟩) h.sh.bs.length h.sh.bs.length:=by
 obtain⟨bt,bb,mid,e,-⟩:=H.k;simp at e;exact⟨bt,bb,e.1,e.2⟩
theorem HSmall.lists {h:House} (H:HSmall h):∀x∈h.bs,x.ps.length<=1048576/\x.sl.length<=1048576:=λx hx=>by
 obtain⟨i,hi⟩:=C6.1 hx;exact H.x i x (A2.1 hi).1 hi
theorem Aiv (h:House) (tv bv xv dv:Value) (w:World) (hE:Ends w) (hT:ErrT w) (H:HSrc w h tv bv xv dv) :
  Calls Tryz.prog 3 #[.agg #[.int .i64 h.now,.int .i64 h.last,tv,bv,xv,dv]] w λe' w'=>e'=.returned (.bool true)/\Below w.heap.size w w':=by
 obtain⟨a1,c1,a2,c2,a3,c3,a4,c4,rfl,rfl,rfl,rfl⟩:=H.shapes;obtain⟨W1,hW1,kA,hB1,hs1⟩:=K9 w [.int .i64 h.now,.int .i64 h.last,.slice a1 h.sh.things.length c1,.slice a2 h.sh.bs.length c2,.slice a3 h.bs.length c3,.slice a4 h.ds.length c4] 29;go_enter Tryz.func3,Tryz.ntmps3
 go_upto_region 1 with fail
 try rw[hW1]
 clear hW1;obtain⟨p0,p1,p2,p3,p4,p5⟩:=kA.c6;go_wp2_with fail
 refine (Aib h _ _ _ _ _ _ (H.up hB1) (by omega) (by omega)).mono ?_;rintro e w2 ⟨⟨x,rfl,hx⟩,hb2⟩;have hz2:=hb2.size;have hB2:=D6 hB1 hb2;have kA2:=kA.up hb2 (by omega);clear p0 p1 p2 p3 p4 p5;clear kA hB1 hb2;by_cases hx0:x<0
 ·clear hx
  go_wp2_with fail
  go_ret
  exact⟨rfl,hB2⟩
 have hm:HSmall h:=hx (by omega);clear hx;have Hls:Hid (∀x∈h.bs,x.ps.length<=1048576/\x.sl.length<=1048576):=hm.lists;obtain⟨p0,p1,p2,p3,p4,p5⟩:=kA2.c6;go_wp2_with fail
 refine (Aak h _ _ _ _ _ (H.up hB2) hm).mono ?_;rintro e w3 ⟨⟨tu,bu,b3,g3,l1,l2,rfl,hC3,-⟩,hb3⟩;have hz3:=hb3.size;go_wp2_with fail
 refine (Amb h _ _ _ _ _ (hC3.v H hm)).mono ?_;rintro e w4 ⟨⟨hN,tw,bw,xw,dw,cd,rfl,hI,hf,hX4⟩,hb4⟩;have hz4:=hb4.size;have hb34:=D6 hb3 hb4;have hB4:=D6 hB2 hb34;have kA4:=kA2.up hb34 (by omega);have hV4:=hX4.v;obtain⟨e1,f1,e2,f2,e3,f3,e4,f4,rfl,rfl,rfl,rfl⟩:=hV4.shapes;have HI:Hid (TickIs h cd hN):=hI;have Hf:Hid (Few hN):=hf;clear p0 p1 p2 p3 p4 p5;clear kA2 hB2 hb3 hb4 hb34 hC3 hX4 hI hf;go_upto_region 6 with fail
 obtain⟨W5,hW5,kW5,hb5,hs5⟩:=K9 w4 [.int .i64 hN.now,.int .i64 hN.last,.slice e1 hN.sh.things.length f1,.slice e2 hN.sh.bs.length f2,.slice e3 hN.bs.length f3,.slice e4 hN.ds.length f4] 37;try rw[hW5]
 clear hW5;have kA5:=kA4.up hb5 (by omega);have hV5:=hV4.up hb5;have hB5:=D6 hB4 hb5;have hE5:=hE.up hB5;have hT5:=hT.up hB5;clear kA4 hV4 hB4 hb5 hE hT;obtain⟨p0,p1,p2,p3,p4,p5⟩:=kA5.c6;go_wp2_with fail
 refine (Aak h _ _ _ _ _ (H.up hB5) hm).mono ?_;rintro e w6 ⟨⟨tu,bu,b5,g5,l1,l2,rfl,hC6,hR6⟩,hb6⟩;obtain⟨y1,y2,rfl,rfl⟩:=hR6.shp;have hz6:=hb6.size;clear p0 p1 p2 p3 p4 p5;go_upto_region 7 with fail
 obtain⟨W7,hW7,kX7,hb7,hs7⟩:=K9 w6 [.int .i64 h.now,.int .i64 h.last,.slice (some ⟨y1,0,none⟩) h.sh.things.length h.sh.things.length,.slice (some ⟨y2,0,none⟩) h.sh.bs.length h.sh.bs.length,.slice (some ⟨b5,0,none⟩) h.bs.length h.bs.length,.slice (some ⟨g5,0,none⟩) h.ds.length h.ds.length] 37;try rw[hW7]
 clear hW7;have hL7:=D6 hb6 hb7;have hC7:=hC6.up hb7;have hR7:=hR6.up hb7;clear hC6 hR6 hb6 hb7;obtain⟨p0,p1,p2,p3,p4,p5⟩:=kX7.c6;go_wp2_with fail
 refine (AfB h _ _ _ _ _ (hE5.up hL7) (hT5.up hL7) (hC7.v H hm)).mono ?_;rintro e w8 ⟨⟨h2,tg,bg,xg,dg,cd2,rfl,hP,hX8⟩,hb8⟩;obtain⟨ec,eh⟩:=Ahs HI.out hP;subst ec eh;have Hlit:Hid (LitH hN):=Anz hP Hf.out;clear hP;have hz8:=hb8.size;obtain⟨i1,j1,i2,j2,i3,j3,i4,j4,rfl,rfl,rfl,rfl⟩:=hX8.v.shapes;have hL8:=D6 hL7 hb8;have kX8:=kX7.up hb8 (by omega);have hC8:=hC7.up hb8;have hR8:=hR7.up hb8;clear p0 p1 p2 p3 p4 p5;clear hL7 kX7 hC7 hR7 hb8;go_upto_region 8 with fail
 obtain⟨W9,hW9,kG9,hb9,hs9⟩:∃W9,w8.alloc (.cells #[.int .i64 hN.now,.int .i64 hN.last,.slice i1 hN.sh.things.length j1,.slice i2 hN.sh.bs.length j2,.slice i3 hN.bs.length j3,.slice i4 hN.ds.length j4] 37)=W9/\W9.ownsRow W7.heap.size 37 6 (.slice (some ⟨w8.heap.size,0,none⟩) 1 1) 1 [.int .i64 hN.now,.int .i64 hN.last,.slice i1 hN.sh.things.length j1,.slice i2 hN.sh.bs.length j2,.slice i3 hN.bs.length j3,.slice i4 hN.ds.length j4]/\Below w8.heap.size w8 W9/\W9.heap.size=w8.heap.size+1:=⟨_,rfl,B9 w8 _ 1 (by omega) (by unfold maxLen;omega) rfl,(cb1 w8 [.int .i64 hN.now,.int .i64 hN.last,.slice i1 hN.sh.things.length j1,.slice i2 hN.sh.bs.length j2,.slice i3 hN.bs.length j3,.slice i4 hN.ds.length j4] _).2⟩;try rw[hW9]
 clear hW9;have hL9:=D6 hL8 hb9;have kX9:=kX8.up hb9 (by omega);have hC9:=hC8.up hb9;have hR9:=hR8.up hb9;have hG9:=hX8.up hb9;have kW9:=kW5.up hL9 (by omega);clear hL8 kX8 hC8 hR8 hX8 hb9;obtain⟨p0,p1,p2,p3,p4,p5⟩:=(D9 kG9).c6;obtain⟨q0,q1,q2,q3,q4,q5⟩:=kW9.c6;go_wp2_with fail
 refine (Aal hN _ _ _ _ _ _ _ _ _ hG9.v (hV5.up hL9)).mono ?_;rintro e wA ⟨rfl,hbA⟩;have hzA:=hbA.size;have hLA:=D6 hL9 hbA;have kXA:=kX9.up hbA (by omega);have kGA:=E1 kG9 hbA;have hCA:=hC9.up hbA;have hRA:=hR9.up hbA;have hGA:=hG9.up hbA;have kAA:=kA5.up hLA (by omega);clear p0 p1 p2 p3 p4 p5;clear q0 q1 q2 q3 q4 q5;clear kW9 hL9 kX9 kG9 hC9 hR9 hG9 hbA;obtain⟨p0,p1,p2,p3,p4,p5⟩:=kAA.c6;obtain⟨q0,q1,q2,q3,q4,q5⟩:=kXA.c6;have hS0:Below wA.heap.size wA wA/\wA.cell? ⟨w.heap.size,0,none⟩=some (.int .i64 h.now)/\wA.cell? ⟨w.heap.size,1,none⟩=some (.int .i64 h.last)/\wA.cell? ⟨w.heap.size,2,none⟩=some (.slice a1 h.sh.things.length c1)/\wA.cell? ⟨w.heap.size,3,none⟩=some (.slice a2 h.sh.bs.length c2)/\wA.cell? ⟨w.heap.size,4,none⟩=some (.slice a3 h.bs.length c3)/\wA.cell? ⟨w.heap.size,5,none⟩=some (.slice a4 h.ds.length c4)/\wA.cell? ⟨w6.heap.size,0,none⟩=some (.int .i64 h.now)/\wA.cell? ⟨w6.heap.size,1,none⟩=some (.int .i64 h.last)/\wA.cell? ⟨w6.heap.size,2,none⟩=some (.slice (some ⟨y1,0,none⟩) h.sh.things.length h.sh.things.length)/\wA.cell? ⟨w6.heap.size,3,none⟩=some (.slice (some ⟨y2,0,none⟩) h.sh.bs.length h.sh.bs.length)/\wA.cell? ⟨w6.heap.size,4,none⟩=some (.slice (some ⟨b5,0,none⟩) h.bs.length h.bs.length)/\wA.cell? ⟨w6.heap.size,5,none⟩=some (.slice (some ⟨g5,0,none⟩) h.ds.length h.ds.length):=⟨A4 _ _,p0,p1,p2,p3,p4,p5,q0,q1,q2,q3,q4,q5⟩;have hq6:w6.heap.size<wA.heap.size:=by omega
 have hq0:w.heap.size<wA.heap.size:=by omega
 have hBA:=D6 hB5 hLA;clear p0 p1 p2 p3 p4 p5;clear q0 q1 q2 q3 q4 q5;go_wp2_with fail
 go_region_held (λw'=>Below wA.heap.size wA w'/\w'.cell? ⟨w.heap.size,0,none⟩=some (.int .i64 h.now)/\w'.cell? ⟨w.heap.size,1,none⟩=some (.int .i64 h.last)/\w'.cell? ⟨w.heap.size,2,none⟩=some (.slice a1 h.sh.things.length c1)/\w'.cell? ⟨w.heap.size,3,none⟩=some (.slice a2 h.sh.bs.length c2)/\w'.cell? ⟨w.heap.size,4,none⟩=some (.slice a3 h.bs.length c3)/\w'.cell? ⟨w.heap.size,5,none⟩=some (.slice a4 h.ds.length c4)/\w'.cell? ⟨w6.heap.size,0,none⟩=some (.int .i64 h.now)/\w'.cell? ⟨w6.heap.size,1,none⟩=some (.int .i64 h.last)/\w'.cell? ⟨w6.heap.size,2,none⟩=some (.slice (some ⟨y1,0,none⟩) h.sh.things.length h.sh.things.length)/\w'.cell? ⟨w6.heap.size,3,none⟩=some (.slice (some ⟨y2,0,none⟩) h.sh.bs.length h.sh.bs.length)/\w'.cell? ⟨w6.heap.size,4,none⟩=some (.slice (some ⟨b5,0,none⟩) h.bs.length h.bs.length)/\w'.cell? ⟨w6.heap.size,5,none⟩=some (.slice (some ⟨g5,0,none⟩) h.ds.length h.ds.length)) (first|exact AmE hS0|exact k12_up hq0 hq6 (by assumption) (by assumption))
  (first
   | (go_at_call 6;refine (Aak h _ _ _ _ _ (H.up hBA.drew) hm).mono ?_;rintro e' wz ⟨⟨r1,r2,r3,r4,r5,r6,rfl,hCz,hRz⟩,hbz⟩;have hxz:=(hCA.up (A4 _ _).drew).up hbz;obtain⟨z1,z2,rfl,rfl⟩:=hRz.shp)
   | (go_at_call 8;refine (Aal h _ _ _ _ _ _ _ _ _ (hxz.v H hm) (hCz.v H hm)).mono ?_;rintro e' wB ⟨rfl,hby⟩))
 rename_i hHeld;have hbB:=hHeld.1;have hzB:=hbB.size;have hLB:=D6 hLA hbB;have kXB:=kXA.up hbB (by omega);have kGB:=E1 kGA hbB;have hRB:=hRA.up hbB;have hGB:=hGA.up hbB;clear hHeld hS0 hxz hCz hRz hbz hby hLA kXA kGA hCA hRA hGA kAA hBA hbB;obtain⟨p0,p1,p2,p3,p4,p5⟩:=kXB.c6;go_wp2_with fail
 refine (Afb h _ _ _ _ _ _ _ _ _ hRB hm.k hm.n Hls.out hm.d).mono ?_;rintro e wC ⟨⟨mk,rfl,hk1⟩,hO⟩;have hzC:=hO.2.2.2.1;have hLC:Below W5.heap.size W5 wC:=hLB.trans (hO.below (by omega));have kGC:=X6 kGB hO (by omega);have hGC:=hGB.outw hO (by omega);have kWC:=kW5.up hLC (by omega);clear p0 p1 p2 p3 p4 p5;clear kXB kGB hRB hGB hLB hO;obtain⟨p0,p1,p2,p3,p4,p5⟩:=(D9 kGC).c6;obtain⟨q0,q1,q2,q3,q4,q5⟩:=kWC.c6;have hkb:decide (mk<0)=false:=by simp;omega
 go_wp2_with fail
 refine (Aal hN _ _ _ _ _ _ _ _ _ hGC.v (hV5.up hLC)).mono ?_;rintro e wD ⟨rfl,hbD⟩;have hzD:=hbD.size;have hLD:=D6 hLC hbD;have kGD:=E1 kGC hbD;have hGD:=hGC.up hbD;clear p0 p1 p2 p3 p4 p5;clear q0 q1 q2 q3 q4 q5;clear kWC kGC hGC hLC hbD;obtain⟨p0,p1,p2,p3,p4,p5⟩:=(D9 kGD).c6;go_wp2_with fail
 refine (AfS hN W7.heap.size _ _ _ _ _ hGD.q Hlit.out (by omega)).mono ?_;rintro e wE ⟨rfl,hFE,hbE,hkE⟩;have hzE:=hbE.size;have hLE:Below W5.heap.size W5 wE:=hLD.trans (hbE.mono (by omega));have kGE:wE.ownsRow W7.heap.size 37 6 (.slice (some ⟨w8.heap.size,0,none⟩) 1 1) 1 [.int .i64 hN.now,.int .i64 hN.last,.slice i1 hN.sh.things.length j1,.slice i2 hN.sh.bs.length j2,.slice i3 hN.bs.length j3,.slice i4 hN.ds.length j4]:=hkE _ _ _ _ _ _ (by decide) kGD;have hme:=An0 hN;clear p0 p1 p2 p3 p4 p5;clear kGD hGD hLD hbE hkE;obtain⟨p0,p1,p2,p3,p4,p5⟩:=(D9 kGE).c6;go_wp2_with fail
 refine (AcL hN W7.heap.size _ _ _ _ _ hFE Hlit.out).mono ?_;rintro e wF ⟨rfl,hbF⟩;have hzF:=hbF.size;have hLF:=D6 hLE hbF;have kGF:=E1 kGE hbF;have hFF:=hFE.up hbF;have hBF:=D6 hB5 hLF;have kAF:=kA5.up hLF (by omega);clear p0 p1 p2 p3 p4 p5;clear kGE hFE hLE hbF;obtain⟨p0,p1,p2,p3,p4,p5⟩:=kAF.c6;have hn1:¬endH hN<0:=by omega
 go_wp2_with fail
 refine (Aak h _ _ _ _ _ (H.up hBF) hm).mono ?_;rintro e wG ⟨⟨tu,bu,b6,g6,l3,l4,rfl,hCG,hRG⟩,hbG⟩;obtain⟨z1,z2,rfl,rfl⟩:=hRG.shp;have hzG:=hbG.size;have hLG:=D6 hLF hbG;have kGG:=E1 kGF hbG;have hFG:=hFF.up hbG;clear p0 p1 p2 p3 p4 p5;clear kAF kGF hFF hLF hbG hBF hRG;go_wp2_with fail
 refine (AfB h _ _ _ _ _ (hE5.up hLG) (hT5.up hLG) (hCG.v H hm)).mono ?_;rintro e wH ⟨⟨h3,tz,bz,xz,dz,cd3,rfl,hP,hXH⟩,hbH⟩;obtain⟨ec,eh⟩:=Ahs HI.out hP;subst ec eh;clear hP;obtain⟨m1,n1,m2,n2,m3,n3,m4,n4,rfl,rfl,rfl,rfl⟩:=hXH.v.shapes;have hzH:=hbH.size;have hLH:=D6 hLG hbH;have kGH:=E1 kGG hbH;have hFH:=hFG.up hbH;have hVH:=hXH.v;clear hCG hLG kGG hFG hbH hXH;go_upto_region 25 with fail
 obtain⟨W0,hW0,kH0,hb0,hs0⟩:=K9 wH [.int .i64 hN.now,.int .i64 hN.last,.slice m1 hN.sh.things.length n1,.slice m2 hN.sh.bs.length n2,.slice m3 hN.bs.length n3,.slice m4 hN.ds.length n4] 37;try rw[hW0]
 clear hW0;have hL0:=D6 hLH hb0;have kG0:=E1 kGH hb0;have hF0:=hFH.up hb0;have hh0:=hVH.up hb0;have kW0:=kW5.up hL0 (by omega);clear hLH kGH hFH hVH hb0;obtain⟨p0,p1,p2,p3,p4,p5⟩:=kH0.c6;obtain⟨q0,q1,q2,q3,q4,q5⟩:=kW0.c6;go_wp2_with fail
 refine (Aal hN _ _ _ _ _ _ _ _ _ hh0 (hV5.up hL0)).mono ?_;rintro e wJ ⟨rfl,hbJ⟩;have hLJ:=D6 hL0 hbJ;have kGJ:=E1 kG0 hbJ;have hFJ:=hF0.up hbJ;clear p0 p1 p2 p3 p4 p5;clear q0 q1 q2 q3 q4 q5;clear kW0 kH0 hL0 kG0 hF0 hh0 hbJ;obtain⟨p0,p1,p2,p3,p4,p5⟩:=(D9 kGJ).c6;go_wp2_with fail
 refine (AcL hN W7.heap.size _ _ _ _ _ hFJ Hlit.out).mono ?_;rintro e wK ⟨rfl,hbK⟩;have hBK:=D6 hB5 (D6 hLJ hbK);clear p0 p1 p2 p3 p4 p5;go_wp2_with fail
 go_ret
 exact⟨rfl,hBK⟩
end Go.Proofs.YtebfdccbmmpceaaGreatDoor
