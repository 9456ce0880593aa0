/- The laws' marks over batches that go on: written. -/
import Derived.Test.YtgecdacgmehmbaaGreatDoorMn4
import Derived.Test.YtgecdacgmehmbaaGreatDoorJ44
import Derived.Test.YtgecdacgmehmbaaGreatDoorJ38
import Derived.Test.YtgecdacgmehmbaaGreatDoorJ27
set_option maxRecDepth 20000
set_option maxHeartbeats 8000000
namespace Go.Proofs.YtgecdacgmehmbaaGreatDoor
open Go.RowKit
theorem Alr {m:Int} {bs:List Rb} {k:Nat} {ps:List Rv} (h:ps.map (·.1)=curA mkRb szRb m bs k) (hk:k<bs.length):∃ru su,ps[k]?=some (bs[k],ru,su):=by
 have h1:(ps.map (·.1))[k]?=some bs[k]:=by rw[h,Anq m bs k (Nat.le_of_lt hk),A0 hk]
 rw[B0] at h1;obtain⟨p,hp,e⟩:=B4.1 h1;exact⟨p.2.1,p.2.2,by rw[hp,← e]⟩
theorem AaW (ps:List Rv) (k:Nat) (a b:Rv):(ps.set k a).set k b=ps.set k b:=List.set_set _
theorem AhP (bs:List Rb) (base:Nat) (v:Value) (qs:List Rv) (m:Int) (w:World) (h:RbsQ w base v qs) (hq:qs.map (·.1)=bs) (hz:base<=w.heap.size) (hn:bs.length<=100) (hs:∀x∈bs,x.ps.length<=100/\x.sl.length<=100) (hm:1<=m) (hm9:m<=100000) :
  Calls Tryz.prog 47 #[v,.int .i64 m] w λe w'=>e=.returned (.int .i64 (m+szA szRb bs))/\(∃ps:List Rv,RbsQ w' base v ps/\ps.map (·.1)=mkA mkRb szRb m bs)/\Below base w w'/\KpT [71,73,81] w w':=by
 have hql:qs.length=bs.length:=by rw[← hq,B3]
 rcases C3 bs.length with h0|h0
 ·obtain rfl:bs=[]:=C4.1 h0
  obtain rfl:qs=[]:=by simpa using hq
  obtain⟨a,c,rfl⟩:=E9 h.m;have HR:Hid (RbsQ w base (.slice a 0 c) []):=h;clear h hq;simp only[List.length_nil];go_enter Tryz.func47,Tryz.ntmps47
  go_wp2
  go_rounds 1
  go_ret
  exact⟨by simp[szA],⟨[],HR.out,rfl⟩,A4 _ _,KpT.refl _ _⟩
 obtain⟨g,cap,rfl⟩:=F2 h.m (by omega);rw[hql] at h;have Hq:Hid (qs.map (·.1)=curA mkRb szRb m bs 0):=by show _=_;rw[Alo];exact hq
 clear hq;rw[hql];clear hql;go_enter Tryz.func47,Tryz.ntmps47
 go_wp2
 go_loopw [1,5] (λkk i w'=>∃(k:Nat) (ps:List Rv) (y:Int),k<=bs.length/\i=.int .i64 k/\kk=.int .i64 y/\y=m+szA szRb (bs.take k)/\1<=y/\y<=100000+1004*(k:Int)/\ps.map (·.1)=curA mkRb szRb m bs k/\RbsQ w' base (.slice (some ⟨g,0,none⟩) bs.length cap) ps/\Below base w w'/\KpT [71,73,81] w w') (λ_ i _=>bs.length-(intOf i).toNat)
 case atStart=>exact⟨0,qs,m,by omega,rfl,rfl,by simp[szA],hm,by omega,Hq.out,h,A4 _ _,KpT.refl _ _⟩
 case round =>
  clear h Hq;obtain⟨k,ps,y,hk,rfl,rfl,hy,hy1,hy9,hps,hR,hB,hK⟩:=hrel;have Hps:Hid (ps.map (·.1)=curA mkRb szRb m bs k):=hps;have Hy:Hid (y=m+szA szRb (bs.take k)):=hy;have HK:Hid (KpT [71,73,81] w wr):=hK;clear hps hy hK;by_cases hp:k<bs.length
  ·obtain⟨s1,s2⟩:=hs bs[k] (by simp)
   obtain⟨ru,su,hpk⟩:=Alr Hps.out hp
   have hpl:ps.length=bs.length:=by
    have:=congrArg List.length Hps.out;rw[B3,Am3 m bs k hk] at this;exact this
   have Hstep:Hid ((ps.set k ((mkRb y bs[k],ru,su):Rv)).map (·.1)=curA mkRb szRb m bs (k+1)):=by
    show _=_
    rw[List.map_set,Hps.out,Alp m bs k hp,← Hy.out]
   have Hsz:Hid (m+(szA szRb (bs.take (k+1)):Int)=y+szRb bs[k]):=by
    show _=_
    rw[A7 hp,AdL,Hy.out];omega
   have hkl:k<ps.length:=by omega
   have Hset:Hid (∀a:Rv,(ps.set k a)[k]?=some a):=λa=>C9 hkl;have Hpl:Hid (ps.length=bs.length):=hpl;generalize bs[k]=x0 at *;have hsz:=hB.size;clear hpl hkl Hps;go_wp2_with fail
   refine (F8 y wr (by omega)).mono ?_;rintro e w1 ⟨rfl,hB1⟩;have hR1:=hR.up hB1;have hz1:=hB1.size;have hBB1:Below base w w1:=hB.trans (hB1.mono (by omega));have HK1:Hid (KpT [71,73,81] w w1):=HK.out.up hB1;have hrow1:=hR1.m;rw[Hpl.out] at hrow1;have c0:=J6 K7 hrow1 hpk 0 _ rfl;have f0:=hrow1.frozenAt (k*6);obtain⟨hR2,hg2⟩:=hR1.cell (y:={x0 with nm:=mkB y}) hpk (j:=0) (u:=.string (mkB y)) (by omega) rfl rfl rfl;rw[Nat.add_zero] at c0 hR2 hg2;have hB2:=F5 hBB1 (by omega) hrow1 hg2 (A3 _);have HK2:Hid (KpT [71,73,81] w (w1.setCell ⟨g,k*6,none⟩ (.string (mkB y)))):=HK1.out.gr hrow1 (by decide) hg2;have hz2:(w1.setCell ⟨g,k*6,none⟩ (.string (mkB y))).heap.size=w1.heap.size:=by simp
   have hp2:=Hset.out ({x0 with nm:=mkB y},ru,su);clear hR hB hB1 hR1 hBB1 hrow1 hg2 HK HK1 hpk;go_upto_region 6 with fail
   clear c0 f0;generalize w1.setCell ⟨g,k*6,none⟩ (.string (mkB y))=W2 at *;have hor:=hR2.r _ _ hp2;have hos:=hR2.s _ _ hp2;obtain⟨a3,c3,e3⟩:=E9 hor;obtain⟨a4,c4,e4⟩:=E9 hos;simp only at e3 e4;subst e3 e4;have hrow2:=hR2.m;rw[List.length_set,Hpl.out] at hrow2;have q1:=J6 K7 hrow2 hp2 1 _ rfl;go_wp2_with fail
   refine (AjA x0.ps base _ (y+1) _ hor (by omega) (by omega) (by omega)).mono ?_;rintro e w3 ⟨rfl,⟨ys,hyl,hym,hoy⟩,hg3⟩;obtain rfl:=AhN hyl hym;have hz3:=hg3.size;have hR3:=hR2.phs hp2 hoy hg3;have hB3:=F5 hB2 (by omega) hor hg3 (A3 _);have HK3:Hid (KpT [71,73,81] w w3):=HK2.out.gr hor (by decide) hg3;rw[AaW] at hR3;have hp3:=Hset.out (({x0 with nm:=mkB y,ps:=mkPs (y+1) x0.ps.length}:Rb),(Value.slice a3 x0.ps.length c3),(Value.slice a4 x0.sl.length c4));clear q1 hR2 hB2 hor hos hrow2 hg3 hyl hym hoy hp2 HK2;have hos:=hR3.s _ _ hp3;have hrow3:=hR3.m;rw[List.length_set,Hpl.out] at hrow3;have q2:=J6 K7 hrow3 hp3 2 _ rfl;go_wp2_with fail
   refine (Aj6 x0.sl base _ (y+1+8*x0.ps.length) _ hos (by omega) (by omega) (by omega)).mono ?_;rintro e w4 ⟨rfl,⟨ys,hyl,hym,hoy⟩,hg4⟩;obtain rfl:=AhO hyl hym;have hz4:=hg4.size;have hR4:=hR3.slots hp3 hoy hg4;have hB4:=F5 hB3 (by omega) hos hg4 (A3 _);have HK4:Hid (KpT [71,73,81] w w4):=HK3.out.gr hos (by decide) hg4;rw[AaW] at hR4;clear q2 hR3 hB3 hos hrow3 hg4 hyl hym hoy hp3 HK3;obtain⟨z,hzz⟩:∃z:Int,z=y+1+8*x0.ps.length+2*x0.sl.length:=⟨_,rfl⟩;rw[← hzz];have hz9:z<=300000:=by omega
   have hz0:1<=z:=by omega
   have Hzz:Hid (mkRb y x0=⟨mkB y,mkPs (y+1) x0.ps.length,mkSs (y+1+8*x0.ps.length) x0.sl.length,mkB z,z+1,z+1+1⟩):=by show _=_;rw[hzz];rfl
   have Hzv:Hid (z=y+1+8*x0.ps.length+2*x0.sl.length):=hzz;clear hzz;go_wp2_with fail
   refine (F8 z w4 (by omega)).mono ?_;rintro e w5 ⟨rfl,hB5⟩;have hR5:=hR4.up hB5;have hz5:=hB5.size;have hBB5:Below base w w5:=hB4.trans (hB5.mono (by omega));have HK5:Hid (KpT [71,73,81] w w5):=HK4.out.up hB5;have hp5:=Hset.out (({x0 with nm:=mkB y,ps:=mkPs (y+1) x0.ps.length,sl:=mkSs (y+1+8*x0.ps.length) x0.sl.length}:Rb),(Value.slice a3 x0.ps.length c3),(Value.slice a4 x0.sl.length c4));have hrow5:=hR5.m;rw[List.length_set,Hpl.out] at hrow5;have c3':=J6 K7 hrow5 hp5 3 _ rfl;have c4':=J6 K7 hrow5 hp5 4 _ rfl;have c5':=J6 K7 hrow5 hp5 5 _ rfl;have f3:=hrow5.frozenAt (k*6+3);have f4:=hrow5.frozenAt (k*6+4);have f5:=hrow5.frozenAt (k*6+5);obtain⟨hR6,hg6⟩:=hR5.cell (y:=⟨mkB y,mkPs (y+1) x0.ps.length,mkSs (y+1+8*x0.ps.length) x0.sl.length,mkB z,x0.si,x0.st⟩) hp5 (j:=3) (u:=.string (mkB z)) (by omega) rfl rfl rfl;rw[AaW] at hR6;obtain⟨hR7,hg7⟩:=hR6.cell (y:=⟨mkB y,mkPs (y+1) x0.ps.length,mkSs (y+1+8*x0.ps.length) x0.sl.length,mkB z,z+1,x0.st⟩) (Hset.out _) (j:=4) (u:=.int .i64 (z+1)) (by omega) rfl rfl rfl;rw[AaW] at hR7;obtain⟨hR8,hg8⟩:=hR7.cell (y:=⟨mkB y,mkPs (y+1) x0.ps.length,mkSs (y+1+8*x0.ps.length) x0.sl.length,mkB z,z+1,z+1+1⟩) (Hset.out _) (j:=5) (u:=.int .i64 (z+1+1)) (by omega) rfl rfl rfl;rw[AaW,← Hzz.out] at hR8;have hg9:=E3 (E3 hg6 hg7) hg8;have hB9:=F5 hBB5 (by omega) hrow5 hg9 (A3 _);have HK9:=HK5.out.gr hrow5 (show 71∈[71,73,81] by decide) hg9;clear hR4 hR5 hR6 hR7 hg6 hg7 hg8 hg9 hB4 hB5 hBB5 hrow5 hp5 HK4 HK5;have HF:Hid (RbsQ (((w5.setCell ⟨g,k*6+3,none⟩ (.string (mkB z))).setCell ⟨g,k*6+4,none⟩ (.int .i64 (z+1))).setCell ⟨g,k*6+5,none⟩ (.int .i64 (z+1+1))) base (.slice (some ⟨g,0,none⟩) bs.length cap) (ps.set k ((mkRb y x0,(Value.slice a3 x0.ps.length c3),(Value.slice a4 x0.sl.length c4)):Rv))/\KpT [71,73,81] w (((w5.setCell ⟨g,k*6+3,none⟩ (.string (mkB z))).setCell ⟨g,k*6+4,none⟩ (.int .i64 (z+1))).setCell ⟨g,k*6+5,none⟩ (.int .i64 (z+1+1)))):=⟨hR8,HK9⟩;clear hR8 HK9;go_wp2_with fail
   go_roundw
   case rel=>exact⟨k+1,_,_,by omega,by go_num,rfl,by rw[Hsz.out,Hzv.out];simp[szRb];omega,by omega,by rw[Hzv.out];omega,Hstep.out,HF.out.1,hB9,HF.out.2⟩
   case measure=>simp[intOf];omega
  ·obtain rfl:k=bs.length:=by omega
   have HE:Hid (y=m+szA szRb bs):=by have:=Hy.out;rwa [List.take_length] at this
   have HP:Hid (ps.map (·.1)=mkA mkRb szRb m bs):=by have:=Hps.out;rwa [Am2] at this
   go_wp2_with fail
   go_ret
   exact⟨by rw[← HE.out];rfl,⟨ps,hR,HP.out⟩,hB,HK.out⟩
theorem o3_up {W w0 w1:World} {q r i j k:Nat} {x0 x1 x2:Value} (hq:q<W.heap.size) (hr:r<W.heap.size) (h:Below W.heap.size W w0/\w0.cell? ⟨q,i,none⟩=some x0/\w0.cell? ⟨q,j,none⟩=some x1/\w0.cell? ⟨r,k,none⟩=some x2) (hB:Below w0.heap.size w0 w1):Below W.heap.size W w1/\w1.cell? ⟨q,i,none⟩=some x0/\w1.cell? ⟨q,j,none⟩=some x1/\w1.cell? ⟨r,k,none⟩=some x2:=by
 have lq:q<w0.heap.size:=A1 hq h.1.size;have lr:r<w0.heap.size:=A1 hr h.1.size;exact⟨D5 h.1 hB,(hB.cell (p:=⟨q,i,none⟩) lq).trans h.2.1,(hB.cell (p:=⟨q,j,none⟩) lq).trans h.2.2.1,(hB.cell (p:=⟨r,k,none⟩) lr).trans h.2.2.2⟩
theorem AgQ (f g:Value×List ByteArray):catL [f,g] [f,g].length=f.2++g.2:=by simp[catL]
theorem AjF (ss has things:List ByteArray) (v hv tv:Value) (sb:Nat) (w:World) (h:Ls w v ss) (hs:ss.length<=100) (hc:w.cell? ⟨sb,0,none⟩=some hv) (hc2:w.cell? ⟨sb,1,none⟩=some tv) (hl:Ls w hv has) (hl2:Ls w tv things) (hsb:sb<w.heap.size) (hn:has.length+things.length<=900) :
  Calls Tryz.prog 188 #[v,.slice (some ⟨sb,0,none⟩) 2 2] w λe w'=>(∃u,e=.returned u/\OwnT w' w.heap.size u (ss.filter (memS (has++things))))/\Below w.heap.size w w':=by
 have:=AkW ss v [(hv,has),(tv,things)] sb w h hs (λi f hf=>by
  match i,hf with
  | 0,hf =>
   obtain rfl:(hv,has)=f:=by simpa using hf
   exact⟨hc,hl⟩
  | 1,hf =>
   obtain rfl:(tv,things)=f:=by simpa using hf
   exact⟨hc2,hl2⟩) hsb (by simp) (by rw[AgQ,A9];exact hn)
 rw[AgQ] at this;exact this
theorem Ads (b:Bk) (v:Value) (nm:ByteArray) (lv:Value) (ls:List ByteArray) (w:World) (h:BkV w v b) (hl:Ls w lv ls) (hls:ls.length<=100) (hok:BookOk b) (hpt:PartOk ls (needsAt b nm)) (hm:memS (nms b.bs) nm=true) :
  Calls Tryz.prog 172 #[v,.iface 222 (.agg #[.string nm,lv])] w λe w'=>(∃u,e=.returned u/\BkF w' w.heap.size u (chg b (plN b nm) (askF ls)))/\Below w.heap.size w w':=by
 have f1:=Aio;have f2:=ta_AE;have f3:=ta_AA;obtain⟨a1,c1,a2,c2,rfl,-,-⟩:=h.parts;obtain⟨la,lc,rfl,-,hzl,-⟩:=id hl;have hszb:=h.szb;obtain⟨s1,s2,s3⟩:=M1 hok;obtain⟨W1,hW1,kA,kR,hB1,hs1⟩:=L8 w [.slice a1 (b).things.length c1,.slice a2 (b).bs.length c2] 37 [.slice none 0 0,.slice none 0 0] 37;go_enter Tryz.func172,Tryz.ntmps172
 go_upto_region 1 with fail
 try rw[hW1]
 clear hW1;have hk:=h.up hB1;obtain⟨e0,e1⟩:=kA.c2';go_wp2_with fail
 refine (Aa1 b _ _ hk (by omega) (by omega) (λy hy=>by have:=s3 y hy;omega)).mono ?_;rintro e w2 ⟨⟨a3,c3,a4,c4,ps,rfl,x2,x3,hF⟩,hb2⟩;have hz2:=hb2.size;have hlt2:∀g',(Value.slice a4 b.bs.length c4).ownBlock=some g'->g'<w2.heap.size:=λg' hg'=>(x2.1.lt g' hg').2;replace hF:=hF.avoid (A3 _);have Hnm:Hid (∀p∈ps,p.1.nm.size<=maxLen):=λp hp=>(x2.2 p hp).2.2;have kA2:=kA.up hb2 (by omega);have kR2:=kR.up hb2 (by omega);have hk2:=hk.up hb2;have hB2:=D5 hB1 hb2;clear e0 e1 kA kR hk hB1 hb2;go_upto_region 2 with fail
 obtain⟨W3,hW3,kX,hb3,hs3⟩:=K6 w2 [(.slice a3 b.things.length c3),.slice a4 b.bs.length c4] 37;try rw[hW3]
 clear hW3;have kA3:=kA2.up hb3 (by omega);have kR3:=kR2.up hb3 (by omega);have hk3:=hk2.up hb3;have hB3:=D5 hB2 hb3;have x23:=x2.up hb3;have hF3:=hF.up hb3;clear kA2 kR2 hk2 hB2 x2 hF hb3;obtain⟨e0,e1⟩:=kA3.c2';have hS0:Below W3.heap.size W3 W3/\W3.cell? ⟨w.heap.size,0,none⟩=some (.slice a1 b.things.length c1)/\W3.cell? ⟨w.heap.size,1,none⟩=some (.slice a2 b.bs.length c2):=⟨A4 _ _,e0,e1⟩;have hq3:w.heap.size<W3.heap.size:=by omega
 clear e0 e1;go_wp2_with fail
 go_region_held (λw'=>Below W3.heap.size W3 w'/\w'.cell? ⟨w.heap.size,0,none⟩=some (.slice a1 b.things.length c1)/\w'.cell? ⟨w.heap.size,1,none⟩=some (.slice a2 b.bs.length c2)) (first|exact Aip hS0|exact AcW hq3 (by assumption) (by assumption))
  (first
   | (go_at_call 250;refine (Abj nm _).mono ?_;rintro e' w9 ⟨rfl,hb9⟩)
   | (go_at_call 179;refine (AaN b _ nm _ ((hk3.up (A4 _ _).drew).up hb9) hok).mono ?_;rintro e' wA ⟨rfl,hbA⟩))
 rename_i hHeld;have hBA:=hHeld.1;clear hHeld hS0 hb9 hbA;have hzA:=hBA.size;have kXA:=kX.up hBA (by omega);have kRA:=kR3.up hBA (by omega);have hBB:=D5 hB3 hBA;have x2A:=x23.up hBA;have hFA:=hF3.up hBA;clear kX kR3 kA3 hB3 x23 hF3 hk3 hBA;rw[Ak2 hok.2.2.2.1 hm];obtain⟨-,hpl⟩:=AaK hm;have hps:ps.length=b.bs.length:=by rw[← x3,B3]
 have hrow:=x2A.1;rw[hps] at hrow;obtain⟨g,cp,hgp⟩:=F2 hrow (by omega);obtain⟨rfl,-,rfl⟩:=Value.slice.inj hgp;clear hgp
 have hpk:∃hv nv,ps[plN b nm]?=some (b.bs[plN b nm],hv,nv):=by
  have h1:(ps.map (·.1))[plN b nm]?=some b.bs[plN b nm]:=by rw[x3,A0 hpl]
  rw[B0] at h1;obtain⟨p,hp,e⟩:=B4.1 h1;exact⟨p.2.1,p.2.2,by rw[hp,← e]⟩
 obtain⟨hv,nv,hpk⟩:=hpk;have Hchg:Hid (chg b (plN b nm) (askF ls)=⟨b.things,b.bs.set (plN b nm) (askF ls b.bs[plN b nm])⟩):=AdU (A0 hpl);have hbok:=hok.2.2.2.2.1.at (k:=plN b nm) hpl hpl;rw[Z7 (A0 hpl)] at hpt;obtain⟨s4,s5⟩:=s3 b.bs[plN b nm] (by simp);have hzx:=hszb.2 b.bs[plN b nm] (by simp);have Hflt:Hid ((b.bs[plN b nm]).needs.filter (memS ((b.bs[plN b nm]).has++ls))=insAll (b.bs[plN b nm]).has ls):=Am1 hbok.1.2 hbok.2 hpt;have Hm3:Hid (∀(u1 u2:Value),(ps.set (plN b nm) ((askF ls b.bs[plN b nm],u1,u2):Bv)).map (·.1)=b.bs.set (plN b nm) (askF ls b.bs[plN b nm])):=λu1 u2=>by rw[List.map_set,x3]
 clear hbok hpt;generalize hp0:plN b nm=p at *;have Hp0:Hid (plN b nm=p):=hp0;clear hp0;generalize b.bs[p]=x0 at *;go_upto_region 10 with fail
 obtain⟨W7,hW7,kZ7,hb5,hs7⟩:=K6 wA [.string nm,.slice la ls.length lc] 222;try rw[hW7]
 clear hW7;have Hz7:Hid (W7.heap.size=wA.heap.size+1):=hs7;have kX7:=kXA.up hb5 (by omega);have kR7:=kRA.up hb5 (by omega);have hB7:=D5 hBB hb5;have hF7:=hFA.up hb5;have hg2:=hlt2 g rfl;have hg1:=(hrow.lt g rfl).1;have hrow7:=E0 hrow hb5;have hl7:=hl.up hB7;have hG7:=hF7.front hpk;have hoh7:OwnT W7 W1.heap.size hv x0.has:=hG7.own _ List.mem_cons_self;have hon7:OwnT W7 W1.heap.size nv x0.needs:=hG7.own _ (C7 _ List.mem_cons_self);obtain⟨ah,ch,hhv⟩:=hoh7.lst.shape;subst hhv;obtain⟨an,cn,hnv⟩:=hon7.lst.shape;subst hnv;have hlh7:=hoh7.lst.ls hzx.1;have hln7:=hon7.lst.ls hzx.2;clear kXA kRA hBB x2A hFA hb5 hrow hlt2 h hl hoh7 hon7 hF7 hs7;obtain⟨⟨y0,y1⟩,-⟩:=kX7.c2;go_upto_region 11 with fail
 clear y0 y1;have d1:=hrow7.cellAt (p*3+1) (by omega);rw[M4 _ p _ hpk 1 _ rfl] at d1;have d2:=hrow7.cellAt (p*3+2) (by omega);rw[M4 _ p _ hpk 2 _ rfl] at d2;have d3:W7.cell? ⟨wA.heap.size,1,none⟩=some (.slice la ls.length lc):=kZ7.1 1 _ rfl;have hg7:g<W7.heap.size:=by have:=Hz7.out;omega
 have hq7:wA.heap.size<W7.heap.size:=by have:=Hz7.out;omega
 have hw7:w2.heap.size+1<W7.heap.size:=by have:=Hz7.out;omega
 have hS1:Below W7.heap.size W7 W7.drew/\World.cell? W7.drew ⟨g,p*3+1,none⟩=some (.slice ah x0.has.length ch)/\World.cell? W7.drew ⟨g,p*3+2,none⟩=some (.slice an x0.needs.length cn)/\World.cell? W7.drew ⟨wA.heap.size,1,none⟩=some (.slice la ls.length lc):=⟨(A4 _ _).drew,d1,d2,d3⟩;have hb8:Below W7.drew.heap.size W7.drew (W7.alloc (.cells #[.slice ah x0.has.length ch,.slice la ls.length lc] 22)).drew:=(A4 W7.drew.heap.size W7.drew).alloc (A3 _) (.cells #[.slice ah x0.has.length ch,.slice la ls.length lc] 22);have hS8:Below W7.heap.size W7 (W7.alloc (.cells #[.slice ah x0.has.length ch,.slice la ls.length lc] 22)).drew/\World.cell? (W7.alloc (.cells #[.slice ah x0.has.length ch,.slice la ls.length lc] 22)).drew ⟨g,p*3+1,none⟩=some (.slice ah x0.has.length ch)/\World.cell? (W7.alloc (.cells #[.slice ah x0.has.length ch,.slice la ls.length lc] 22)).drew ⟨g,p*3+2,none⟩=some (.slice an x0.needs.length cn)/\World.cell? (W7.alloc (.cells #[.slice ah x0.has.length ch,.slice la ls.length lc] 22)).drew ⟨wA.heap.size,1,none⟩=some (.slice la ls.length lc):=o3_up hg7 hq7 hS1 hb8;clear d1 d2 d3 kZ7;go_wp2_with fail
 refine F6 15 (λw'=>Below W7.heap.size W7 w'/\World.cell? w' ⟨g,p*3+1,none⟩=some (.slice ah x0.has.length ch)/\World.cell? w' ⟨g,p*3+2,none⟩=some (.slice an x0.needs.length cn)/\World.cell? w' ⟨wA.heap.size,1,none⟩=some (.slice la ls.length lc)) (by kernel_rfl) ?_;refine F3 (i:=0) (v:=?_) rfl (by kernel_rfl) (by kernel_rfl) (by kernel_rfl) (by kernel_rfl) (λ_ _ _ h=>h) (by rfl) hS1 ?_ ?_;rotate_left;focus (intro w hSw;(try dsimp only at hSw);go_simp;try with_reducible rfl);(try simp only[Act.put,List.setIfInBounds_toArray,List.set_cons_zero,List.set_cons_succ])
 refine F3 (i:=1) (v:=?_) rfl (by kernel_rfl) (by kernel_rfl) (by kernel_rfl) (by kernel_rfl) (λ_ _ _ h=>h) (by rfl) hS1 ?_ ?_;rotate_left;focus (intro w hSw;(try dsimp only at hSw);go_simp;try with_reducible rfl);(try simp only[Act.put,List.setIfInBounds_toArray,List.set_cons_zero,List.set_cons_succ])
 refine F3 (i:=2) (v:=?_) rfl (by kernel_rfl) (by kernel_rfl) (by kernel_rfl) (by kernel_rfl) (λ_ _ _ h=>h) (by rfl) hS1 ?_ ?_;rotate_left;focus (intro w hSw;(try dsimp only at hSw);go_simp;try with_reducible rfl);(try simp only[Act.put,List.setIfInBounds_toArray,List.set_cons_zero,List.set_cons_succ])
 refine F3 (i:=3) (v:=?_) rfl (by kernel_rfl) (by kernel_rfl) (by kernel_rfl) (by kernel_rfl) (λ_ _ _ h=>h) (by rfl) hS1 ?_ ?_;rotate_left;focus (intro w hSw;(try dsimp only at hSw);go_simp;try with_reducible rfl);(try simp only[Act.put,List.setIfInBounds_toArray,List.set_cons_zero,List.set_cons_succ])
 refine F3 (i:=4) (v:=?_) rfl (by kernel_rfl) (by kernel_rfl) (by kernel_rfl) (by kernel_rfl) (λ_ _ _ h=>h) (by rfl) hS1 ?_ ?_;rotate_left;focus (intro w hSw;(try dsimp only at hSw);go_simp;try with_reducible rfl);(try simp only[Act.put,List.setIfInBounds_toArray,List.set_cons_zero,List.set_cons_succ])
 refine F3 (i:=5) (v:=?_) rfl (by kernel_rfl) (by kernel_rfl) (by kernel_rfl) (by kernel_rfl) (λ_ _ _ h=>h) (by rfl) hS1 ?_ ?_;rotate_left;focus (intro w hSw;(try dsimp only at hSw);go_simp;try with_reducible rfl);(try simp only[Act.put,List.setIfInBounds_toArray,List.set_cons_zero,List.set_cons_succ])
 refine F3 (i:=6) (v:=?_) rfl (by kernel_rfl) (by kernel_rfl) (by kernel_rfl) (by kernel_rfl) (λ_ _ _ h=>h) (by rfl) hS1 ?_ ?_;rotate_left;focus (intro w hSw;(try dsimp only at hSw);go_simp;try with_reducible rfl);(try simp only[Act.put,List.setIfInBounds_toArray,List.set_cons_zero,List.set_cons_succ])
 refine F3 (i:=7) (v:=?_) rfl (by kernel_rfl) (by kernel_rfl) (by kernel_rfl) (by kernel_rfl) (λ_ _ _ h=>h) (by rfl) hS1 ?_ ?_;rotate_left;focus (intro w hSw;(try dsimp only at hSw);go_simp;try with_reducible rfl);(try simp only[Act.put,List.setIfInBounds_toArray,List.set_cons_zero,List.set_cons_succ])
 refine F3 (i:=8) (v:=?_) rfl (by kernel_rfl) (by kernel_rfl) (by kernel_rfl) (by kernel_rfl) (λ_ _ _ h=>h) (by rfl) hS1 ?_ ?_;rotate_left;focus (intro w hSw;(try dsimp only at hSw);go_simp;try with_reducible rfl);(try simp only[Act.put,List.setIfInBounds_toArray,List.set_cons_zero,List.set_cons_succ])
 refine F3 (i:=9) (v:=?_) rfl (by kernel_rfl) (by kernel_rfl) (by kernel_rfl) (by kernel_rfl) (λ_ _ _ h=>h) (by rfl) hS1 ?_ ?_;rotate_left;focus (intro w hSw;(try dsimp only at hSw);go_simp;try with_reducible rfl);(try simp only[Act.put,List.setIfInBounds_toArray,List.set_cons_zero,List.set_cons_succ])
 refine F3 (i:=10) (v:=?_) rfl (by kernel_rfl) (by kernel_rfl) (by kernel_rfl) (by kernel_rfl) (λ_ _ _ h=>h) (by rfl) hS1 ?_ ?_;rotate_left;focus (intro w hSw;(try dsimp only at hSw);go_simp;try with_reducible rfl);(try simp only[Act.put,List.setIfInBounds_toArray,List.set_cons_zero,List.set_cons_succ])
 refine D7 (i:=11) (by kernel_rfl) rfl (λK hK=>?_);go_simp
 refine hK.out _ _ (λ_=>hS8) ?_;clear hK K;(try simp only[Act.put,List.setIfInBounds_toArray,List.set_cons_zero,List.set_cons_succ]);have hn8:Below W7.heap.size W7 (W7.alloc (.cells #[.slice ah x0.has.length ch,.slice la ls.length lc] 22)).drew:=hS8.1;have hcell8:(W7.alloc (.cells #[.slice ah x0.has.length ch,.slice la ls.length lc] 22)).drew.cell? ⟨W7.heap.size,0,none⟩=some (.slice ah x0.has.length ch):=(E8 W7 [.slice ah x0.has.length ch,.slice la ls.length lc] 22).1 0 _ rfl;have hcell9:(W7.alloc (.cells #[.slice ah x0.has.length ch,.slice la ls.length lc] 22)).drew.cell? ⟨W7.heap.size,1,none⟩=some (.slice la ls.length lc):=(E8 W7 [.slice ah x0.has.length ch,.slice la ls.length lc] 22).1 1 _ rfl;have hlh8:=hlh7.up hn8;have hln8:=hln7.up hn8;have hll8:=hl7.up hn8;have Hz8:Hid ((W7.alloc (.cells #[.slice ah x0.has.length ch,.slice la ls.length lc] 22)).drew.heap.size=W7.heap.size+1):=by show _=_;simp
 generalize (W7.alloc (.cells #[.slice ah x0.has.length ch,.slice la ls.length lc] 22)).drew=W8 at *;have hl8:W7.heap.size<W8.heap.size:=by have:=Hz8.out;omega
 refine D7 (i:=12) (by kernel_rfl) rfl (λK hK=>?_);go_simp
 go_wp2_with (go_at_call 188;refine (AjF x0.needs x0.has ls _ _ _ W7.heap.size _ hln8 (by omega) hcell8 hcell9 hlh8 hll8 hl8 (by omega)).mono ?_;rintro e w9 ⟨⟨uh,rfl,hoh⟩,hb9⟩)
 obtain⟨xh,yh,hxh⟩:=hoh.lst.shape;rw[Hflt.out] at hxh hoh;subst hxh;have hS9:Below W7.heap.size W7 w9/\World.cell? w9 ⟨g,p*3+1,none⟩=some (.slice ah x0.has.length ch)/\World.cell? w9 ⟨g,p*3+2,none⟩=some (.slice an x0.needs.length cn)/\World.cell? w9 ⟨wA.heap.size,1,none⟩=some (.slice la ls.length lc):=o3_up hg7 hq7 hS8 hb9;refine hK.out _ _ (λ_=>hS9) ?_;clear hK K;(try simp only[Act.put,List.setIfInBounds_toArray,List.set_cons_zero,List.set_cons_succ]);refine D7 (i:=13) (by kernel_rfl) rfl (λK hK=>?_);go_simp
 refine hK.out _ _ (λ_=>hS9) ?_;clear hK K;(try simp only[Act.put,List.setIfInBounds_toArray,List.set_cons_zero,List.set_cons_succ]);refine F3 (i:=14) (v:=?_) rfl (by kernel_rfl) (by kernel_rfl) (by kernel_rfl) (by kernel_rfl) (λ_ _ _ h=>h) (by rfl) hS9 ?_ ?_;rotate_left;focus (intro w hSw;(try dsimp only at hSw);go_simp;try with_reducible rfl);(try simp only[Act.put,List.setIfInBounds_toArray,List.set_cons_zero,List.set_cons_succ])
 have hz9:=hb9.size;have hB79:=hS9.1;have kX9:=kX7.up hB79 (by omega);have kR9:=kR7.up hB79 (by omega);have hB9:=D5 hB7 hB79;have hrow9:=E0 hrow7 hB79;have hG9:=hG7.up hB79;have hH9:=Fam.new hG7.tail hG9.tail hoh (by omega) (by omega) (Abf (by omega));have d1:=hS9.2.1;have q1:=hrow9.frozenAt (p*3+1);have st:=hrow9.stored (p*3+1) (.slice xh (insAll x0.has ls).length yh);have hrow10:=st.1;rw[AgF _ p _ (askF ls x0) (.slice xh (insAll x0.has ls).length yh) hpk rfl] at hrow10;have hH10:=hH9.row hrow9 st.2;have kX10:=kX9.kept st.2 (by simp;omega);have kR10:=kR9.kept st.2 (by simp;omega);have hB10:Below w.heap.size w (w9.setCell ⟨g,p*3+1,none⟩ (.slice xh (insAll x0.has ls).length yh)):=G4 hB9 hrow9 st.2 (by omega);clear hS1 hS8 kX7 kR7 hB7 hrow7 hG7 hlh7 hln7 hb8 hn8 hcell8 hcell9 hlh8 hln8 hll8 hl7 hoh hb9 hB79 kX9 kR9 hB9 hrow9 hG9 hH9 st;refine D7 (i:=15) (by kernel_rfl) rfl (λK hK=>?_);go_simp
 refine hK.out _ _ (λh=>absurd rfl h) ?_;clear hK K;refine F0 (by kernel_rfl) ?_ _;clear d1 q1 hS9;have Hlf:Hid (askF ls x0=⟨x0.nm,insAll x0.has ls,x0.needs⟩):=rfl;generalize insAll x0.has ls=fl at *;generalize w9.setCell ⟨g,p*3+1,none⟩ (.slice xh fl.length yh)=W10 at *;obtain⟨⟨y0,y1⟩,-⟩:=kX10.c2;obtain⟨⟨r0,r1⟩,q0,q1⟩:=kR10.c2;have hW1z:w.heap.size+1<W1.heap.size:=by omega
 have hF10:Fam W10 W1.heap.size (some w2.heap.size) (((.slice a3 b.things.length c3),b.things)::famB (ps.set p ((askF ls x0,.slice xh fl.length yh,.slice an x0.needs.length cn):Bv))):=by
  refine Fam.back ?_ (by omega);rw[Hlf.out];exact hH10
 clear hH10;go_wp2_with fail
 refine Aby Tryz.results172 Tryz.underlying37 rfl I9 kR10 rfl ?_;have hrow8:=E6 (E6 hrow10 (D9 (rb:=w.heap.size+1) (off:=0) (E1 _ _) (.slice a3 b.things.length c3)) hW1z) (D9 (rb:=w.heap.size+1) (off:=1) (E1 _ _) (.slice (some ⟨g,0,none⟩) b.bs.length c4)) hW1z;have hF8:=(hF10.free.setLow hW1z 0 (.slice a3 b.things.length c3)).setLow hW1z 1 (.slice (some ⟨g,0,none⟩) b.bs.length c4)
 have hW8:=hF8.bsW (fs:=[((.slice a3 b.things.length c3),b.things)]) (v:=.slice (some ⟨g,0,none⟩) b.bs.length c4) (by rw[List.length_set,hps];exact hrow8) (λq hq=>by
  rcases List.mem_or_eq_of_mem_set hq with h|h
  ·exact Hnm.out q h
  ·subst h
   exact Hnm.out ((x0,.slice ah x0.has.length ch,.slice an x0.needs.length cn):Bv) (A6 hpk))
 have hm3:=Hm3.out (.slice xh fl.length yh) (.slice an x0.needs.length cn);have hchg:=Hchg.out;rw[← Hp0.out] at hchg;rw[hchg];refine⟨⟨_,rfl,a3,c3,some ⟨g,0,none⟩,c4,_,?_,?_,by rw[Hp0.out];exact hm3,hF8.low (by omega)⟩,G3 hB10 (Nat.le_succ _) _ _⟩
 ·show Value.agg #[_,_]=Value.agg #[_,.slice _ (b.bs.set _ _).length _]
  rw[List.length_set]
 ·show BsW _ _ (.slice _ (b.bs.set _ _).length _) _
  rw[List.length_set];exact hW8.low (by omega)
theorem AgR {s:ByteArray} (h:s.toList=[]):s=⟨#[]⟩:=Z5 (by rw[h,Go.ByteArray.toList_eq])
theorem Ai2 {b:Bk} {nm:ByteArray} {things:List ByteArray} (h:Szb b) (hn:∀s∈things,s.size<=maxLen):Szb (chg b (plN b nm) (askF things)):=by
 cases hx:b.bs[plN b nm]? with
 | none=>simp only[chg,hx];exact h
 | some x =>
  rw[AdU hx];refine⟨h.1,λy hy=>?_⟩;rcases List.mem_or_eq_of_mem_set hy with k|k
  ·exact h.2 y k
  ·subst k
   have hm:=A6 hx;refine⟨λs hs=>?_,(h.2 x hm).2⟩;rcases AbJ x.has things s hs with k|k
   ·exact (h.2 x hm).1 s k
   ·exact hn s k
theorem AjG (b:Bk) (v:Value) (nm:ByteArray) (lv:Value) (ls:List ByteArray) (w:World) (h:BkV w v b) (hok:BookOk b) (hl:Ls w lv ls) :
  Calls Tryz.prog 264 #[.agg #[.string nm,lv],v] w λe w'=>e=.returned (refV (askR b nm ls))/\Below w.heap.size w w':=by
 have hzb:=h.szb;obtain⟨a1,c1,a2,c2,rfl,-,-⟩:=h.parts;obtain⟨la,lc,rfl,hlm,hzl,-⟩:=id hl;unfold maxLen at hlm;obtain⟨W1,hW1,kA,kB,hB1,hs1⟩:=L8 w [.string nm,.slice la ls.length lc] 222 [.slice a1 (b).things.length c1,.slice a2 (b).bs.length c2] 37;go_enter Tryz.func264,Tryz.ntmps264
 go_upto_region 1 with fail
 try rw[hW1]
 clear hW1;have hk1:=h.up hB1;have hl1:=hl.up hB1;obtain⟨e0,e1⟩:=kA.c2';obtain⟨d0,d1⟩:=kB.c2';go_wp2_with fail
 refine (Ahu b _ nm _ ls _ hk1 hok hl1).mono ?_;rintro e w2 ⟨rfl,hB2⟩;have hz2:=hB2.size;have kA2:=kA.up hB2 (by omega);have kB2:=kB.up hB2 (by omega);have hk2:=hk1.up hB2;have hl2:=hl1.up hB2;have hB02:=D5 hB1 hB2;clear d0 d1 e0 e1 kA kB hk1 hl1 hB1 hB2 h hl;by_cases hc:ofC b nm ls=0
 case neg =>
  have HR:Hid (refV (askR b nm ls)=.iface 130 (.agg #[.int .i64 (ofC b nm ls)])):=by show _=_;rw[Adc hc,AcE hc]
  rw[AcE hc];generalize ofC b nm ls=c0 at *;go_wp2_with fail
  go_ret
  exact⟨O0 HR.out,hB02⟩
 have hm:=Aem hc;have hpt:=AeC hc;have hsh:=Ag7 hok hc;rw[hc,Afc];obtain⟨e0,e1⟩:=kA2.c2';obtain⟨-,-,hpos⟩:=hl2.inv;go_wp2_with fail
 go_loopw [22] (λi w'=>∃k:Nat,k<=ls.length/\i=.int .i64 (k:Int)/\(∀(j:Nat) (s:ByteArray),j<k->ls[j]?=some s->¬Other b nm s)/\Below w2.heap.size w2 w') (λi _=>ls.length-(intOf i).toNat)
 case atStart=>exact⟨0,by omega,rfl,λj s hj=>by omega,A4 _ _⟩
 case round =>
  obtain⟨k,hk,rfl,hno,hB⟩:=hrel;have Hno:Hid (∀(j:Nat) (s:ByteArray),j<k->ls[j]?=some s->¬Other b nm s):=hno;clear hno;by_cases hp:k<ls.length
  ·obtain⟨bb,o,rfl,hS,hbb⟩:=hpos (by omega)
   have c0:=(hS.up hB hbb).cell hp;have hs0:=hzl ls[k] (by simp)
   have Hstep:Hid (¬Other b nm ls[k]->∀(j:Nat) (s:ByteArray),j<k+1->ls[j]?=some s->¬Other b nm s):=λhn=>by
    intro j s hj hs;by_cases e:j=k
    ·subst e
     rw[A0 hp] at hs;obtain rfl:=A5 hs;exact hn
    ·exact Hno.out j s (by omega) hs
   have H5:Hid (Other b nm ls[k]->refV (askR b nm ls)=.iface 130 (.agg #[.int .i64 5])):=λho=>by
    rw[Afp hc ((Afo hok hm).2 ⟨_,List.getElem_mem hp,ho⟩)];rfl
   generalize ls[k]=s0 at *;have kBr:=kB2.up hB (by omega);have kAr:=kA2.up hB (by omega);obtain⟨d0,d1⟩:=kBr.c2';go_wp2_with fail
   refine (Anh b _ s0 _ (hk2.up hB) hs0).mono ?_;rintro e w3 ⟨rfl,hB3⟩;rw[whoS,if_pos (show bookB b=true from G9 hok)];have hB23:=D5 hB hB3;have kA3:=kAr.up hB3 (by have:=hB.size;omega);obtain⟨f0,f1⟩:=kA3.c2';have Hot:Hid (Other b nm s0↔whoB b.bs s0≠⟨#[]⟩/\whoB b.bs s0≠nm):=Iff.rfl;generalize whoB b.bs s0=wh at *;clear c0 d0 d1 kBr kAr kA3 hB hB3;by_cases q1:wh=⟨#[]⟩
   ·have HN:Hid (¬Other b nm s0):=λho=>(Hot.out.1 ho).1 q1
    have HX:Hid (∀(j:Nat) (s:ByteArray),j<k+1->ls[j]?=some s->¬Other b nm s):=Hstep.out HN.out;subst q1;clear Hot;go_wp2_with fail
    go_roundw
    case rel=>exact⟨k+1,by omega,by go_num,HX.out,hB23⟩
    case measure=>simp[intOf];omega
   by_cases q2:wh=nm
   ·have HN:Hid (¬Other b nm s0):=λho=>(Hot.out.1 ho).2 q2
    have HX:Hid (∀(j:Nat) (s:ByteArray),j<k+1->ls[j]?=some s->¬Other b nm s):=Hstep.out HN.out;rw[q2] at q1 ⊢
    have t1:¬nm.toList=[]:=λe=>q1 (AgR e);clear Hot;go_wp2_with fail
    go_roundw
    case rel=>exact⟨k+1,by omega,by go_num,HX.out,hB23⟩
    case measure=>simp[intOf];omega
   ·have HV:Hid (refV (askR b nm ls)=.iface 130 (.agg #[.int .i64 5])):=H5.out (Hot.out.2 ⟨q1,q2⟩)
    have t1:¬wh.toList=[]:=λe=>q1 (AgR e)
    have t2:(!wh.toList.isEmpty)=true:=by cases hx:wh.toList with
     | nil=>exact absurd hx t1
     | cons _ _=>rfl
    have t3:(!wh.toList==nm.toList)=true:=by
     cases hx:(wh.toList==nm.toList)
     ·rfl
     ·exact absurd (Z5 (by simpa using hx)) q2
    clear Hot;go_wp2_with fail
    all_goals
     first
      | (go_ret;exact⟨O0 HV.out,D5 hB02 hB23⟩)
      | (exfalso;simp_all)
  ·obtain rfl:k=ls.length:=by omega
   have HT:Hid (¬Taken b.bs (plN b nm:Int) ls):=λht=>by
    obtain⟨s,hs,ho⟩:=(Afo hok hm).1 ht;obtain⟨i,hi,rfl⟩:=B5 hs;exact Hno.out i _ hi (A0 hi) ho
   have HR:=AcO hc HT.out;have kBr:=kB2.up hB (by omega);have kAr:=kA2.up hB (by omega);have hzr:=hB.size;have hkr:=hk2.up hB;have hlr:=hl2.up hB;obtain⟨d0,d1⟩:=kBr.c2';obtain⟨f0,f1⟩:=kAr.c2';go_wp2_with fail
   refine (AdF b _ _ hkr).mono ?_;rintro e w3 ⟨⟨ss,ok,rfl,hord⟩,hB3⟩;have hz3:=hB3.size;have hB23:=D5 hB hB3;have kB3:=kBr.up hB3 (by omega);have kA3:=kAr.up hB3 (by omega);have hk3:=hkr.up hB3;have hl3:=hlr.up hB3;rw[← Aas hord] at HR;clear d0 d1 f0 f1 kBr kAr hkr hlr hB hB3 hord;cases ok
   ·have HV:Hid (refV (askR b nm ls)=.nilIface):=by show _=_;rw[HR];rfl
    clear HR;go_wp2_with fail
    go_ret
    exact⟨O0 HV.out,D5 hB02 hB23⟩
   obtain⟨d0,d1⟩:=kB3.c2';obtain⟨f0,f1⟩:=kA3.c2';go_wp2_with fail
   refine (Ads b _ nm _ ls _ hk3 hl3 (by omega) hok hpt hm).mono ?_;rintro e w4 ⟨⟨u,rfl,hu⟩,hB4⟩;have hB24:=D5 hB23 hB4;have hVu:=hu.w.bk (Ai2 hzb hzl);obtain⟨i1,j1,i2,j2,rfl⟩:=hu.shape;clear d0 d1 f0 f1 kB3 kA3 hk3 hl3 hB23 hB4 hu;go_wp2_with fail
   refine (AdF _ _ _ hVu).mono ?_;rintro e w5 ⟨⟨st,ok2,rfl,hord2⟩,hB5⟩;have hB25:=D5 hB24 hB5;rw[← Aas hord2] at HR;clear hVu hord2 hB24 hB5;cases ok2
   ·have HV:Hid (refV (askR b nm ls)=.iface 130 (.agg #[.int .i64 6])):=by show _=_;rw[HR];rfl
    clear HR;go_wp2_with fail
    go_ret
    exact⟨O0 HV.out,D5 hB02 hB25⟩
   ·have HV:Hid (refV (askR b nm ls)=.nilIface):=by show _=_;rw[HR];rfl
    clear HR;go_wp2_with fail
    go_ret
    exact⟨O0 HV.out,D5 hB02 hB25⟩
end Go.Proofs.YtgecdacgmehmbaaGreatDoor
