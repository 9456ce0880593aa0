/- The laws' marks over a book of one's own: held. -/
import Derived.Test.YtebfdccbmmpceaaGreatDoorJ32
import Derived.Test.YtebfdccbmmpceaaGreatDoorJ30
import Derived.Test.YtebfdccbmmpceaaGreatDoorJ26
import Derived.Test.YtebfdccbmmpceaaGreatDoorJ23
import Derived.Test.YtebfdccbmmpceaaGreatDoorJ24
import Derived.Test.YtebfdccbmmpceaaGreatDoorJ7
import Derived.Test.YtebfdccbmmpceaaGreatDoorJ2
import Derived.Defers
set_option maxRecDepth 20000
set_option maxHeartbeats 4000000
namespace Go.Proofs.YtebfdccbmmpceaaGreatDoor
open Go.RowKit
theorem Aig (t:Value×List ByteArray) (bs:List Ba) (base:Nat) (v:Value) (ps:List Bv) (m:Int) (w:World) (hrow:w.ownsRow base 128 3 v bs.length (rowsB ps)) (hq:ps.map (·.1)=mkBas m bs) (hF:Fam w base none (t::famB ps))
  (hn:bs.length<=100) (hs:∀x∈bs,x.has.length<=100/\x.needs.length<=100) (hm:1<=m) (hm9:m<=1000) :
  Calls Tryz.prog 69 #[v,.int .i64 m] w λe w'=>e=.returned (.int .i64 (m+szBas bs))/\Below w.heap.size w w':=by
 rcases C4 bs.length with h0|h0
 ·obtain rfl:bs=[]:=C5.1 h0
  obtain⟨a,c,rfl⟩:=F2 hrow;clear hrow hF hq;simp only[List.length_nil];go_enter Tryz.func69,Tryz.ntmps69
  go_wp2
  go_rounds 1
  go_ret
  exact⟨by simp[szBas],A4 _ _⟩
 obtain⟨g,cap,rfl⟩:=F4 hrow h0;have hgl:=(hrow.lt g rfl).2;have Hq:Hid (ps.map (·.1)=mkBas m bs):=hq;have Hrow:Hid (w.ownsRow base 128 3 (.slice (some ⟨g,0,none⟩) bs.length cap) bs.length (rowsB ps)):=hrow;have HF:Hid (Fam w base none (t::famB ps)):=hF;clear hq hrow hF;go_enter Tryz.func69,Tryz.ntmps69
 go_wp2
 go_loopw [1,5] (λkk i w'=>∃(k:Nat) (y:Int),k<=bs.length/\i=.int .i64 k/\kk=.int .i64 y/\y=m+szBas (bs.take k)/\1<=y/\y<=1000+201*(k:Int)/\Below w.heap.size w w') (λ_ i _=>bs.length-(intOf i).toNat)
 case atStart=>exact⟨0,m,by omega,rfl,rfl,by simp[szBas],hm,by omega,A4 _ _⟩
 case round =>
  obtain⟨k,y,hk,rfl,rfl,hy,hy1,hy9,hB⟩:=hrel;have Hy:Hid (y=m+szBas (bs.take k)):=hy;clear hy;by_cases hp:k<bs.length
  ·obtain⟨s1,s2⟩:=hs bs[k] (by simp)
   have Hpk:Hid (∃hv nv,ps[k]?=some (mkBa y bs[k],hv,nv)):=by
    have h1:(ps.map (·.1))[k]?=some (mkBa y bs[k]):=by rw[Hq.out,Aej m bs k hp,Hy.out]
    rw[B0] at h1;obtain⟨p,hp,e⟩:=B5.1 h1;exact⟨p.2.1,p.2.2,by rw[hp,← e]⟩
   have Hsz:Hid (m+(szBas (bs.take (k+1)):Int)=y+szBa bs[k]):=by
    show _=_
    rw[A7 hp,AcC,Hy.out];omega
   generalize bs[k]=x0 at *;obtain⟨hv,nv,hpk⟩:=Hpk.out;have hF3:=HF.out.front hpk;have hoh:=hF3.own _ List.mem_cons_self;have hon:=hF3.own _ (C8 _ List.mem_cons_self);have hoh:OwnT w base hv (mkL (y+1) x0.has.length):=hoh;have hon:OwnT w base nv (mkL (y+1+x0.has.length) x0.needs.length):=hon;obtain⟨ah,ch,hhv⟩:=hoh.lst.shape;obtain⟨an,cn,hnv⟩:=hon.lst.shape;rw[M7] at hhv hnv;subst hhv hnv;have c0:=Hrow.out.cellAt (k*3) (by omega);rw[show (rowsB ps)[k*3]?=some (Value.string (mkB y)) from K5 ps k _ hpk 0 _ rfl] at c0;have c1:=Hrow.out.cellAt (k*3+1) (by omega);rw[K5 ps k _ hpk 1 _ rfl] at c1;have c2:=Hrow.out.cellAt (k*3+2) (by omega);rw[K5 ps k _ hpk 2 _ rfl] at c2;have C1:Hid (∀W,Below w.heap.size w W->W.cell? ⟨g,k*3+1,none⟩=some (.slice ah x0.has.length ch)):=λW hW=>(hW.cell (p:=⟨g,k*3+1,none⟩) hgl).trans c1;have C2:Hid (∀W,Below w.heap.size w W->W.cell? ⟨g,k*3+2,none⟩=some (.slice an x0.needs.length cn)):=λW hW=>(hW.cell (p:=⟨g,k*3+2,none⟩) hgl).trans c2;have OH:Hid (∀W,Below w.heap.size w W->OwnT W base (.slice ah x0.has.length ch) (mkL (y+1) x0.has.length)):=λW hW=>hoh.up hW;have ON:Hid (∀W,Below w.heap.size w W->OwnT W base (.slice an x0.needs.length cn) (mkL (y+1+x0.has.length) x0.needs.length)):=λW hW=>hon.up hW;have d0:=(hB.cell (p:=⟨g,k*3,none⟩) hgl).trans c0;have hS:Below w.heap.size w wr/\wr.cell? ⟨g,k*3,none⟩=some (.string (mkB y)):=⟨hB,d0⟩;clear hpk Hpk hF3 hoh hon c0 c1 c2 d0;go_wp2_with fail
   go_region_held (λw'=>Below w.heap.size w w'/\w'.cell? ⟨g,k*3,none⟩=some (.string (mkB y))) (first|exact⟨hS.1.drew,hS.2⟩|exact Aab hgl (by assumption) (by assumption))
    (first|(go_at_call 65;refine (F7 y _ (by omega)).mono ?_;rintro e w1 ⟨rfl,hB1⟩))
   rename_i hHeld;have hB3:=hHeld.1;clear hHeld hS hB;generalize mkB y=mb at *;have d1:=C1.out _ hB3;go_wp2_with fail
   refine (Ado (mkL (y+1) x0.has.length) base _ (y+1) _ (OH.out _ hB3) (by rw[M7];exact AaR _ _) (by rw[M7];omega) (by omega) (by omega)).mono ?_;rw[M7];rintro e w4 ⟨rfl,hB4⟩;have hB5:=D6 hB3 hB4;have d2:=C2.out _ hB5;clear d1 hB3 hB4;have hn1:¬(y+1+(x0.has.length:Int)<0):=by omega
   go_wp2_with fail
   refine (Ado (mkL (y+1+x0.has.length) x0.needs.length) base _ (y+1+x0.has.length) _ (ON.out _ hB5) (by rw[M7];exact AaR _ _) (by rw[M7];omega) (by omega) (by omega)).mono ?_;rw[M7];rintro e w6 ⟨rfl,hB6⟩;have hB7:=D6 hB5 hB6;clear d2 hB5 hB6;have hn2:¬(y+1+(x0.has.length:Int)+(x0.needs.length:Int)<0):=by omega
   go_wp2_with fail
   go_roundw
   case rel=>exact⟨k+1,_,by omega,by go_num,rfl,by rw[Hsz.out];simp[szBa];omega,by omega,by omega,hB7⟩
   case measure=>simp[intOf];omega
  ·obtain rfl:k=bs.length:=by omega
   have HE:Hid (y=m+szBas bs):=by have:=Hy.out;rwa [List.take_length] at this
   go_wp2_with fail
   go_ret
   exact⟨by rw[← HE.out];rfl,hB⟩
theorem AfQ (b:Bk) (base:Nat) (v:Value) (w:World) (h:BkF w base v (mkBk b)) (hl:Lit b) :
  Calls Tryz.prog 29 #[v,.int .i64 1] w λe w'=>e=.returned (.int .i64 (mkEnd b))/\Below w.heap.size w w':=by
 obtain⟨a1,c1,a2,c2,ps,rfl,x1,x2,hF⟩:=h;obtain⟨l1,l2,l3⟩:=hl;have e1:(mkBk b).things.length=b.things.length:=M7 _ _;have e2:(mkBk b).bs.length=b.bs.length:=M3 _ _;have hps:ps.length=b.bs.length:=by rw[← e2,← x2,B4]
 have hrow:=x1.1;rw[e1,e2];rw[e2,hps] at hrow;rw[e1] at hF;have x2:ps.map (·.1)=mkBas (1+b.things.length) b.bs:=x2;have hot:OwnT w base (.slice a1 b.things.length c1) (mkL 1 b.things.length):=hF.own _ List.mem_cons_self;obtain⟨W1,hW1,kA,hB1,hs1⟩:=K9 w [.slice a1 b.things.length c1,.slice a2 b.bs.length c2] 33;have Hsz:Hid (szBas b.bs<=201*b.bs.length):=AaE b.bs l3;clear x1 e1 e2;go_enter Tryz.func29,Tryz.ntmps29
 go_upto_region 1 with fail
 try rw[hW1]
 clear hW1;obtain⟨p0,p1⟩:=kA.c2';go_wp2_with fail
 refine (Ado (mkL 1 b.things.length) base _ 1 _ (hot.up hB1) (by rw[M7];exact AaR _ _) (by rw[M7];omega) (by omega) (by omega)).mono ?_;rw[M7];rintro e w2 ⟨rfl,hB2⟩;have kA2:=kA.up hB2 (by omega);have hB12:=D6 hB1 hB2;clear p0 p1 kA;obtain⟨p0,p1⟩:=kA2.c2';have hn1:¬(1+(b.things.length:Int)<0):=by omega
 have hr2:=E1 hrow hB12;have hF2:=hF.up hB12;go_wp2_with fail
 refine (Aig _ b.bs base _ ps (1+b.things.length) _ hr2 x2 hF2 l2 l3 (by omega) (by omega)).mono ?_;rintro e w3 ⟨rfl,hB3⟩;have hB13:=D6 hB12 hB3;clear p0 p1 kA2 hr2 hF2;have hn2:¬(1+(b.things.length:Int)+(szBas b.bs:Int)<0):=by omega
 have HE:Hid (mkEnd b=1+b.things.length+szBas b.bs):=rfl;generalize szBas b.bs=z at *;go_wp2_with fail
 go_ret
 exact⟨by rw[HE.out];rfl,hB13⟩
theorem Out.below {lo hi:Nat} {w w':World} (h:Out lo hi w w') (hl:lo<=w.heap.size):Below lo w w':=⟨h.1,h.2.1,h.2.2.1,h.2.2.2.1,λ_ hi=>h.blk (by omega) (.inl hi)⟩
theorem X6 {w w':World} {lo hi base e size n:Nat} {v:Value} {xs:List Value} (h:w.ownsRow base e size v n xs) (ho:Out lo hi w w') (hb:hi<=base):w'.ownsRow base e size v n xs:=by
 refine⟨h.1,?_⟩;rcases h.2 with h0|⟨g,cap,cur,hv,hg,hh,q⟩
 ·exact .inl h0
 ·refine .inr ⟨g,cap,cur,hv,hg,?_,q⟩
  rw[ho.blk (D4.1 hh).1 (.inr (by omega))];exact hh
theorem AlH (b:Bk):1<=mkEnd b:=by unfold mkEnd;omega
theorem Ahc {s:ByteArray} (h:s.toList=[]):s=⟨#[]⟩:=Aac (by rw[h,Go.ByteArray.toList_eq])
theorem AiU {b:Bk} {nm:ByteArray} {things:List ByteArray} (h:Szb b) (hn:∀s∈things,s.size<=maxLen):Szb (chg b (plN b nm) (askF things)):=by
 cases hx:b.bs[plN b nm]? with
 | none=>simp only[chg,hx];exact h
 | some x =>
  rw[Abb hx];refine⟨h.1,λy hy=>?_⟩;rcases List.mem_or_eq_of_mem_set hy with k|k
  ·exact h.2 y k
  ·subst k
   have hm:=A6 hx;refine⟨λs hs=>?_,(h.2 x hm).2⟩;rcases Acl x.has things s hs with k|k
   ·exact (h.2 x hm).1 s k
   ·exact hn s k
theorem AjX (b:Bk) (v:Value) (nm:ByteArray) (lv:Value) (ls:List ByteArray) (w:World) (h:BkV w v b) (hok:BookOk b) (hl:Ls w lv ls) :
  Calls Tryz.prog 270 #[.agg #[.string nm,lv],v] w λe w'=>e=.returned (refV (askR b nm ls))/\Below w.heap.size w w':=by
 have hzb:=h.szb;obtain⟨a1,c1,a2,c2,rfl,-,-⟩:=h.parts;obtain⟨la,lc,rfl,hlm,hzl,-⟩:=id hl;unfold maxLen at hlm;obtain⟨W1,hW1,kA,kB,hB1,hs1⟩:=L1 w [.string nm,.slice la ls.length lc] 203 [.slice a1 (b).things.length c1,.slice a2 (b).bs.length c2] 33;go_enter Tryz.func270,Tryz.ntmps270
 go_upto_region 1 with fail
 try rw[hW1]
 clear hW1;have hk1:=h.up hB1;have hl1:=hl.up hB1;obtain⟨e0,e1⟩:=kA.c2';obtain⟨d0,d1⟩:=kB.c2';go_wp2_with fail
 refine (AbE b _ nm _ ls _ hk1 hok hl1).mono ?_;rintro e w2 ⟨rfl,hB2⟩;have hz2:=hB2.size;have kA2:=kA.up hB2 (by omega);have kB2:=kB.up hB2 (by omega);have hk2:=hk1.up hB2;have hl2:=hl1.up hB2;have hB02:=D6 hB1 hB2;clear d0 d1 e0 e1 kA kB hk1 hl1 hB1 hB2 h hl;by_cases hc:ofC b nm ls=0
 case neg =>
  have HR:Hid (refV (askR b nm ls)=.iface 98 (.agg #[.int .i64 (ofC b nm ls)])):=by show _=_;rw[Ad2 hc,AcU hc]
  rw[AcU hc];generalize ofC b nm ls=c0 at *;go_wp2_with fail
  go_ret
  exact⟨Z2 HR.out,hB02⟩
 have hm:=AbU hc;have hpt:=Ad1 hc;have hsh:=AcA hok hc;rw[hc,Afk];obtain⟨e0,e1⟩:=kA2.c2';obtain⟨-,-,hpos⟩:=hl2.inv;go_wp2_with fail
 go_loopw [22] (λi w'=>∃k:Nat,k<=ls.length/\i=.int .i64 (k:Int)/\(∀(j:Nat) (s:ByteArray),j<k->ls[j]?=some s->¬Other b nm s)/\Below w2.heap.size w2 w') (λi _=>ls.length-(intOf i).toNat)
 case atStart=>exact⟨0,by omega,rfl,λj s hj=>by omega,A4 _ _⟩
 case round =>
  obtain⟨k,hk,rfl,hno,hB⟩:=hrel;have Hno:Hid (∀(j:Nat) (s:ByteArray),j<k->ls[j]?=some s->¬Other b nm s):=hno;clear hno;by_cases hp:k<ls.length
  ·obtain⟨bb,o,rfl,hS,hbb⟩:=hpos (by omega)
   have c0:=(hS.up hB hbb).cell hp;have hs0:=hzl ls[k] (by simp)
   have Hstep:Hid (¬Other b nm ls[k]->∀(j:Nat) (s:ByteArray),j<k+1->ls[j]?=some s->¬Other b nm s):=λhn=>by
    intro j s hj hs;by_cases e:j=k
    ·subst e
     rw[A0 hp] at hs;obtain rfl:=A5 hs;exact hn
    ·exact Hno.out j s (by omega) hs
   have H5:Hid (Other b nm ls[k]->refV (askR b nm ls)=.iface 98 (.agg #[.int .i64 5])):=λho=>by
    rw[Af2 hc ((Af1 hok hm).2 ⟨_,List.getElem_mem hp,ho⟩)];rfl
   generalize ls[k]=s0 at *;have kBr:=kB2.up hB (by omega);have kAr:=kA2.up hB (by omega);obtain⟨d0,d1⟩:=kBr.c2';go_wp2_with fail
   refine (Aoi b _ s0 _ (hk2.up hB) hs0).mono ?_;rintro e w3 ⟨rfl,hB3⟩;rw[whoS,if_pos (show bookB b=true from I7 hok)];have hB23:=D6 hB hB3;have kA3:=kAr.up hB3 (by have:=hB.size;omega);obtain⟨f0,f1⟩:=kA3.c2';have Hot:Hid (Other b nm s0↔whoB b.bs s0≠⟨#[]⟩/\whoB b.bs s0≠nm):=Iff.rfl;generalize whoB b.bs s0=wh at *;clear c0 d0 d1 kBr kAr kA3 hB hB3;by_cases q1:wh=⟨#[]⟩
   ·have HN:Hid (¬Other b nm s0):=λho=>(Hot.out.1 ho).1 q1
    have HX:Hid (∀(j:Nat) (s:ByteArray),j<k+1->ls[j]?=some s->¬Other b nm s):=Hstep.out HN.out;subst q1;clear Hot;go_wp2_with fail
    go_roundw
    case rel=>exact⟨k+1,by omega,by go_num,HX.out,hB23⟩
    case measure=>simp[intOf];omega
   by_cases q2:wh=nm
   ·have HN:Hid (¬Other b nm s0):=λho=>(Hot.out.1 ho).2 q2
    have HX:Hid (∀(j:Nat) (s:ByteArray),j<k+1->ls[j]?=some s->¬Other b nm s):=Hstep.out HN.out;rw[q2] at q1 ⊢
    have t1:¬nm.toList=[]:=λe=>q1 (Ahc e);clear Hot;go_wp2_with fail
    go_roundw
    case rel=>exact⟨k+1,by omega,by go_num,HX.out,hB23⟩
    case measure=>simp[intOf];omega
   ·have HV:Hid (refV (askR b nm ls)=.iface 98 (.agg #[.int .i64 5])):=H5.out (Hot.out.2 ⟨q1,q2⟩)
    have t1:¬wh.toList=[]:=λe=>q1 (Ahc e)
    have t2:(!wh.toList.isEmpty)=true:=by cases hx:wh.toList with
     | nil=>exact absurd hx t1
     | cons _ _=>rfl
    have t3:(!wh.toList==nm.toList)=true:=by
     cases hx:(wh.toList==nm.toList)
     ·rfl
     ·exact absurd (Aac (by simpa using hx)) q2
    clear Hot;go_wp2_with fail
    all_goals
     first
      | (go_ret;exact⟨Z2 HV.out,D6 hB02 hB23⟩)
      | (exfalso;simp_all)
  ·obtain rfl:k=ls.length:=by omega
   have HT:Hid (¬Taken b.bs (plN b nm:Int) ls):=λht=>by
    obtain⟨s,hs,ho⟩:=(Af1 hok hm).1 ht;obtain⟨i,hi,rfl⟩:=B6 hs;exact Hno.out i _ hi (A0 hi) ho
   have HR:=Adl hc HT.out;have kBr:=kB2.up hB (by omega);have kAr:=kA2.up hB (by omega);have hzr:=hB.size;have hkr:=hk2.up hB;have hlr:=hl2.up hB;obtain⟨d0,d1⟩:=kBr.c2';obtain⟨f0,f1⟩:=kAr.c2';go_wp2_with fail
   refine (Aed b _ _ hkr).mono ?_;rintro e w3 ⟨⟨ss,ok,rfl,hord⟩,hB3⟩;have hz3:=hB3.size;have hB23:=D6 hB hB3;have kB3:=kBr.up hB3 (by omega);have kA3:=kAr.up hB3 (by omega);have hk3:=hkr.up hB3;have hl3:=hlr.up hB3;rw[← Aa0 hord] at HR;clear d0 d1 f0 f1 kBr kAr hkr hlr hB hB3 hord;cases ok
   ·have HV:Hid (refV (askR b nm ls)=.nilIface):=by show _=_;rw[HR];rfl
    clear HR;go_wp2_with fail
    go_ret
    exact⟨Z2 HV.out,D6 hB02 hB23⟩
   obtain⟨d0,d1⟩:=kB3.c2';obtain⟨f0,f1⟩:=kA3.c2';go_wp2_with fail
   refine (AdA b _ nm _ ls _ hk3 hl3 (by omega) hok hpt hm).mono ?_;rintro e w4 ⟨⟨u,rfl,hu⟩,hB4⟩;have hB24:=D6 hB23 hB4;have hVu:=hu.w.bk (AiU hzb hzl);obtain⟨i1,j1,i2,j2,rfl⟩:=hu.shape;clear d0 d1 f0 f1 kB3 kA3 hk3 hl3 hB23 hB4 hu;go_wp2_with fail
   refine (Aed _ _ _ hVu).mono ?_;rintro e w5 ⟨⟨st,ok2,rfl,hord2⟩,hB5⟩;have hB25:=D6 hB24 hB5;rw[← Aa0 hord2] at HR;clear hVu hord2 hB24 hB5;cases ok2
   ·have HV:Hid (refV (askR b nm ls)=.iface 98 (.agg #[.int .i64 6])):=by show _=_;rw[HR];rfl
    clear HR;go_wp2_with fail
    go_ret
    exact⟨Z2 HV.out,D6 hB02 hB25⟩
   ·have HV:Hid (refV (askR b nm ls)=.nilIface):=by show _=_;rw[HR];rfl
    clear HR;go_wp2_with fail
    go_ret
    exact⟨Z2 HV.out,D6 hB02 hB25⟩
noncomputable def askC (b:Bk) (nm:ByteArray) (ls:List ByteArray):Int:=askedC b (askR b nm ls)
noncomputable def askB (b:Bk) (nm:ByteArray) (ls:List ByteArray):Bk:=askedB b (askR b nm ls) (chg b (plN b nm) (askF ls))
theorem Aok {b b':Bk} {nm:ByteArray} {ls:List ByteArray} {cd:Int} (h:AskIs b nm ls cd b'):cd=askC b nm ls/\b'=askB b nm ls:=ask_is h
theorem Ana {b:Bk} {nm:ByteArray} {ls:List ByteArray} (h:Szb b) (hn:∀s∈ls,s.size<=maxLen):Szb (askB b nm ls):=by
 unfold askB askedB;split
 ·exact Aau
 ·split
  ·exact AiU h hn
  ·exact h
theorem Aek (b:Bk) (v:Value) (nm:ByteArray) (lv:Value) (ls:List ByteArray) (w:World) (h:BkV w v b) (hl:Ls w lv ls) (hg:ErrT w) :
  Calls Tryz.prog 103 #[v,.string nm,lv] w λe w'=>(∃u,e=.returned (.tuple #[u,.int .i64 (askC b nm ls)])/\BkF w' w.heap.size u (askB b nm ls))/\Below w.heap.size w w':=by
 have hA:∀W,Below w.heap.size w W->Calls Tryz.prog 140 #[v,.iface 203 (.agg #[.string nm,lv])] W λe w'=>(∃u,e=.returned (.tuple #[u,.int .i64 (askC b nm ls)])/\BkF w' W.heap.size u (askB b nm ls))/\Below W.heap.size W w':=λW hW=>by
  refine Acw b v nm _ _ (askC b nm ls) (askB b nm ls) W (h.up hW) (hg.up hW) λX hX=>?_;unfold askC askB
  exact AeV b v nm _ _ 270 (askR b nm ls) _ X ((h.up hW).up hX) (λn w=>AiA n _ _ w) (λn w=>AnC n _ _ w) ru_A
   (λhok Y hY=>AjX b v nm lv ls Y (((h.up hW).up hX).up hY) hok (((hl.up hW).up hX).up hY))
   (λhok hc Y hY=>AdA b v nm lv ls Y (((h.up hW).up hX).up hY) (((hl.up hW).up hX).up hY) (by have:=AcA hok (Adm hc);omega) hok (Ad1 (Adm hc)) (AbU (Adm hc)))
 obtain⟨a1,c1,a2,c2,rfl,-,-⟩:=h.parts;obtain⟨la,lc,rfl,-⟩:=id hl;have HA:Hid (∀W,Below w.heap.size w W->Calls Tryz.prog 140 #[.agg #[.slice a1 b.things.length c1,.slice a2 b.bs.length c2],.iface 203 (.agg #[.string nm,.slice la ls.length lc])] W λe w'=>(∃u,e=.returned (.tuple #[u,.int .i64 (askC b nm ls)])/\BkF w' W.heap.size u (askB b nm ls))/\Below W.heap.size W w'):=hA;clear hA h hg hl;obtain⟨W1,hW1,kA,kR,hB1,hs1⟩:=L1 w [.slice a1 (b).things.length c1,.slice a2 (b).bs.length c2] 33 [.slice none 0 0,.slice none 0 0] 33;go_enter Tryz.func103,Tryz.ntmps103
 go_upto_region 1 with fail
 try rw[hW1]
 clear hW1;obtain⟨e0,e1⟩:=kA.c2';go_wp2_with fail
 refine (HA.out _ hB1).mono ?_;rintro e w2 ⟨⟨u,rfl,hu⟩,hb2⟩;have kR2:=kR.up hb2 (by omega);have hB2:=D6 hB1 hb2;obtain⟨i1,j1,i2,j2,rfl⟩:=hu.shape;clear e0 e1 kA kR hB1 hb2 HA;obtain⟨⟨y0,y1⟩,q0,q1⟩:=kR2.c2;go_wp2_with fail
 refine J3 Tryz.results103 Tryz.underlying33 rfl J0 kR2 rfl rfl ?_;exact⟨⟨_,rfl,((hu.set (by omega)).set (by omega)).low (by omega)⟩,F9 hB2 (Nat.le_succ _) _ _⟩
theorem AlI {l:List ByteArray} {s:ByteArray} {k:Nat} (ha:Asc l) (hk:k<l.length) (e:l[k]=s):lowN l s=k:=by
 subst e;refine AeS (Nat.le_of_lt hk) (λj x hj hx=>?_) (λj x hj hx=>?_)
 ·exact S0 ha (k-j-1) j x _ hx (by rw[show j+1+(k-j-1)=k by omega];exact A0 hk)
 ·rcases Nat.eq_or_lt_of_le hj with e|e
  ·subst e
   rw[A0 hk] at hx;obtain rfl:=A5 hx;exact O6 _
  ·have h1:=S0 ha (j-k-1) k _ x (A0 hk) (by rw[show k+1+(j-k-1)=j by omega];exact hx)
   cases hq:ltS x l[k]
   ·rfl
   ·have:=Aa7 h1 hq
    rw[O6] at this;cases this
theorem Aol:(Tryz.prog.info? 128).map (·.size)=some 3:=by kernel_rfl
theorem AjY (nm:ByteArray) (a1 a2:Option Addr) (n1 c1 n2 c2:Nat) (w:World):(Instr.field 128 (.agg #[.string nm,.slice a1 n1 c1,.slice a2 n2 c2]) 2).run Tryz.prog w=.ok (.slice a2 n2 c2) w:=by kernel_rfl
theorem AjZ (nm:ByteArray) (a1 a2:Option Addr) (n1 c1 n2 c2:Nat) (w:World):(Instr.field 128 (.agg #[.string nm,.slice a1 n1 c1,.slice a2 n2 c2]) 1).run Tryz.prog w=.ok (.slice a1 n1 c1) w:=by kernel_rfl
theorem AdB (h:House) (x0:Rb) (a1 a2 a3 a4:Option Addr) (c1 c2 c3 c4 p q c g r d:Nat) (w:World) (H:BkV w (.agg #[.slice a1 h.sh.things.length c1,.slice a2 h.sh.bs.length c2]) h.sh) (hok:BookOk h.sh) (hm:x0.nm∈nms h.sh.bs) :
  Calls Tryz.prog 161 #[.agg #[.int .i64 h.now,.int .i64 h.last,.slice a1 h.sh.things.length c1,.slice a2 h.sh.bs.length c2,.slice a3 h.bs.length c3,.slice a4 h.ds.length c4],.agg #[.string x0.nm,.slice (some ⟨p,q,none⟩) x0.ps.length c,.slice (some ⟨g,r,none⟩) x0.sl.length d,.string x0.ad,.int .i64 x0.si,.int .i64 x0.st]] w λe w'=>(∃b1 k1 b2 k2,e=.returned (.agg #[.string (shOf h.sh x0.nm).nm,.slice b1 (shOf h.sh x0.nm).has.length k1,.slice b2 (shOf h.sh x0.nm).needs.length k2])/\Ls w' (.slice b1 (shOf h.sh x0.nm).has.length k1) (shOf h.sh x0.nm).has/\Ls w' (.slice b2 (shOf h.sh x0.nm).needs.length k2) (shOf h.sh x0.nm).needs)/\Below w.heap.size w w':=by
 obtain⟨k,hk,hkn⟩:=Alb hm;have ha:=hok.2.2.2.1;have hsh:=AiJ ha hk hkn;have hlow:lowN (nms h.sh.bs) x0.nm=k:=AlI ha (by rw[I6];exact hk) (by rw[Q9 _ _ hk];exact hkn);have hfind:=λW (hB:Below w.heap.size w W)=>Abe h.sh _ x0.nm W (H.up hB) hok;rw[hlow] at hfind;rw[hsh];have hb5:h.sh.bs.length<=5:=hok.2.1;obtain⟨tv',bv',hag,-,a',c',hbv,-,hpos⟩:=H;simp only[Value.agg.injEq,Array.mk.injEq,List.cons.injEq] at hag;obtain⟨-,rfl,-⟩:=hag;simp only[Value.slice.injEq] at hbv;obtain⟨rfl,-,rfl⟩:=hbv;obtain⟨bb,oo,rfl,hS,hbb⟩:=hpos (by omega);have Hf:Hid (∀W,Below w.heap.size w W->Calls Tryz.prog 180 #[.agg #[.slice a1 h.sh.things.length c1,.slice (some ⟨bb,oo,none⟩) h.sh.bs.length c2],.string x0.nm] W λe w'=>e=.returned (.tuple #[.int .i64 (k:Int),.bool (memS (nms h.sh.bs) x0.nm)])/\Below W.heap.size W w'):=hfind;clear hfind hlow hsh hkn hm ha hok hpos;go_enter Tryz.func161,Tryz.ntmps161
 go_upto_region 1 with fail
 obtain⟨W1,hW1,kP,kR,kO,hB1,hs1⟩:=AeP w [.int .i64 h.now,.int .i64 h.last,.slice a1 h.sh.things.length c1,.slice (some ⟨bb,oo,none⟩) h.sh.bs.length c2,.slice a3 h.bs.length c3,.slice a4 h.ds.length c4] 37 [.string x0.nm,.slice (some ⟨p,q,none⟩) x0.ps.length c,.slice (some ⟨g,r,none⟩) x0.sl.length d,.string x0.ad,.int .i64 x0.si,.int .i64 x0.st] 52 [.string ⟨#[]⟩,.slice none 0 0,.slice none 0 0] 128;rw[hW1];clear hW1;obtain⟨d0,d1,d2,d3,d4,d5⟩:=kP.c6;obtain⟨e0,-⟩:=kR.c6;go_wp2_with fail
 refine (Hf.out _ hB1).mono ?_;rintro e w2 ⟨rfl,hB2⟩;have hz2:=hB2.size;have hB12:=D6 hB1 hB2;clear d0 d1 d2 d3 d4 d5 e0;obtain⟨d0,d1,d2,d3,d4,d5⟩:=(kP.up hB2 (by omega)).c6;have kO2:=kO.up hB2 (by omega);obtain⟨⟨o0,o1,o2⟩,f0,f1,f2⟩:=kO2.c3;obtain⟨ah,dh,an,dn,s0,s1,s2,l1,l2,-⟩:=(hS.at hk).cells;have t0:=(hB12.cell (p:=⟨bb,oo+k*3,none⟩) hbb).trans s0;have t1:=(hB12.cell (p:=⟨bb,oo+k*3+1,none⟩) hbb).trans s1;have t2:=(hB12.cell (p:=⟨bb,oo+k*3+2,none⟩) hbb).trans s2;clear s0 s1 s2;go_wp2_with fail
 refine Ai4 Tryz.results161 Tryz.underlying128 rfl Aol kO2 rfl ?_;have hg:=Aeq hB12 (b:=w.heap.size+2) (by omega) (.string (h.sh.bs[k]).nm) (.slice ah (h.sh.bs[k]).has.length dh) (.slice an (h.sh.bs[k]).needs.length dn);exact⟨⟨ah,dh,an,dn,rfl,l1.up hg,l2.up hg⟩,hg⟩
theorem AcD (nm ad:ByteArray) (a1 a2:Option Addr) (n1 n2 c1 c2:Nat) (st:Int) (w:World) :
  Calls Tryz.prog 55 #[.agg #[.string nm,.slice a1 n1 c1,.slice a2 n2 c2,.string ad,.int .i64 (-1),.int .i64 st]] w λe w'=>e=.returned (.tuple #[.int .i64 0,.bool false])/\Below w.heap.size w w':=by
 have ta:∀w,(Instr.typeAssert (.iface 208 (.agg #[])) 159 156 true).run Tryz.prog w=.ok (.tuple #[.agg #[.int .i64 0],.bool false]) w:=λ_=>by kernel_rfl
 have hB0:=(A4 w.heap.size w).alloc (A3 _) (.cells #[.string nm,.slice a1 n1 c1,.slice a2 n2 c2,.string ad,.int .i64 (-1),.int .i64 st] 52);go_enter Tryz.func55,Tryz.ntmps55
 go_wp2_with fail
 refine (Ae7 _ _ _ _ _ _ _ _ _ _).mono ?_;rintro e w1 ⟨rfl,hB1⟩;have hB01:=D6 hB0 hB1;go_wp2_with fail
 go_returns
 exact⟨rfl,hB01.alloc hB01.size _⟩
theorem Ael (nm ad:ByteArray) (a1 a2:Option Addr) (n1 n2 c1 c2:Nat) (si st:Int) (w:World) (h:¬si=-1) :
  Calls Tryz.prog 55 #[.agg #[.string nm,.slice a1 n1 c1,.slice a2 n2 c2,.string ad,.int .i64 si,.int .i64 st]] w λe w'=>e=.returned (.tuple #[.int .i64 si,.bool true])/\Below w.heap.size w w':=by
 have ta:∀w,(Instr.typeAssert (.iface 156 (.agg #[.int .i64 si])) 159 156 true).run Tryz.prog w=.ok (.tuple #[.agg #[.int .i64 si],.bool true]) w:=λ_=>by kernel_rfl
 have hB0:=(A4 w.heap.size w).alloc (A3 _) (.cells #[.string nm,.slice a1 n1 c1,.slice a2 n2 c2,.string ad,.int .i64 si,.int .i64 st] 52);have H:Hid (¬si=-1):=h;clear h;go_enter Tryz.func55,Tryz.ntmps55
 go_wp2_with fail
 refine (AdY _ _ _ _ _ _ _ _ _ _ _ H.out).mono ?_;rintro e w1 ⟨rfl,hB1⟩;have hB01:=D6 hB0 hB1;go_wp2_with fail
 go_returns
 exact⟨rfl,hB01.alloc hB01.size _⟩
noncomputable def askH (h:House) (k:Nat):House:=match h.bs[k]? with
 | none=>h
 | some x=>if 0<=x.si then h else if askC h.sh x.nm (rbOwn x)=0 then {h with sh:=askB h.sh x.nm (rbOwn x),bs:=h.bs.set k {x with si:=0}} else h
noncomputable def asksH (h:House):Nat->House
 | 0=>h
 | k+1=>askH (asksH h k) k
theorem Ad3 {h:House} {k:Nat} {x:Rb} (hx:h.bs[k]?=some x):askH h k=if 0<=x.si then h else if askC h.sh x.nm (rbOwn x)=0 then {h with sh:=askB h.sh x.nm (rbOwn x),bs:=h.bs.set k {x with si:=0}} else h:=by unfold askH;rw[hx]
theorem AskAt.is {h h':House} {k:Nat} (H:AskAt h k h'):h'=askH h k:=by
 obtain⟨x,hx,⟨h0,rfl⟩|⟨h0,cd,b',ha,hc⟩⟩:=H
 ·rw[Ad3 hx,if_pos h0]
 ·obtain⟨rfl,rfl⟩:=Aok ha
  rw[Ad3 hx,if_neg (by omega)];rcases hc with⟨hc,rfl⟩|⟨hc,rfl⟩
  ·rw[if_neg hc]
  ·rw[if_pos hc]
theorem AsksTo.is {h:House}:∀{k:Nat} {h':House},AsksTo h k h'->h'=asksH h k
 | 0,_,e=>e
 | k+1,_,⟨m,hm,ha⟩=>by obtain rfl:=AsksTo.is hm;exact ha.is
theorem AlJ (h:House) (k:Nat):(askH h k).now=h.now/\(askH h k).last=h.last/\(askH h k).ds=h.ds/\(askH h k).bs.length=h.bs.length:=by
 unfold askH;split
 ·exact⟨rfl,rfl,rfl,rfl⟩
 ·split
  ·exact⟨rfl,rfl,rfl,rfl⟩
  ·split
   ·exact⟨rfl,rfl,rfl,by simp⟩
   ·exact⟨rfl,rfl,rfl,rfl⟩
theorem Aao (h:House):∀k,(asksH h k).now=h.now/\(asksH h k).last=h.last/\(asksH h k).ds=h.ds/\(asksH h k).bs.length=h.bs.length
 | 0=>⟨rfl,rfl,rfl,rfl⟩
 | k+1=>by
  obtain⟨a1,a2,a3,a4⟩:=AlJ (asksH h k) k;obtain⟨b1,b2,b3,b4⟩:=Aao h k;exact⟨a1.trans b1,a2.trans b2,a3.trans b3,a4.trans b4⟩
theorem Aom {h:House} (H:∀x∈h.bs,-1<=x.si) (k:Nat):∀x∈(askH h k).bs,-1<=x.si:=by
 unfold askH;split
 ·exact H
 ·split
  ·exact H
  ·split
   ·intro x hx
    rcases List.mem_or_eq_of_mem_set hx with h1|rfl
    ·exact H x h1
    ·show (-1:Int)<=0;omega
   ·exact H
theorem Ahd {h:House} (H:∀x∈h.bs,-1<=x.si):∀k,∀x∈(asksH h k).bs,-1<=x.si
 | 0=>H
 | k+1=>Aom (Ahd H k) k
def PH (w:World) (base y:Nat) (h:House):Prop:=∃tv bv xv dv,w.ownsRow base 37 6 (.slice (some ⟨y,0,none⟩) 1 1) 1 [.int .i64 h.now,.int .i64 h.last,tv,bv,xv,dv]/\HP w base h tv bv xv dv
theorem AcE {α:Type} {l:List α} {k:Nat} {a:α} (h:l[k]?=some a):l.set k a=l:=by
 obtain⟨hk,rfl⟩:=A2.1 h;exact List.set_getElem_self hk
theorem HP.since {w:World} {base g n cap k:Nat} {h:House} {tv bv tu bu dv:Value} {b':Bk} {x:Rb} (H:HP w base h tv bv (.slice (some ⟨g,0,none⟩) n cap) dv) (hx:h.bs[k]?=some x) (hb:BkF w base (.agg #[tu,bu]) b') (hz:Szb b') (s:Int) :
  HP (w.setCell ⟨g,k*6+4,none⟩ (.int .i64 s)) base {h with sh:=b',bs:=h.bs.set k {x with si:=s}} tu bu (.slice (some ⟨g,0,none⟩) n cap) dv:=by
 obtain⟨ps,h1,h2⟩:=H.x;have hx':=hx;rw[← h2,B0,B5] at hx';obtain⟨⟨y,ru,su⟩,hp,e⟩:=hx';obtain rfl:y=x:=e;have hg:w.grownBy (w.setCell ⟨g,k*6+4,none⟩ (.int .i64 s)) (Value.slice (some ⟨g,0,none⟩) n cap).ownBlock:=E0 (E4 _ _) _;have e1:(ps.set k (({y with si:=s}:Rb),ru,su)).map (·.2.1)=ps.map (·.2.1):=by rw[List.map_set];exact AcE (by rw[B0,hp];rfl)
 have e2:(ps.set k (({y with si:=s}:Rb),ru,su)).map (·.2.2)=ps.map (·.2.2):=by rw[List.map_set];exact AcE (by rw[B0,hp];rfl)
 refine⟨hb.step h1.1.1 (by decide) (by decide) hg,hz,⟨_,⟨h1.1.put (y:={y with si:=s}) hp (by omega) rfl rfl rfl rfl,?_,?_⟩,by rw[List.map_set,h2]⟩,⟨E2 H.d.1 hg (E5 H.d.1 h1.1.1 (by decide)),H.d.2⟩⟩
 ·rw[e1];exact h1.2.1
 ·rw[e2];exact h1.2.2
structure AQ (W:World) (h:House) (x:Rb) (X:World) (k11 k12:Option Value) (k16:Option Nat):Prop where
 B:Below W.heap.size W X
 s11:∀v,k11=some v->Lst X v (rbOwn x)
 s12:∀v,k12=some v->BkF X W.heap.size v (askB h.sh x.nm (rbOwn x))
 s16:∀y,k16=some y->X.ownsRow W.heap.size 33 2 (.slice (some ⟨y,0,none⟩) 1 1) 1 [.slice none 0 0,.slice none 0 0]
theorem AQ.up {W X X':World} {h:House} {x:Rb} {k11 k12:Option Value} {k16:Option Nat} (H:AQ W h x X k11 k12 k16) (hb:Below X.heap.size X X'):AQ W h x X' k11 k12 k16 :=
 ⟨D6 H.B hb,λv e=>(H.s11 v e).up hb,λv e=>(H.s12 v e).up hb,λy e=>E1 (H.s16 y e) hb⟩
theorem aq_nil (W:World) (h:House) (x:Rb):AQ W h x W none none none:=⟨A4 _ _,λ_ h=>(by cases h),λ_ h=>(by cases h),λ_ h=>(by cases h)⟩
theorem AQ.own {W X X':World} {h:House} {x:Rb} {k11 k12:Option Value} {k16:Option Nat} {v:Value} (H:AQ W h x X k11 k12 k16) (hb:Below X.heap.size X X') (hv:Lst X' v (rbOwn x)):AQ W h x X' (some v) k12 k16 :=
 {H.up hb with s11:=λu e=>by cases e;exact hv}
theorem AQ.ask {W X X':World} {h:House} {x:Rb} {k11 k12:Option Value} {k16:Option Nat} {v:Value} (H:AQ W h x X k11 k12 k16) (hb:Below X.heap.size X X') (hv:BkF X' X.heap.size v (askB h.sh x.nm (rbOwn x))):AQ W h x X' k11 (some v) k16 :=
 {H.up hb with s12:=λu e=>by cases e;exact hv.low H.B.size}
theorem AQ.new {W X:World} {h:House} {x:Rb} {k11 k12:Option Value} {k16:Option Nat} (H:AQ W h x X k11 k12 k16):AQ W h x (X.alloc (.cells #[.slice none 0 0,.slice none 0 0] 33)) k11 k12 (some X.heap.size) :=
 {H.up ((A4 _ _).alloc (A3 _) _) with s16:=λu e=>by cases e;exact B9 X _ 1 H.B.size (by unfold maxLen;omega) rfl}
theorem AQ.fin {W X:World} {h:House} {x:Rb} {k11:Option Value} {tu bu:Value} {y:Nat} (H:AQ W h x X k11 (some (.agg #[tu,bu])) (some y)) :
  Below W.heap.size W ((X.setCell ⟨y,0,none⟩ tu).setCell ⟨y,1,none⟩ bu)/\BkF ((X.setCell ⟨y,0,none⟩ tu).setCell ⟨y,1,none⟩ bu) W.heap.size (.agg #[tu,bu]) (askB h.sh x.nm (rbOwn x))/\CB ((X.setCell ⟨y,0,none⟩ tu).setCell ⟨y,1,none⟩ bu) y [tu,bu]:=by
 have h16:=H.s16 y rfl;have h1:=B3 h16 0 tu;have h2:=B3 h1.1 1 bu;have hg:X.grownBy ((X.setCell ⟨y,0,none⟩ tu).setCell ⟨y,1,none⟩ bu) (Value.slice (some ⟨y,0,none⟩) 1 1).ownBlock:=E3 h1.2 h2.2;exact⟨F1 H.B H.B.size h16 hg (A3 _),(H.s12 _ rfl).step h16 (by decide) (by decide) hg,D9 h2.1⟩
end Go.Proofs.YtebfdccbmmpceaaGreatDoor
