/- Walks of goroutine 0: into a call, the callee left as it is. -/
import Derived.Test.YtmfjakieahkacaaGreatDoorJ33
import Derived.Conc.CrowdRun
import Derived.Test.YtmfjakieahkacaaGreatDoorJ17
import Derived.Test.YtmfjakieahkacaaGreatDoorKre
import Derived.Test.YtmfjakieahkacaaGreatDoorKt9
import Derived.Test.YtmfjakieahkacaaGreatDoorJ21
import Derived.Test.YtmfjakieahkacaaGreatDoorJ29
import Derived.Test.YtmfjakieahkacaaGreatDoorJ2
set_option maxRecDepth 20000
set_option maxHeartbeats 8000000
namespace Go.Proofs.YtmfjakieahkacaaGreatDoor
open Go.Conc
section
variable {P:Program} {main:Bool} {b:Frame} {a:Act} {k:List Item} {cs:List Frame} {w:World}
theorem TL{ops:Array Oper}{i:Nat}{rest:List Nat}{o:Oper}{K:Goroutine->World->Array Event->Prop}{f:FuncId}{fn:Func}{args:Array Operand}{ats:Array TypeId}(vs:Array Value)
  (ho:ops[i]?=some o) (hw:Region.wanted o (yielded ops a.tmps)=true) (hk:b.kind≠.early) (hop:o.op=.call {callee:=.value (.func f),args,argTypes:=ats})
  (hf:P.funcs[f]?=some fn) (hname:(fn.name == "runtime.NumGoroutine")=false) (hb:fn.body.isNone=false) (hvs:args.map a.eval=vs)
  (h:K (G (Frame.enter P f vs .normal) (b.at a (.inRegion ops (i::rest)::k)::cs)) w #[]) :
  (stepG P main (G (b.at a (.inRegion ops (i::rest)::k)) cs) w).goes K:=by
 subst hvs;rw[stepG_enter ho hw hk (run_call_body hop hf hname hb)];have:listed P b.fn a o w=#[]:=by unfold listed;rw[events_call_body hop hf hname hb];exact seen_none P _
 rw[this];exact h
end
end Go.Proofs.YtmfjakieahkacaaGreatDoor
namespace Go.Proofs.YtmfjakieahkacaaGreatDoor
open Go.RowKit
theorem PS{nd has tg:List ByteArray}(hn:Bg nd)(h1:J9 has nd)(h2:J9 tg nd):nd.filter (D2 (has++tg))=U1 has tg:=by
 obtain⟨bm,bp⟩:=UV tg has;refine AcF (KY _ _ ((YC hn).sublist (List.Sublist.map _ List.filter_sublist)) (bp (YC h1.2)) λx=>?_);refine Iff.trans ?_ (bm x).symm;simp only[Ak,List.mem_map,List.mem_filter,R8,C6];constructor
 ·rintro⟨s,⟨-,hs|hs⟩,e⟩
  ·exact .inl ⟨s,hs,e⟩
  ·exact .inr ⟨s,hs,e⟩
 ·rintro (⟨s,hs,e⟩|⟨s,hs,e⟩)
  ·exact⟨s,⟨Fx h1.1 hs,.inl hs⟩,e⟩
  ·exact⟨s,⟨Fx h2.1 hs,.inr hs⟩,e⟩
def DC(b:Bk)(nm s:ByteArray):Prop:=CK b.bs s≠⟨#[]⟩/\CK b.bs s≠nm
theorem VX{s:ByteArray}(h:U9 s=true):s≠⟨#[]⟩:=λe=>by subst e;revert h;decide
theorem VY{b:Bk}{nm:ByteArray}(hm:D2 (I9 b.bs) nm=true):∃hpl:I3 b nm<b.bs.length,(b.bs[I3 b nm]).nm=nm:=by
 obtain⟨hi,hlt⟩:=Dv hm;obtain⟨k,hk,hkl,hkn⟩:=Fm (l:=I9 b.bs) (s:=nm) (by omega);obtain rfl:I3 b nm=k:=by omega
 exact⟨hlt,by rw[← BF b.bs _ hlt];exact hkn⟩
theorem NB{b:Bk}{nm s:ByteArray}(hok:J0 b)(hm:D2 (I9 b.bs) nm=true):DC b nm s↔∃(i:Nat)(x:Ba),i≠I3 b nm/\b.bs[i]?=some x/\D2 x.has s=true:=by
 obtain⟨hpl,hpn⟩:=VY hm;constructor
 ·rintro⟨h1,h2⟩;cases hf:b.bs.find? (λx=>D2 x.has s) with
  | none=>exact absurd (by rw[CK,hf];rfl) h1
  | some x =>
   obtain⟨hx,k,hk,e,-⟩:=List.find?_eq_some_iff_getElem.1 hf;refine⟨k,x,λhp=>h2 ?_,by rw[A0 hk,e],hx⟩;rw[CK,hf];subst hp;rw[← e];exact hpn
 ·rintro⟨i,x,hip,hx,hs⟩;obtain⟨hi,rfl⟩:=A2.1 hx
  have hw:CK b.bs s=(b.bs[i]).nm:=Rr hi (λj y hj hy=>by
   cases hq:D2 y.has s
   ·rfl
   ·have:=hok.2.2.2.2.2 i j _ y hj (by omega) (A0 hi) hy;rw[X9] at this;exact absurd ((R8 _ _).1 hq) (this s ((R8 _ _).1 hs))) hs
  rw[DC,hw];refine⟨VX ?_,λe=>hip ?_⟩
  ·exact hok.2.2.1 i _ (by rw[O1];exact hi) (by rw[A0 (by rw[O1];exact hi),BF _ _ hi])
  ·refine GB hok.2.2.2.1 (a:=nm) ?_ ?_
   ·rw[A0 (by rw[O1];exact hi),BF _ _ hi,e]
   ·rw[A0 (by rw[O1];exact hpl),BF _ _ hpl,hpn]
theorem NC{b:Bk}{nm:ByteArray}{tg:List ByteArray}(hok:J0 b)(hm:D2 (I9 b.bs) nm=true):T4 b.bs (I3 b nm:Int) tg↔∃s∈tg,DC b nm s:=by
 constructor
 ·rintro⟨i,x,hi,hx,hs⟩;obtain⟨s,h1,h2⟩:=(GN _ _).1 hs;exact⟨s,h2,(NB hok hm).2 ⟨i,x,by omega,hx,(R8 _ _).2 h1⟩⟩
 ·rintro⟨s,hs,ho⟩;obtain⟨i,x,hi,hx,h1⟩:=(NB hok hm).1 ho;exact⟨i,x,by omega,hx,(GN _ _).2 ⟨s,(R8 _ _).1 h1,hs⟩⟩
def BV(b:Bk):Prop:=∃ss,U4 b ss true
theorem De{b:Bk}{ss:List ByteArray}{ok:Bool}(h:U4 b ss ok):ok=pB (BV b):=by
 cases ok with
 | true=>exact (Z3 ⟨ss,h⟩).symm
 | false=>exact (V4 λ⟨ss',h'⟩=>by have:=(h.uniq h').2;cases this).symm
noncomputable def As(b:Bk)(nm:ByteArray)(tg:List ByteArray):Int :=
 if Y0 b nm tg≠0 then Y0 b nm tg else if pB (T4 b.bs (I3 b nm:Int) tg)=true then 5 else if (pB (BV b) && !pB (BV (X8 b (I3 b nm) (N6 tg))))=true then 6 else 0
theorem Fs{b:Bk}{nm:ByteArray}{tg:List ByteArray}(h:Y0 b nm tg≠0):As b nm tg=Y0 b nm tg:=by simp[As,h]
theorem Gi{b:Bk}{nm:ByteArray}{tg:List ByteArray}(h:Y0 b nm tg=0)(ht:T4 b.bs (I3 b nm:Int) tg):As b nm tg=5:=by simp[As,h,Z3 ht]
theorem DO{b:Bk}{nm:ByteArray}{tg:List ByteArray}(h:Y0 b nm tg=0)(ht:¬T4 b.bs (I3 b nm:Int) tg):As b nm tg=if (pB (BV b) && !pB (BV (X8 b (I3 b nm) (N6 tg))))=true then 6 else 0:=by simp[As,h,V4 ht]
theorem Gj{b:Bk}{nm:ByteArray}{tg:List ByteArray}(h:As b nm tg=0):Y0 b nm tg=0:=by
 by_cases h0:Y0 b nm tg=0
 ·exact h0
 ·rw[Fs h0] at h;exact absurd h h0
theorem Abj{b b':Bk}{nm:ByteArray}{tg:List ByteArray}{cd:Int}(h:Cr b nm tg cd b'):cd=S0 b (As b nm tg)/\b'=U3 b (As b nm tg) (X8 b (I3 b nm) (N6 tg)):=by
 rcases h with⟨h1,rfl,hb⟩|⟨h1,h2,rfl,hb⟩|⟨h1,h2,h3,rfl,hb⟩|⟨h1,h2,h3,h4,rfl,hb⟩|⟨h1,h2,h3,h4,⟨ss,h5⟩,⟨st,h6⟩,rfl,hb⟩|⟨h1,h2,h3,h4,h5,rfl,hb⟩
 ·exact⟨by simp[S0,h1],by rw[hb];simp[U3,h1]⟩
 ·have e:As b nm tg=3:=by rw[Fs (by rw[Jw h2];omega),Jw h2]
  exact⟨by simp[S0,h1,e],by rw[hb];simp[U3,h1,e]⟩
 ·have e:As b nm tg=2:=by rw[Fs (by rw[KZ h2 h3];omega),KZ h2 h3]
  exact⟨by simp[S0,h1,e],by rw[hb];simp[U3,h1,e]⟩
 ·have e:=Gi (La h2 h3) h4;exact⟨by simp[S0,h1,e],by rw[hb];simp[U3,h1,e]⟩
 ·have e:=DO (La h2 h3) h4;rw[← De h5,← De h6] at e;simp at e;exact⟨by simp[S0,h1,e],by rw[hb];simp[U3,h1,e]⟩
 ·have e:As b nm tg=0:=by
   rw[DO (La h2 h3) h4];rcases h5 with⟨ss,h5⟩|⟨ss,h5⟩
   ·rw[← De h5];simp
   ·rw[← De h5];simp
  exact⟨by simp[S0,h1,e],by rw[hb];simp[U3,h1,e]⟩
theorem YD{W w0 w1:World}{q r i j k:Nat}{x0 x1 x2:Value}(hq:q<W.heap.size)(hr:r<W.heap.size)(h:Below W.heap.size W w0/\w0.cell? ⟨q,i,none⟩=some x0/\w0.cell? ⟨q,j,none⟩=some x1/\w0.cell? ⟨r,k,none⟩=some x2)(hB:Below w0.heap.size w0 w1):Below W.heap.size W w1/\w1.cell? ⟨q,i,none⟩=some x0/\w1.cell? ⟨q,j,none⟩=some x1/\w1.cell? ⟨r,k,none⟩=some x2:=by
 have lq:q<w0.heap.size:=A1 hq h.1.size;have lr:r<w0.heap.size:=A1 hr h.1.size;exact⟨D1 h.1 hB,(hB.cell (p:=⟨q,i,none⟩) lq).trans h.2.1,(hB.cell (p:=⟨q,j,none⟩) lq).trans h.2.2.1,(hB.cell (p:=⟨r,k,none⟩) lr).trans h.2.2.2⟩
theorem PT(f g:Value×List ByteArray):AE [f,g] [f,g].length=f.2++g.2:=by simp[AE]
theorem TM(ss has tg:List ByteArray)(v hv tv:Value)(sb:Nat)(w:World)(h:Ls w v ss)(hs:ss.length<=100)(hc:w.cell? ⟨sb,0,none⟩=some hv)(hc2:w.cell? ⟨sb,1,none⟩=some tv)(hl:Ls w hv has)(hl2:Ls w tv tg)(hsb:sb<w.heap.size)(hn:has.length+tg.length<=900):
  Calls Tryz.prog 85 #[v,.slice (some ⟨sb,0,none⟩) 2 2] w λe w'=>(∃u,e=.returned u/\E5 w' w.heap.size u (ss.filter (D2 (has++tg))))/\Below w.heap.size w w':=by
 have:=VF ss v [(hv,has),(tv,tg)] sb w h hs (λi f hf=>by
  match i,hf with
  | 0,hf =>
   obtain rfl:(hv,has)=f:=by simpa using hf
   exact⟨hc,hl⟩
  | 1,hf =>
   obtain rfl:(tv,tg)=f:=by simpa using hf
   exact⟨hc2,hl2⟩) hsb (by simp) (by rw[PT,A8];exact hn)
 rw[PT] at this;exact this
theorem Kd(b:Bk)(v:Value)(nm:ByteArray)(lv:Value)(ls:List ByteArray)(w:World)(h:K0 w v b)(hl:Ls w lv ls)(hls:ls.length<=100)(hok:J0 b)(hpt:J9 ls (O6 b nm))(hm:D2 (I9 b.bs) nm=true):
  Calls Tryz.prog 60 #[v,.iface 44 (.agg #[.string nm,lv])] w λe w'=>(∃u,e=.returned u/\U0 w' w.heap.size u (X8 b (I3 b nm) (N6 ls)))/\Below w.heap.size w w':=by
 have f1:=RD;have f2:=Ac4;have f3:=Ac5;obtain⟨a1,c1,a2,c2,rfl,-,-⟩:=h.parts;obtain⟨la,lc,rfl,-,hzl,-⟩:=id hl;have hszb:=h.szb;obtain⟨s1,s2,s3⟩:=Br hok;obtain⟨W1,hW1,kA,kR,hB1,hs1⟩:=cbE2 w [.slice a1 (b).tg.length c1,.slice a2 (b).bs.length c2] 26 [.slice none 0 0,.slice none 0 0] 26;go_enter Tryz.func60,Tryz.ntmps60;go_upto_region 1 with fail;try rw[hW1]
 clear hW1;have hk:=h.up hB1;obtain⟨e0,e1⟩:=kA.c2';go_wp2_with fail;refine (MW b _ _ hk (by omega) (by omega) (λy hy=>by have:=s3 y hy;omega)).mono ?_;rintro e w2 ⟨⟨a3,c3,a4,c4,ps,rfl,x2,x3,hF⟩,hb2⟩;have hz2:=hb2.size;have hlt2:∀g',(Value.slice a4 b.bs.length c4).ownBlock=some g'->g'<w2.heap.size:=λg' hg'=>(x2.1.lt g' hg').2;replace hF:=hF.avoid (A3 _);have Hnm:Hid (∀p∈ps,p.1.nm.size<=maxLen):=λp hp=>(x2.2 p hp).2.2;have kA2:=kA.up hb2 (by omega);have kR2:=kR.up hb2 (by omega);have hk2:=hk.up hb2;have hB2:=D1 hB1 hb2;clear e0 e1 kA kR hk hB1 hb2;go_upto_region 2 with fail;obtain⟨W3,hW3,kX,hb3,hs3⟩:=cbE1 w2 [(.slice a3 b.tg.length c3),.slice a4 b.bs.length c4] 26;try rw[hW3]
 clear hW3;have kA3:=kA2.up hb3 (by omega);have kR3:=kR2.up hb3 (by omega);have hk3:=hk2.up hb3;have hB3:=D1 hB2 hb3;have x23:=x2.up hb3;have hF3:=hF.up hb3;clear kA2 kR2 hk2 hB2 x2 hF hb3;obtain⟨e0,e1⟩:=kA3.c2';have hS0:Below W3.heap.size W3 W3/\W3.cell? ⟨w.heap.size,0,none⟩=some (.slice a1 b.tg.length c1)/\W3.cell? ⟨w.heap.size,1,none⟩=some (.slice a2 b.bs.length c2):=⟨A4 _ _,e0,e1⟩;have hq3:w.heap.size<W3.heap.size:=by omega
 clear e0 e1;go_wp2_with fail
 go_region_held (λw'=>Below W3.heap.size W3 w'/\w'.cell? ⟨w.heap.size,0,none⟩=some (.slice a1 b.tg.length c1)/\w'.cell? ⟨w.heap.size,1,none⟩=some (.slice a2 b.bs.length c2)) (first|exact Zz hS0|exact Ac6 hq3 (by assumption) (by assumption))
  (first
   | (go_at_call 148;refine (IW nm _).mono ?_;rintro e' w9 ⟨rfl,hb9⟩)
   | (go_at_call 83;refine (Pm b _ nm _ ((hk3.up (A4 _ _).drew).up hb9) hok).mono ?_;rintro e' wA ⟨rfl,hbA⟩))
 rename_i hHeld;have hBA:=hHeld.1;clear hHeld hS0 hb9 hbA;have hzA:=hBA.size;have kXA:=kX.up hBA (by omega);have kRA:=kR3.up hBA (by omega);have hBB:=D1 hB3 hBA;have x2A:=x23.up hBA;have hFA:=hF3.up hBA;clear kX kR3 kA3 hB3 x23 hF3 hk3 hBA;rw[UW hok.2.2.2.1 hm];obtain⟨-,hpl⟩:=Dv hm;have hps:ps.length=b.bs.length:=by rw[← x3,B5]
 have hrow:=x2A.1;rw[hps] at hrow;obtain⟨g,cp,hgp⟩:=T7 hrow (by omega);obtain⟨rfl,-,rfl⟩:=Value.slice.inj hgp;clear hgp
 have hpk:∃hv nv,ps[I3 b nm]?=some (b.bs[I3 b nm],hv,nv):=by
  have h1:(ps.map (·.1))[I3 b nm]?=some b.bs[I3 b nm]:=by rw[x3,A0 hpl]
  rw[A9] at h1;obtain⟨p,hp,e⟩:=B6.1 h1;exact⟨p.2.1,p.2.2,by rw[hp,← e]⟩
 obtain⟨hv,nv,hpk⟩:=hpk;have Hchg:Hid (X8 b (I3 b nm) (N6 ls)=⟨b.tg,b.bs.set (I3 b nm) (N6 ls b.bs[I3 b nm])⟩):=Ck (A0 hpl);have hbok:=hok.2.2.2.2.1.at (k:=I3 b nm) hpl hpl;rw[BO (A0 hpl)] at hpt;obtain⟨s4,s5⟩:=s3 b.bs[I3 b nm] (by simp);have hzx:=hszb.2 b.bs[I3 b nm] (by simp);have Hflt:Hid ((b.bs[I3 b nm]).nd.filter (D2 ((b.bs[I3 b nm]).has++ls))=U1 (b.bs[I3 b nm]).has ls):=PS hbok.1.2 hbok.2 hpt;have Hm3:Hid (∀(u1 u2:Value),(ps.set (I3 b nm) ((N6 ls b.bs[I3 b nm],u1,u2):Bv)).map (·.1)=b.bs.set (I3 b nm) (N6 ls b.bs[I3 b nm])):=λu1 u2=>by rw[List.map_set,x3]
 clear hbok hpt;generalize hp0:I3 b nm=p at *;have Hp0:Hid (I3 b nm=p):=hp0;clear hp0;generalize b.bs[p]=x0 at *;go_upto_region 10 with fail;obtain⟨W7,hW7,kZ7,hb5,hs7⟩:=cbE1 wA [.string nm,.slice la ls.length lc] 44;try rw[hW7]
 clear hW7;have Hz7:Hid (W7.heap.size=wA.heap.size+1):=hs7;have kX7:=kXA.up hb5 (by omega);have kR7:=kRA.up hb5 (by omega);have hB7:=D1 hBB hb5;have hF7:=hFA.up hb5;have hg2:=hlt2 g rfl;have hg1:=(hrow.lt g rfl).1;have hrow7:=P8 hrow hb5;have hl7:=hl.up hB7;have hG7:=hF7.front hpk;have hoh7:E5 W7 W1.heap.size hv x0.has:=hG7.own _ List.mem_cons_self;have hon7:E5 W7 W1.heap.size nv x0.nd:=hG7.own _ (C5 _ List.mem_cons_self);obtain⟨ah,ch,hhv⟩:=hoh7.lst.shape;subst hhv;obtain⟨an,cn,hnv⟩:=hon7.lst.shape;subst hnv;have hlh7:=hoh7.lst.ls hzx.1;have hln7:=hon7.lst.ls hzx.2;clear kXA kRA hBB x2A hFA hb5 hrow hlt2 h hl hoh7 hon7 hF7 hs7;obtain⟨⟨y0,y1⟩,-⟩:=kX7.c2;go_upto_region 11 with fail;clear y0 y1;have d1:=hrow7.cellAt (p*3+1) (by omega);rw[U5 _ p _ hpk 1 _ rfl] at d1;have d2:=hrow7.cellAt (p*3+2) (by omega);rw[U5 _ p _ hpk 2 _ rfl] at d2;have d3:W7.cell? ⟨wA.heap.size,1,none⟩=some (.slice la ls.length lc):=kZ7.1 1 _ rfl;have hg7:g<W7.heap.size:=by have:=Hz7.out;omega
 have hq7:wA.heap.size<W7.heap.size:=by have:=Hz7.out;omega
 have hw7:w2.heap.size+1<W7.heap.size:=by have:=Hz7.out;omega
 have hS1:Below W7.heap.size W7 W7.drew/\World.cell? W7.drew ⟨g,p*3+1,none⟩=some (.slice ah x0.has.length ch)/\World.cell? W7.drew ⟨g,p*3+2,none⟩=some (.slice an x0.nd.length cn)/\World.cell? W7.drew ⟨wA.heap.size,1,none⟩=some (.slice la ls.length lc):=⟨(A4 _ _).drew,d1,d2,d3⟩;have hb8:Below W7.drew.heap.size W7.drew (W7.alloc (.cells #[.slice ah x0.has.length ch,.slice la ls.length lc] 23)).drew:=(A4 W7.drew.heap.size W7.drew).alloc (A3 _) (.cells #[.slice ah x0.has.length ch,.slice la ls.length lc] 23);have hS8:Below W7.heap.size W7 (W7.alloc (.cells #[.slice ah x0.has.length ch,.slice la ls.length lc] 23)).drew/\World.cell? (W7.alloc (.cells #[.slice ah x0.has.length ch,.slice la ls.length lc] 23)).drew ⟨g,p*3+1,none⟩=some (.slice ah x0.has.length ch)/\World.cell? (W7.alloc (.cells #[.slice ah x0.has.length ch,.slice la ls.length lc] 23)).drew ⟨g,p*3+2,none⟩=some (.slice an x0.nd.length cn)/\World.cell? (W7.alloc (.cells #[.slice ah x0.has.length ch,.slice la ls.length lc] 23)).drew ⟨wA.heap.size,1,none⟩=some (.slice la ls.length lc):=YD hg7 hq7 hS1 hb8;clear d1 d2 d3 kZ7;go_wp2_with fail;refine M4 15 (λw'=>Below W7.heap.size W7 w'/\World.cell? w' ⟨g,p*3+1,none⟩=some (.slice ah x0.has.length ch)/\World.cell? w' ⟨g,p*3+2,none⟩=some (.slice an x0.nd.length cn)/\World.cell? w' ⟨wA.heap.size,1,none⟩=some (.slice la ls.length lc)) (by kernel_rfl) ?_;refine E6 0 rfl hS1 ?_;refine E6 1 rfl hS1 ?_;refine E6 2 rfl hS1 ?_;refine E6 3 rfl hS1 ?_;refine E6 4 rfl hS1 ?_;refine E6 5 rfl hS1 ?_;refine E6 6 rfl hS1 ?_;refine E6 7 rfl hS1 ?_;refine E6 8 rfl hS1 ?_;refine E6 9 rfl hS1 ?_;refine E6 10 rfl hS1 ?_;refine K4 11 rfl (λK hK=>?_);go_simp;refine K9 hK hS8 ?_;clear hK K;have hn8:Below W7.heap.size W7 (W7.alloc (.cells #[.slice ah x0.has.length ch,.slice la ls.length lc] 23)).drew:=hS8.1;have hcell8:(W7.alloc (.cells #[.slice ah x0.has.length ch,.slice la ls.length lc] 23)).drew.cell? ⟨W7.heap.size,0,none⟩=some (.slice ah x0.has.length ch):=(T6 W7 [.slice ah x0.has.length ch,.slice la ls.length lc] 23).1 0 _ rfl;have hcell9:(W7.alloc (.cells #[.slice ah x0.has.length ch,.slice la ls.length lc] 23)).drew.cell? ⟨W7.heap.size,1,none⟩=some (.slice la ls.length lc):=(T6 W7 [.slice ah x0.has.length ch,.slice la ls.length lc] 23).1 1 _ rfl;have hlh8:=hlh7.up hn8;have hln8:=hln7.up hn8;have hll8:=hl7.up hn8;have Hz8:Hid ((W7.alloc (.cells #[.slice ah x0.has.length ch,.slice la ls.length lc] 23)).drew.heap.size=W7.heap.size+1):=by show _=_;simp
 generalize (W7.alloc (.cells #[.slice ah x0.has.length ch,.slice la ls.length lc] 23)).drew=W8 at *;have hl8:W7.heap.size<W8.heap.size:=by have:=Hz8.out;omega
 refine K4 12 rfl (λK hK=>?_);go_simp;go_wp2_with (go_at_call 85;refine (TM x0.nd x0.has ls _ _ _ W7.heap.size _ hln8 (by omega) hcell8 hcell9 hlh8 hll8 hl8 (by omega)).mono ?_;rintro e w9 ⟨⟨uh,rfl,hoh⟩,hb9⟩)
 obtain⟨xh,yh,hxh⟩:=hoh.lst.shape;rw[Hflt.out] at hxh hoh;subst hxh;have hS9:Below W7.heap.size W7 w9/\World.cell? w9 ⟨g,p*3+1,none⟩=some (.slice ah x0.has.length ch)/\World.cell? w9 ⟨g,p*3+2,none⟩=some (.slice an x0.nd.length cn)/\World.cell? w9 ⟨wA.heap.size,1,none⟩=some (.slice la ls.length lc):=YD hg7 hq7 hS8 hb9;refine K9 hK hS9 ?_;clear hK K;refine K4 13 rfl (λK hK=>?_);go_simp;refine K9 hK hS9 ?_;clear hK K;refine E6 14 rfl hS9 ?_;have hz9:=hb9.size;have hB79:=hS9.1;have kX9:=kX7.up hB79 (by omega);have kR9:=kR7.up hB79 (by omega);have hB9:=D1 hB7 hB79;have hrow9:=P8 hrow7 hB79;have hG9:=hG7.up hB79;have hH9:=M1.new hG7.tail hG9.tail hoh (by omega) (by omega) (Ex (by omega));have d1:=hS9.2.1;have q1:=hrow9.frozenAt (p*3+1);have st:=hrow9.stored (p*3+1) (.slice xh (U1 x0.has ls).length yh);have hrow10:=st.1;rw[PM _ p _ (N6 ls x0) (.slice xh (U1 x0.has ls).length yh) hpk rfl] at hrow10;have hH10:=hH9.row hrow9 st.2;have kX10:=kX9.kept st.2 (by simp;omega);have kR10:=kR9.kept st.2 (by simp;omega);have hB10:Below w.heap.size w (w9.setCell ⟨g,p*3+1,none⟩ (.slice xh (U1 x0.has ls).length yh)):=N5 hB9 hrow9 st.2 (by omega);clear hS1 hS8 kX7 kR7 hB7 hrow7 hG7 hlh7 hln7 hb8 hn8 hcell8 hcell9 hlh8 hln8 hll8 hl7 hoh hb9 hB79 kX9 kR9 hB9 hrow9 hG9 hH9 st;refine K4 15 rfl (λK hK=>?_);go_simp;refine Cj hK ?_;clear hK K;refine N2 (by kernel_rfl) ?_ _;clear d1 q1 hS9;have Hlf:Hid (N6 ls x0=⟨x0.nm,U1 x0.has ls,x0.nd⟩):=rfl;generalize U1 x0.has ls=fl at *;generalize w9.setCell ⟨g,p*3+1,none⟩ (.slice xh fl.length yh)=W10 at *;obtain⟨⟨y0,y1⟩,-⟩:=kX10.c2;obtain⟨⟨r0,r1⟩,q0,q1⟩:=kR10.c2;have hW1z:w.heap.size+1<W1.heap.size:=by omega
 have hF10:M1 W10 W1.heap.size (some w2.heap.size) (((.slice a3 b.tg.length c3),b.tg)::N4 (ps.set p ((N6 ls x0,.slice xh fl.length yh,.slice an x0.nd.length cn):Bv))):=by
  refine M1.back ?_ (by omega);rw[Hlf.out];exact hH10
 clear hH10;go_wp2_with fail;refine Av Tryz.results60 Tryz.underlying26 rfl L9 kR10 rfl ?_;have hrow8:=G9 (G9 hrow10 (E3 (rb:=w.heap.size+1) (off:=0) (F7 _ _) (.slice a3 b.tg.length c3)) hW1z) (E3 (rb:=w.heap.size+1) (off:=1) (F7 _ _) (.slice (some ⟨g,0,none⟩) b.bs.length c4)) hW1z;have hF8:=(hF10.free.setLow hW1z 0 (.slice a3 b.tg.length c3)).setLow hW1z 1 (.slice (some ⟨g,0,none⟩) b.bs.length c4)
 have hW8:=hF8.bsW (fs:=[((.slice a3 b.tg.length c3),b.tg)]) (v:=.slice (some ⟨g,0,none⟩) b.bs.length c4) (by rw[List.length_set,hps];exact hrow8) (λq hq=>by
  rcases List.mem_or_eq_of_mem_set hq with h|h
  ·exact Hnm.out q h
  ·subst h;exact Hnm.out ((x0,.slice ah x0.has.length ch,.slice an x0.nd.length cn):Bv) (A6 hpk))
 have hm3:=Hm3.out (.slice xh fl.length yh) (.slice an x0.nd.length cn);have hchg:=Hchg.out;rw[← Hp0.out] at hchg;rw[hchg];refine⟨⟨_,rfl,a3,c3,some ⟨g,0,none⟩,c4,_,?_,?_,by rw[Hp0.out];exact hm3,hF8.low (by omega)⟩,I7 hB10 (Nat.le_succ _) _ _⟩
 ·show Value.agg #[_,_]=Value.agg #[_,.slice _ (b.bs.set _ _).length _]
  rw[List.length_set]
 ·show Bp _ _ (.slice _ (b.bs.set _ _).length _) _
  rw[List.length_set];exact hW8.low (by omega)
theorem U0.w{w:World}{base:Nat}{v:Value}{b:Bk}(h:U0 w base v b):O5 w base v b:=by
 obtain⟨a1,c1,a2,c2,ps,rfl,h1,h2,h3⟩:=h;exact⟨_,_,ps,rfl,h3.own _ List.mem_cons_self,h1,h2⟩
theorem U0.bk{w:World}{base:Nat}{v:Value}{b:Bk}(h:U0 w base v b)(hz:Bh b):K0 w v b:=h.w.bk hz
section
variable {b:Bk} {nm:ByteArray} {ls:List ByteArray}
theorem FR(hm:D2 (I9 b.bs) nm=true):∃x,b.bs[I3 b nm]?=some x/\x.nm=nm/\I3 b nm<b.bs.length:=by
 obtain⟨hpl,hx⟩:=VY hm;exact⟨_,A0 hpl,hx,hpl⟩
theorem Mw{x:Ba}(hok:J0 b)(hc:Y0 b nm ls=0)(hx:b.bs[I3 b nm]?=some x):U1 x.has ls=x.nd.filter (D2 (x.has++ls)):=by
 have hbx:=JG.1 hok.2.2.2.2.1 x (A6 hx);have hp:=GG hc;rw[BO hx] at hp;exact (PS hbx.1.2 hbx.2 hp).symm
theorem GJ{x:Ba}(hx:b.bs[I3 b nm]?=some x){i:Nat}{z:Ba}(hz:(X8 b (I3 b nm) (N6 ls)).bs[i]?=some z):(i≠I3 b nm/\b.bs[i]?=some z)∨(i=I3 b nm/\z=N6 ls x):=by
 rw[Ck hx] at hz;simp only[List.getElem?_set] at hz;have hpl:=(A2.1 hx).1;split at hz
 ·rename_i e;refine .inr ⟨e.symm,?_⟩;simpa [hpl] using hz.symm
 ·rename_i e;exact .inl ⟨λe'=>e e'.symm,hz⟩
theorem Sb{x:Ba}(hx:b.bs[I3 b nm]?=some x):I9 (X8 b (I3 b nm) (N6 ls)).bs=I9 b.bs:=by
 rw[Ck hx];obtain⟨hpl,hxe⟩:=A2.1 hx;show I9 (b.bs.set (I3 b nm) (N6 ls x))=I9 b.bs
 rw[I9,I9,List.map_set];apply List.ext_getElem? λi=>?_
 rw[List.getElem?_set];split
 ·rename_i e;subst e;simp[hpl,hxe,N6]
 ·rfl
theorem Lo(hok:J0 b)(hc:Y0 b nm ls=0)(ht:¬T4 b.bs (I3 b nm:Int) ls):J0 (X8 b (I3 b nm) (N6 ls)):=by
 obtain⟨x,hx,hxn,hpl⟩:=FR (Da hc);have hhas:=Mw hok hc hx;obtain⟨h1,h2,h3,h4,h5,h6⟩:=hok;have hbx:=JG.1 h5 x (A6 hx);have hlen:(X8 b (I3 b nm) (N6 ls)).bs.length=b.bs.length:=by rw[Ck hx];exact List.length_set
 have hth:(X8 b (I3 b nm) (N6 ls)).tg=b.tg:=by rw[Ck hx]
 have ino:∀(i:Nat)(y:Ba),i≠I3 b nm->b.bs[i]?=some y->∀s∈y.has,s∉ls:=λi y hi hy s hs hs'=>ht ⟨i,y,by omega,hy,by
  cases hq:O4 y.has ls with
  | true=>rfl
  | false=>exact absurd hs' ((X9 _ _).1 hq s hs)⟩
 refine⟨by rw[hth];exact h1,by rw[hlen];exact h2,by rw[Sb hx];exact h3,by rw[Sb hx];exact h4,JG.2 λz hz=>?_,λi j z y hji hi' hz hy=>?_⟩
 ·rw[hth];obtain⟨i,hi,rfl⟩:=B7 hz;rcases GJ hx (A0 hi) with⟨_,h⟩|⟨_,e⟩
  ·exact JG.1 h5 _ (A6 h)
  ·rw[e];refine⟨hbx.1,?_⟩;show J9 (U1 x.has ls) x.nd
   rw[hhas];exact⟨PL.2 λs hs=>(List.mem_filter.1 hs).1,VL.2 ((VL.1 hbx.1.2).sublist List.filter_sublist)⟩
 ·rw[X9]
  have old:∀{i j:Nat} {y y':Ba},i≠j->b.bs[i]?=some y->b.bs[j]?=some y'->∀s,s∈y.has->s∉y'.has:=λ{i j y y'} hne hy hy' s hs hs'=>by
   rcases Nat.lt_or_gt_of_ne hne with h|h
   ·exact (X9 _ _).1 (h6 j i y' y h (.inl (A2.1 hy').1) hy' hy) s hs' hs
   ·exact (X9 _ _).1 (h6 i j y y' h (.inl (A2.1 hy).1) hy hy') s hs hs'
  intro s hs hs';rcases GJ hx hz with⟨hne,hz'⟩|⟨rfl,rfl⟩<;>rcases GJ hx hy with⟨hne',hy'⟩|⟨rfl,rfl⟩
  ·exact old (by omega) hz' hy' s hs hs'
  ·rcases DY _ _ s hs' with h|h
   ·exact old hne hz' hx s hs h
   ·exact ino i z hne hz' s hs h
  ·rcases DY _ _ s hs with h|h
   ·exact old (λe=>hne' e.symm) hx hy' s h hs'
   ·exact ino j y hne' hy' s hs' h
  ·omega
theorem Aab(hok:J0 b)(hc:Y0 b nm ls=0)(ht:¬T4 b.bs (I3 b nm:Int) ls)(s:ByteArray)(hs:s∈ls):CK (X8 b (I3 b nm) (N6 ls)).bs s=nm:=by
 obtain⟨x,hx,hxn,hpl⟩:=FR (Da hc);have hp:=GG hc;rw[BO hx] at hp
 have hzs:D2 (N6 ls x).has s=true:=by
  rw[R8];show s∈U1 x.has ls
  rw[Mw hok hc hx];exact List.mem_filter.2 ⟨PL.1 hp.1 s hs,by rw[R8];exact List.mem_append_right _ hs⟩
 have hz:(X8 b (I3 b nm) (N6 ls)).bs[I3 b nm]?=some (N6 ls x):=by rw[Ck hx];simp[hpl]
 unfold CK;cases hf:(X8 b (I3 b nm) (N6 ls)).bs.find? λy=>D2 y.has s with
 | none=>exact absurd hzs (by have:=List.find?_eq_none.1 hf _ (A6 hz);simpa using this)
 | some y =>
  have hy:=List.find?_some hf;obtain⟨i,hi,rfl⟩:=B7 (List.mem_of_find?_eq_some hf);simp only[Option.map_some,Option.getD_some];rcases GJ hx (A0 hi) with⟨hne,h⟩|⟨_,e⟩
  ·exfalso
   refine ht ⟨i,_,by omega,h,?_⟩;cases hq:O4 ((X8 b (I3 b nm) (N6 ls)).bs[i]).has ls with
   | true=>rfl
   | false=>exact absurd hs ((X9 _ _).1 hq s ((R8 _ _).1 hy))
  ·rw[e];exact hxn
theorem Jf(hok:J0 b):BV b↔∃o,PJ b.bs o:=by
 constructor
 ·rintro⟨ss,h⟩;exact⟨ss,(Ic.1 (TD h)).2⟩
 ·rintro⟨o,h⟩;obtain⟨ss,hg⟩:=VI (Ic.2 ⟨hok,h⟩);exact⟨ss,.inl ⟨rfl,hok,hg⟩⟩
theorem Lp{bs bs':List Ba}{z:ByteArray}(h1:∀y∈bs,y.nm≠z->y∈bs')(h2:∀y∈bs',y.nm≠z->y∈bs):∀(order gone:List ByteArray),z∈gone->z∉order->CV bs gone order->CV bs' gone order
 | [],_,_,_,_=>trivial
 | s::r,gone,hz,hn,⟨h3,⟨y,hy,hys,hc⟩,h4⟩=>by
  have hne:s≠z:=λe=>hn (by simp[e]);refine⟨h3,⟨y,h1 y hy (by rw[hys];exact hne),hys,λx' hx' hxs hxg=>hc x' (h2 x' hx' λe=>hxg (by rw[e];exact hz)) hxs hxg⟩,Lp h1 h2 r _ (by simp[hz]) (λh=>hn (by simp[h])) h4⟩
theorem Ke{bs:List Ba}:∀(order gone:List ByteArray),CV bs gone order->order.Nodup/\∀s∈order,s∉gone
 | [],_,_=>⟨List.nodup_nil,λs h=>by simp at h⟩
 | s::r,gone,⟨h3,_,h4⟩=>by
  obtain⟨i1,i2⟩:=Ke r _ h4;refine⟨List.nodup_cons.2 ⟨λh=>i2 s h (by simp),i1⟩,λt ht=>?_⟩;rcases List.mem_cons.1 ht with rfl|ht
  ·exact h3
  ·exact λhg=>i2 t ht (by simp[hg])
theorem VZ(hok:J0 b)(hc:Y0 b nm ls=0)(ht:¬T4 b.bs (I3 b nm:Int) ls)(hs:BV b)(hn:¬BV (X8 b (I3 b nm) (N6 ls))):¬CQ b.bs (I3 b nm) []:=λhcan=>hn (by
 obtain⟨x,hx,hxn,hpl⟩:=FR (Da hc);obtain⟨o,ho,hcov⟩:=(Jf hok).1 hs;rw[Jf (Lo hok hc ht)];have hz:(X8 b (I3 b nm) (N6 ls)).bs[I3 b nm]?=some (N6 ls x):=by rw[Ck hx];simp[hpl]
 obtain⟨hd,-⟩:=Ke _ _ ho;have one:∀{i:Nat} {y:Ba},b.bs[i]?=some y->y.nm=nm->i=I3 b nm:=λ{i y} hy e=>Ib hok i (I3 b nm) nm (by rw[I9,A9,hy,← e];rfl) (by rw[I9,A9,hx,← hxn];rfl)
 have inn:∀y∈b.bs,y.nm≠nm->y∈(X8 b (I3 b nm) (N6 ls)).bs:=λy hy hne=>by
  obtain⟨i,hi,rfl⟩:=B7 hy;have hne':I3 b nm≠i:=λe=>hne (by subst e;rw[A0 hi] at hx;rw[A5 hx];exact hxn);have:(X8 b (I3 b nm) (N6 ls)).bs[i]?=some b.bs[i]:=by rw[Ck hx];simp[hne',hi]
  exact A6 this
 have out:∀y∈(X8 b (I3 b nm) (N6 ls)).bs,y.nm≠nm->y∈b.bs:=λy hy hne=>by
  obtain⟨i,hi,rfl⟩:=B7 hy;rcases GJ hx (A0 hi) with⟨_,h⟩|⟨_,e⟩
  ·exact A6 h
  ·exact absurd (by rw[e];exact hxn) hne
 refine⟨nm::o.filter (λs=>decide (s≠nm)),⟨by simp,⟨N6 ls x,A6 hz,hxn,λy hy hyn _=>?_⟩,?_⟩,λy hy=>?_⟩
 ·have hyb:=out y hy hyn;obtain⟨i,hi,rfl⟩:=B7 hyb;have hne:i≠I3 b nm:=λe=>hyn (by subst e;rw[A0 hi] at hx;rw[A5 hx];exact hxn);exact hcan i _ x hi hne (A0 hi) hx (by simp[D2])
 ·have h0:CV b.bs [nm] (o.filter λs=>decide (s≠nm)):=by
   have key:∀(l gone gone':List ByteArray),nm∈gone'->(∀s∈gone,s∈gone')->(∀s∈l,s≠nm->s∉gone')->l.Nodup->CV b.bs gone l->CV b.bs gone' (l.filter λs=>decide (s≠nm)):=by
    intro l;induction l with
    | nil=>exact λ_ _ _ _ _ _ _=>trivial
    | cons s r ih =>
     rintro gone gone' hm hsub hno hd ⟨_,⟨y,hy,hys,hc⟩,h4⟩;have hd':=List.nodup_cons.1 hd;by_cases e:s=nm
     ·subst e;simp only[ne_eq,not_true_eq_false,decide_false,Bool.false_eq_true,not_false_eq_true,List.filter_cons_of_neg];exact ih _ _ hm (λt ht=>(C6.1 ht).elim (hsub t) λh=>by simp at h;rw[h];exact hm) (λt ht=>hno t (by simp[ht])) hd'.2 h4
     ·rw[List.filter_cons_of_pos (by simpa using e)];refine⟨hno s (by simp) e,⟨y,hy,hys,λz hz hzs hzg=>hc z hz hzs λhg=>hzg (hsub _ hg)⟩,ih _ _ (by simp[hm]) (λt ht=>?_) (λt ht hne hm'=>?_) hd'.2 h4⟩
      ·rcases C6.1 ht with ht|ht
       ·exact List.mem_append_left _ (hsub t ht)
       ·exact List.mem_append_right _ ht
      ·rcases C6.1 hm' with hm'|hm'
       ·exact hno t (by simp[ht]) hne hm'
       ·simp only[C7] at hm';exact hd'.1 (hm' ▸ ht)
   exact key o [] [nm] (by simp) (λs hs=>by simp at hs) (λs _ hne h=>hne (by simpa using h)) hd ho
  exact Lp inn out _ _ (by simp) (λh=>by have:=(List.mem_filter.1 h).2;simp at this) h0
 ·by_cases e:y.nm=nm
  ·simp[e]
  ·exact C5 _ (List.mem_filter.2 ⟨hcov y (out y hy e),by simpa using e⟩))
end
end Go.Proofs.YtmfjakieahkacaaGreatDoor
namespace Go.Proofs.YtmfjakieahkacaaGreatDoor
open Go.Conc Go.ConcN Go.RowKit Go.Conc.Lib Go.ConcR.Gen Go.ConcN.Gen
section
variable {X:Nat->Prop} {Shun:Loc->Prop} {W:World} {fv:Value}
theorem TN(hX:∀l,Shun l->∃a,l=.cell a/\X a.block){p:K7}(hL:p.Low=W.heap.size+3)(hWg:p.Wg=W.heap.size+2)(hS:p.S=W.heap.size+1)(hSh:p.Shun=Shun){a:Addr}(hlt:a.block<W.heap.size+1)(hx:¬X a.block):Ep p a:=by
 refine⟨by omega,λh=>?_⟩;rcases h with h|⟨b,e,hb⟩|⟨b,e,hb⟩
 ·rw[hSh] at h;obtain⟨b,e,hb⟩:=hX _ h;cases e;exact hx hb
 ·cases e;omega
 ·cases e;omega
theorem Et{a:Addr}{v:Value}(hc:W.cell? a=some v):(VC W fv).cell? a=some v:=by
 have hlt:=World.block_lt_of_cell? W a hc;unfold VC VB VA;rw[World.cell?_alloc_lt _ _ _ (by rw[World.size_alloc,World.size_alloc];omega),World.cell?_alloc_lt _ _ _ (by rw[World.size_alloc];omega),World.cell?_alloc_lt _ _ _ hlt,hc]
theorem AcK:(VC W fv).cell? ⟨W.heap.size,0,none⟩=some fv:=by
 unfold VC VB;rw[World.cell?_alloc_lt _ _ _ (show W.heap.size<_ by rw[World.size_alloc,JH];omega),World.cell?_alloc_lt _ _ _ (show W.heap.size<_ by rw[JH];omega)];unfold VA;have:=heap_alloc_new W (.cells #[fv] 64);unfold World.cell?;simp only[];rw[this];rfl
end
end Go.Proofs.YtmfjakieahkacaaGreatDoor
namespace Go.Proofs.YtmfjakieahkacaaGreatDoor
open Go.RowKit
def T9:List ByteArray:=[⟨#[106]⟩,⟨#[107,101,103]⟩,⟨#[116,117,110]⟩,⟨#[118,97,116]⟩,⟨#[119]⟩]
theorem Ri(rb len N:Nat)(v:Value)(w:World)(hR:Rd w rb v len N)(hN:N<=900000):
  Calls Tryz.prog 78 #[.pointer (some ⟨rb,0,none⟩)] w
   λe w'=>(∃(a:Option Addr)(c:Nat)(ss:List ByteArray),e=.returned (.agg #[.slice a ss.length c,.slice none 0 0])/\Dk w' w.heap.size (.agg #[.slice a ss.length c,.slice none 0 0]) ⟨ss,[]⟩/\ss.Sublist T9)/\Rd w' rb v len (N+10)/\w.grownBy w' (some rb):=by
 have hrl:=hR.lt;obtain⟨ii,hi,iz0,iz1,iz2⟩:=info_parts Z0;go_enter Tryz.func78,Tryz.ntmps78;go_upto_region 3 with fail;obtain⟨W1,hW1,kR,kQ,hB1,hs1⟩:=cbE2 w [.slice none 0 0,.slice none 0 0] 26 [.slice none 0 0,.slice none 0 0] 26;have hR1:Rd W1 rb v len N:=hR.kept hB1;have hG1:w.grownBy W1 (some rb):=O2 hB1;clear hR hB1;obtain⟨W2,hW2,hs2⟩:∃W2,W1.alloc (.cells (T9.map Value.string).toArray 9)=W2/\W2.heap.size=w.heap.size+3:=⟨_,rfl,by simp;omega⟩;have hb2:Below W1.heap.size W1 W2:=by rw[← hW2];exact (A4 _ _).alloc (A3 _) _
 have hS2:L6 W2 (w.heap.size+2) 0 T9:=by rw[← hW2,← hs1];exact T8 W1 T9 9
 have hR2:=hR1.kept hb2;have hG2:=L0 hG1 (O2 hb2);have kR2:=kR.up hb2 (by omega);have kQ2:=kQ.up hb2 (by omega);have hW2':W1.alloc (.cells #[.string ⟨#[106]⟩,.string ⟨#[107,101,103]⟩,.string ⟨#[116,117,110]⟩,.string ⟨#[118,97,116]⟩,.string ⟨#[119]⟩] 9)=W2:=hW2;rw[hW1,hW2'];clear hW1 hW2 hW2' hb2 hR1 hG1 kR kQ hs1;go_wp2_with fail;go_loopw [5] (λi w'=>∃(k:Nat)(tu:Value)(ss:List ByteArray),k<=5/\i=.int .i64 k/\CB w' w.heap.size [.slice none 0 0,.slice none 0 0]/\CB w' (w.heap.size+1) [tu,.slice none 0 0]/\E5 w' (w.heap.size+3) tu ss/\Hid (ss.Sublist (T9.take k))/\ss.length<=k/\(∀s∈ss,s.size<=maxLen)/\L6 w' (w.heap.size+2) 0 T9/\Rd w' rb v len (N+k)/\w.grownBy w' (some rb)/\w.heap.size+3<=w'.heap.size) (λi _=>5-(intOf i).toNat)
 case atStart=>exact⟨0,.slice none 0 0,[],by omega,rfl,kR2,kQ2,B9 _ _ _ _,List.nil_sublist _,by simp,λs hs=>by simp at hs,hS2,hR2,hG2,by omega⟩
 case round =>
  clear kR2 kQ2 hS2 hR2 hG2 hs2;obtain⟨k,tu,ss,hk,rfl,kR,kQ,hown,hsub,hsl,hsz,hSt,hRk,hGk,hwz⟩:=hrel;have Hsz:Hid (∀s∈ss,s.size<=maxLen):=hsz;clear hsz;obtain⟨at1,ct1,rfl⟩:=hown.lst.shape;by_cases hp:k<5
  ·have htk:Hid (∀h:k<T9.length,T9.take (k+1)=T9.take k++[T9[k]]):=λh=>by rw[List.take_add_one,A0 h];rfl
   go_wp2_with fail;refine (T0 rb len _ v 5 _ hRk (by omega)).mono ?_;rintro e w1 ⟨⟨x,rfl,-,-⟩,hR1,hg1⟩;have hown1:=G9 hown hg1 (by omega);have hG1:=L0 hGk hg1;have hz1:=hg1.size;have kR1:=kR.kept hg1 (by simp;omega);have kQ1:=kQ.kept hg1 (by simp;omega);have hS1:=hSt.kept hg1 (by omega);clear hRk hGk hown hg1 kR kQ hSt;by_cases hx:0<x
   ·have hk5:k<T9.length:=by simp[T9];omega
    have c0:=hS1 k T9[k] (by simp[hk5]);have hsu:Hid ((ss++[T9[k]]).Sublist (T9.take (k+1))):=by show List.Sublist _ _;rw[htk.out hk5];exact hsub.out.append (List.Sublist.refl _)
    clear htk hsub;rw[Nat.zero_add] at c0;have hs0:(T9[k]).size<=maxLen:=Cy (ss:=T9) (by decide) _ (by simp);generalize T9[k]=s0 at *;obtain⟨⟨z0,z1⟩,g0,g1⟩:=kQ1.c2;have hq1:w.heap.size+1<w1.heap.size:=by omega
    have hq2:w.heap.size+2<w1.heap.size:=by omega
    have mk:∀W,Below w1.heap.size w1 W->World.cell? W ⟨w.heap.size+1,0,none⟩=some (.slice at1 ss.length ct1)/\World.cell? W ⟨w.heap.size+2,k,none⟩=some (.string s0):=λW hb=>⟨(hb.cell (p:=⟨w.heap.size+1,0,none⟩) hq1).trans z0,(hb.cell (p:=⟨w.heap.size+2,k,none⟩) hq2).trans c0⟩;have hSd:=mk w1.drew (A4 _ _).drew;have hSA:=mk (w1.drew.alloc (.cells #[.string s0] 9)) ((A4 _ _).drew.alloc (A3 _) _);have hownA:=World.ownsRow.alloc (Ot hown1) (.cells #[.string s0] 9);go_wp2_with fail;refine M4 9 (λw'=>World.cell? w' ⟨w.heap.size+1,0,none⟩=some (.slice at1 ss.length ct1)/\World.cell? w' ⟨w.heap.size+2,k,none⟩=some (.string s0)) (by kernel_rfl) ?_;refine G3 (i:=0) (v:=?_) rfl (by kernel_rfl) (by kernel_rfl) (by kernel_rfl) (by kernel_rfl) (λ_ _ _ h=>h) (by rfl) hSd ?_ ?_;rotate_left;focus (intro w hSw;(try dsimp only at hSw);go_simp;try with_reducible rfl);(try simp only[Act.put,List.setIfInBounds_toArray,List.set_cons_zero,List.set_cons_succ])
    refine G3 (i:=1) (v:=?_) rfl (by kernel_rfl) (by kernel_rfl) (by kernel_rfl) (by kernel_rfl) (λ_ _ _ h=>h) (by rfl) hSd ?_ ?_;rotate_left;focus (intro w hSw;(try dsimp only at hSw);go_simp;try with_reducible rfl);(try simp only[Act.put,List.setIfInBounds_toArray,List.set_cons_zero,List.set_cons_succ])
    refine G3 (i:=2) (v:=?_) rfl (by kernel_rfl) (by kernel_rfl) (by kernel_rfl) (by kernel_rfl) (λ_ _ _ h=>h) (by rfl) hSd ?_ ?_;rotate_left;focus (intro w hSw;(try dsimp only at hSw);go_simp;try with_reducible rfl);(try simp only[Act.put,List.setIfInBounds_toArray,List.set_cons_zero,List.set_cons_succ])
    refine G3 (i:=3) (v:=?_) rfl (by kernel_rfl) (by kernel_rfl) (by kernel_rfl) (by kernel_rfl) (λ_ _ _ h=>h) (by rfl) hSd ?_ ?_;rotate_left;focus (intro w hSw;(try dsimp only at hSw);go_simp;try with_reducible rfl);(try simp only[Act.put,List.setIfInBounds_toArray,List.set_cons_zero,List.set_cons_succ])
    refine G3 (i:=4) (v:=?_) rfl (by kernel_rfl) (by kernel_rfl) (by kernel_rfl) (by kernel_rfl) (λ_ _ _ h=>h) (by rfl) hSd ?_ ?_;rotate_left;focus (intro w hSw;(try dsimp only at hSw);go_simp;try with_reducible rfl);(try simp only[Act.put,List.setIfInBounds_toArray,List.set_cons_zero,List.set_cons_succ])
    refine G3 (i:=5) (v:=?_) rfl (by kernel_rfl) (by kernel_rfl) (by kernel_rfl) (by kernel_rfl) (λ_ _ _ h=>h) (by rfl) hSd ?_ ?_;rotate_left;focus (intro w hSw;(try dsimp only at hSw);go_simp;try with_reducible rfl);(try simp only[Act.put,List.setIfInBounds_toArray,List.set_cons_zero,List.set_cons_succ])
    refine K4 6 rfl (λK hK=>?_);go_simp;refine K9 hK hSA ?_;clear hK K;(try simp only[Act.put,List.setIfInBounds_toArray,List.set_cons_zero,List.set_cons_succ]);refine K4 7 rfl (λK hK=>?_);refine O0 rfl _ _ 23 rfl (w.heap.size+3) 9 ii _ 1 16 Tryz.underlying23 hi iz0 iz1 iz2 rfl (by decide) _ _ _ rfl hownA ⟨w1.heap.size,0,none⟩ 1 1 [.string s0] rfl rfl (Z1 _ _ _) (CJ s0) (by unfold maxLen;omega) (by omega) (by simp;omega) ?_;intro v' w2 hown2 hgr2;have hR2:=((hR1.drew).alloc (.cells #[.string s0] 9)).own hownA hgr2 (by omega);have hG2:=AN (Gt (DS hG1) (.cells #[.string s0] 9)) hownA hgr2 (by omega);have hba:Below w1.heap.size w1 (w1.drew.alloc (.cells #[.string s0] 9)):=(A4 _ _).drew.alloc (A3 _) _;have kR2:=(kR1.up hba (by omega)).kept hgr2 (R3 hownA (by omega));have kQ2:=(kQ1.up hba (by omega)).kept hgr2 (R3 hownA (by omega));have hne2:some (w.heap.size+2)≠(Value.slice at1 ss.length ct1).ownBlock:=R3 hownA (by omega);have hS2:L6 w2 (w.heap.size+2) 0 T9:=λi s hs=>hgr2.cell ((hba.cell (p:=⟨w.heap.size+2,0+i,none⟩) hq2).trans (hS1 i s hs)) hne2;have hz2:w1.heap.size<=w2.heap.size:=by have:=hgr2.size;simp at this;omega
    have hO2:E5 w2 (w.heap.size+3) v' (ss++[s0]):=by unfold E5;simpa using hown2
    obtain⟨a2,c2,rfl⟩:=K3 hown2;have hSE:World.cell? w2 ⟨w.heap.size+1,0,none⟩=some (.slice at1 ss.length ct1)/\World.cell? w2 ⟨w.heap.size+2,k,none⟩=some (.string s0):=⟨kQ2.c2.1.1,by have:=hgr2.cell ((hba.cell (p:=⟨w.heap.size+2,k,none⟩) hq2).trans c0) hne2;exact this⟩;obtain⟨⟨y0,y1⟩,f0,f1⟩:=kQ2.c2;clear hne2 hgr2 hba hownA hown2 hown1 hSA mk;refine K9 hK hSE ?_;clear hK K;(try simp only[Act.put,List.setIfInBounds_toArray]);refine G3 (i:=8) (v:=?_) rfl (by kernel_rfl) (by kernel_rfl) (by kernel_rfl) (by kernel_rfl) (λ_ _ _ h=>h) (by rfl) hSE ?_ ?_;rotate_left;focus (intro w hSw;(try dsimp only at hSw);go_simp;try with_reducible rfl);(try simp only[Act.put,List.setIfInBounds_toArray,List.set_cons_zero,List.set_cons_succ])
    refine K4 9 rfl (λK hK=>?_);go_simp;refine Cj hK ?_;clear hK K;refine N2 (by kernel_rfl) ?_ _;have hO3:=G9 hO2 (E3 (rb:=w.heap.size+1) (off:=0) (F7 w2 _) (.slice a2 (ss.length+1) c2)) (by omega);have kQ3:CB (w2.setCell ⟨w.heap.size+1,0,none⟩ (.slice a2 (ss.length+1) c2)) (w.heap.size+1) [.slice a2 (ss.length+1) c2,.slice none 0 0]:=kQ2.set (j:=0) (by simp);have kR3:CB (w2.setCell ⟨w.heap.size+1,0,none⟩ (.slice a2 (ss.length+1) c2)) w.heap.size [.slice none 0 0,.slice none 0 0]:=kR2.other (by omega);have hS3:=hS2.other (pb:=w.heap.size+1) (off:=0) (u:=.slice a2 (ss.length+1) c2) (by omega);have hR3:=hR2.setCell (pb:=w.heap.size+1) (off:=0) (u:=.slice a2 (ss.length+1) c2) (by omega);have hG3:w.grownBy (w2.setCell ⟨w.heap.size+1,0,none⟩ (.slice a2 (ss.length+1) c2)) (some rb):=K8 hG2 (by omega) _;clear hS1 hSd hSE y0 y1 f0 f1 z0 z1 g0 g1 c0 hO2 kQ2 kR2 hS2 hR2 hG2 hR1 hG1 kR1 kQ1;go_wp2_with fail;go_roundw
    case rel=>exact⟨k+1,.slice a2 (ss.length+1) c2,ss++[s0],by omega,by go_num,kR3,kQ3,hO3,hsu,by simp;omega,λs hs=>by
      rcases C6.1 hs with h|h
      ·exact Hsz.out s h
      ·obtain rfl:s=s0:=by simpa using h
       exact hs0,hS3,hR3,hG3,by simp;omega⟩
    case measure=>simp[intOf];omega
   ·go_wp2_with fail;go_roundw
    case rel=>exact⟨k+1,_,ss,by omega,by go_num,kR1,kQ1,hown1,by (show List.Sublist _ _);rw[htk.out (by simp[T9];omega)];exact hsub.out.trans (List.sublist_append_left _ _),by omega,Hsz.out,hS1,hR1,hG1,by omega⟩
    case measure=>simp[intOf];omega
  ·obtain⟨⟨z0,z1⟩,-⟩:=kQ.c2;obtain⟨⟨y0,y1⟩,f0,f1⟩:=kR.c2;go_wp2_with fail;refine Av Tryz.results78 Tryz.underlying26 rfl L9 kR rfl ?_;refine⟨⟨_,_,ss,rfl,?_,hsub.out.trans (List.take_sublist _ _)⟩,((hRk.setCell hrl).setCell hrl).mono (by omega),K8 (K8 hGk (A3 _) _) (A3 _) _⟩;refine⟨O5.low (O5.set (O5.set ⟨_,_,[],rfl,hown,⟨B9 _ _ _ _,λp hp=>by simp at hp⟩,rfl⟩ (by omega)) (by omega)) (by omega),⟨Hsz.out,λx hx=>by simp at hx⟩,?_⟩;exact⟨by show ss.length<=40;omega,by simp,λx hx=>by simp at hx⟩
theorem TP(rb len N:Nat)(v:Value)(w:World)(hR:Rd w rb v len N)(hN:N<=900000):
  Calls Tryz.prog 78 #[.pointer (some ⟨rb,0,none⟩)] w
   λe w'=>(∃(a:Option Addr)(c:Nat)(ss:List ByteArray),e=.returned (.agg #[.slice a ss.length c,.slice none 0 0])/\Dk w' w.heap.size (.agg #[.slice a ss.length c,.slice none 0 0]) ⟨ss,[]⟩)/\Rd w' rb v len (N+10)/\w.grownBy w' (some rb) :=
 (Ri rb len N v w hR hN).mono λ_ _ h=>let ⟨⟨a,c,ss,e,hD,_⟩,h2⟩:=h;⟨⟨a,c,ss,e,hD⟩,h2⟩
theorem Gy(ss:List ByteArray)(u v:Value)(w:World)(h:Ls w u ss)(h2:Ls w v ss):
  Calls Tryz.prog 24 #[u,v] w λe w'=>e=.returned (.bool true)/\Below w.heap.size w w':=by
 obtain⟨a,c,rfl,hn,-,hpos⟩:=h;obtain⟨a2,c2,rfl,-,-,hpos2⟩:=h2;unfold maxLen at hn;go_enter Tryz.func24,Tryz.ntmps24;go_wp2_with fail;go_loopw [5] (λi w'=>∃k:Nat,k<=ss.length/\i=.int .i64 k/\Below w.heap.size w w') (λi _=>ss.length-(intOf i).toNat)
 case atStart=>exact⟨0,by omega,rfl,A4 _ _⟩
 case round =>
  obtain⟨k,hk,rfl,hB⟩:=hrel;by_cases hp:k<ss.length
  ·obtain⟨b,o,rfl,hS,hb⟩:=hpos (by omega);obtain⟨b2,o2,rfl,hS2,hb2⟩:=hpos2 (by omega);have c0:=(hB.cell (p:=⟨b,o+k,none⟩) hb).trans (hS.cell hp);have c1:=(hB.cell (p:=⟨b2,o2+k,none⟩) hb2).trans (hS2.cell hp);generalize ss[k]=s0 at *;go_wp2_with fail;go_quiet (fail);go_wp2_with fail;go_roundw
   case rel=>exact⟨k+1,by omega,by go_num,M3 hB _⟩
   case measure=>simp[intOf];omega
  ·go_wp2_with fail;go_ret;exact⟨rfl,hB⟩
end Go.Proofs.YtmfjakieahkacaaGreatDoor
