/- Steps of goroutine 0 that make memory or write it; pieces that write what is the frame's own. -/
import Derived.Test.YtcgkgmmclfeohaaGreatDoorJ39
import Derived.Test.YtcgkgmmclfeohaaGreatDoorJ41
import Derived.Test.YtcgkgmmclfeohaaGreatDoorJ42
import Derived.Test.YtcgkgmmclfeohaaGreatDoorDn6
namespace Go.Proofs.YtcgkgmmclfeohaaGreatDoor
open Go.Proofs.Tryz
open Go.Conc Go.RowKit
def DR(z:Nat)(F:World->Prop)(u:World):Prop:=∃u0,F u0/\u0.heap.size<=z/\Up u0 u
theorem CY{z:Nat}{F:World->Prop}(hF:S2 F):S2 (DR z F) :=
 ⟨λ_ _ ⟨u0,h1,h2,h3⟩ hb=>⟨u0,h1,h2,h3.trans (hb.mono h3.size)⟩,λ_ τ d ⟨u0,h1,h2,h3⟩=>⟨{u0 with tape:=τ,drawn:=d},hF.tl u0 τ d h1,h2,⟨h3.os,rfl,h3.output,h3.size,h3.block⟩⟩⟩
theorem DR.get{z:Nat}{F:World->Prop}{u:World}(h:DR z F u)(hF:S2 F):F u:=let ⟨_,h1,_,h3⟩:=h;hF.up _ _ h1 h3
theorem DR.set{z b off:Nat}{v:Value}{F:World->Prop}{u:World}(h:DR z F u)(hz:z<=b):DR z F (u.setCell ⟨b,off,none⟩ v):=let ⟨u0,h1,h2,h3⟩:=h;⟨u0,h1,h2,h3.setCell (B4 h2 hz) _⟩
theorem DR.mono{z:Nat}{F F':World->Prop}{u:World}(h:DR z F u)(hF:∀u,F u->F' u):DR z F' u:=let ⟨u0,h1,h2,h3⟩:=h;⟨u0,hF _ h1,h2,h3⟩
section
variable {X0 X:Nat->Prop} {W0 V:World} {F F':World->Prop} {Shun:Loc->Prop}
theorem JU(u:World)(o:Obj):(u.alloc o).heap=u.heap.push o:=by rw[← World.alloc_eq]
theorem Qf(hX:¬X V.heap.size)(o:Obj)(τ:Nat->Question->Nat)(d:Nat):E0 X (V.alloc o) τ d=(E0 X V τ d).alloc o:=by
 have h:(pz X (V.alloc o)).heap=(pz X V).heap.push o:=by
  apply Array.ext_getElem?
  intro b;rw[Bd,Array.getElem?_push];have hs:(pz X V).heap.size=V.heap.size:=by simp[pz]
  rw[hs];have ha:(V.alloc o).heap[b]?=if b=V.heap.size then some o else V.heap[b]?:=by rw[JU];exact Array.getElem?_push
  rw[ha];by_cases e:b=V.heap.size
  ·subst e;simp[Bw,hX]
  ·rw[if_neg e,if_neg e,Bd]
 have e1:E0 X (V.alloc o) τ d={heap:=(pz X (V.alloc o)).heap,tape:=τ,drawn:=d,os:=V.os,output:=V.output}:=by unfold E0;congr 1<;>(rw[← World.alloc_eq];rfl)
 have e2:(E0 X V τ d).alloc o={heap:=(pz X V).heap.push o,tape:=τ,drawn:=d,os:=V.os,output:=V.output}:=by rw[← World.alloc_eq];rfl
 rw[e1,e2,h]
theorem GG{b:Nat}(hX:¬X b)(off:Nat)(v:Value)(τ:Nat->Question->Nat)(d:Nat):E0 X (V.setCell ⟨b,off,none⟩ v) τ d=(E0 X V τ d).setCell ⟨b,off,none⟩ v:=by
 have h:(pz X (V.setCell ⟨b,off,none⟩ v)).heap=((pz X V).setCell ⟨b,off,none⟩ v).heap:=by
  apply Array.ext_getElem?
  intro k;rw[Bd];unfold World.setCell;simp only[Array.getElem?_modify];by_cases e:b=k
  ·subst e;simp only[if_true,Option.map_map];rw[Bd,Option.map_map];congr 1
   funext o
   simp[Bw,hX]
  ·simp only[e,if_false];rw[Bd]
 unfold E0;have e:∀u:World,u.setCell ⟨b,off,none⟩ v={u with heap:=(u.setCell ⟨b,off,none⟩ v).heap}:=λu=>rfl;rw[e (pz X V)] at h;simp only[pz] at h ⊢
 rw[e V];simp only[World.setCell] at h ⊢
 rw[h]
theorem F5.alloc(h:F5 X0 W0 F X Shun V){cs:Array Value}{t:TypeId}(hF:∀u,F u->u.heap.size=V.heap.size->F' (u.alloc (.cells cs t))):F5 X0 W0 F' X Shun (V.alloc (.cells cs t)):=by
 have hx:¬X V.heap.size:=λhx=>Nat.lt_irrefl _ (h.base.old _ hx);have hs:(V.alloc (.cells cs t)).heap.size=V.heap.size+1:=by simp
 have hg:∀b,b<V.heap.size->(V.alloc (.cells cs t)).heap[b]?=V.heap[b]?:=λb hb=>by rw[JU,Array.getElem?_push];simp[Nat.ne_of_lt hb]
 refine⟨h.hX,⟨λb hb=>by rw[hs];exact Nat.lt_succ_of_lt (h.base.old b hb),λb hb=>by rw[hg b (h.base.old b hb)];exact h.base.cov b hb,λb c u hb=>?_⟩,λτ d=>?_,λτ d=>?_,h.far⟩
 ·rcases Nat.lt_trichotomy b V.heap.size with hl|hl|hl
  ·rw[hg b hl] at hb;exact h.base.pend b c u hb
  ·subst hl;rw[JU,Array.getElem?_push_size] at hb;cases hb
  ·rw[Array.getElem?_eq_none (by rw[hs];omega)] at hb;cases hb
 ·rw[Qf hx];exact hF _ (h.hold τ d) (I5 _ _ _)
 ·rw[Qf hx];exact (h.low τ d).alloc (by have:=(h.low τ d).size;(try unfold Up at this);rw[I5] at this;exact this) _
theorem F5.set2{b:Nat}{x0 x1:Value}(h:F5 X0 W0 F X Shun V)(hx:¬X b)(hb:W0.heap.size<=b)(hF:∀u,F u->F' ((u.setCell ⟨b,0,none⟩ x0).setCell ⟨b,1,none⟩ x1)):F5 X0 W0 F' X Shun ((V.setCell ⟨b,0,none⟩ x0).setCell ⟨b,1,none⟩ x1):=by
 have hs:((V.setCell ⟨b,0,none⟩ x0).setCell ⟨b,1,none⟩ x1).heap.size=V.heap.size:=by simp
 have hg:∀k,k≠b->((V.setCell ⟨b,0,none⟩ x0).setCell ⟨b,1,none⟩ x1).heap[k]?=V.heap[k]?:=λk hk=>by
  simp only[World.setCell,Array.getElem?_modify];simp[Ne.symm hk]
 refine⟨h.hX,⟨λk hk=>by rw[hs];exact h.base.old k hk,λk hk=>by rw[hg k (λe=>hx (e ▸ hk))];exact h.base.cov k hk,λk c u hk=>?_⟩,λτ d=>?_,λτ d=>?_,h.far⟩
 ·by_cases e:k=b
  ·subst e;refine h.base.pend k c u ?_;simp only[World.setCell,Array.getElem?_modify,if_true,Option.map_map] at hk;cases ho:V.heap[k]? with
   | none=>rw[ho] at hk;cases hk
   | some o=>rw[ho] at hk;cases o<;>simp at hk ⊢<;>exact hk
  ·rw[hg k e] at hk;exact h.base.pend k c u hk
 ·rw[GG hx,GG hx];exact hF _ (h.hold τ d)
 ·rw[GG hx,GG hx];exact I4 (h.low τ d) hb _ _
theorem F5.set1{b off:Nat}{x:Value}(h:F5 X0 W0 F X Shun V)(hx:¬X b)(hb:W0.heap.size<=b)(hF:∀u,F u->F' (u.setCell ⟨b,off,none⟩ x)):F5 X0 W0 F' X Shun (V.setCell ⟨b,off,none⟩ x):=by
 have hs:(V.setCell ⟨b,off,none⟩ x).heap.size=V.heap.size:=by simp
 have hg:∀k,k≠b->(V.setCell ⟨b,off,none⟩ x).heap[k]?=V.heap[k]?:=λk hk=>by
  simp only[World.setCell,Array.getElem?_modify];simp[Ne.symm hk]
 refine⟨h.hX,⟨λk hk=>by rw[hs];exact h.base.old k hk,λk hk=>by rw[hg k (λe=>hx (e ▸ hk))];exact h.base.cov k hk,λk c u hk=>?_⟩,λτ d=>?_,λτ d=>?_,h.far⟩
 ·by_cases e:k=b
  ·subst e;refine h.base.pend k c u ?_;simp only[World.setCell,Array.getElem?_modify,if_true] at hk;cases ho:V.heap[k]? with
   | none=>rw[ho] at hk;cases hk
   | some o=>rw[ho] at hk;cases o<;>simp at hk ⊢<;>exact hk
  ·rw[hg k e] at hk;exact h.base.pend k c u hk
 ·rw[GG hx];exact hF _ (h.hold τ d)
 ·rw[GG hx];exact (h.low τ d).setCell hb _
theorem F5.set3{b:Nat}{x0 x1 x2:Value}(h:F5 X0 W0 F X Shun V)(hx:¬X b)(hb:W0.heap.size<=b)(hF:∀u,F u->F' (((u.setCell ⟨b,0,none⟩ x0).setCell ⟨b,1,none⟩ x1).setCell ⟨b,2,none⟩ x2)):F5 X0 W0 F' X Shun (((V.setCell ⟨b,0,none⟩ x0).setCell ⟨b,1,none⟩ x1).setCell ⟨b,2,none⟩ x2) :=
 F5.set1 (F:=λu=>∃v,F v/\u=(v.setCell ⟨b,0,none⟩ x0).setCell ⟨b,1,none⟩ x1) (F5.set2 h hx hb λu hu=>⟨u,hu,rfl⟩) hx hb λu ⟨v,hv,e⟩=>by rw[e];exact hF v hv
variable {P:Program} {s:Nat->Bool} {Post:Value->World->Prop} {b:Frame} {a:Act} {k:List Item} {cs:List Frame} {gs:Array Goroutine} {sl:Option (Nat×Nat)} {t:Trace}
theorem Xl{V':World}{ops:Array Oper}{i:Nat}{rest:List Nat}{o:Oper}{v:Value}{dst:Option Tmp}(B:Nat)(hh:G6 P Shun gs (G (b.at a (.inRegion ops (i::rest)::k)) cs) t)(ho:ops[i]?=some o)(hw:Region.wanted o (yielded ops a.tmps)=true)(hk:b.kind=.normal)(hdst:o.dst=dst)
  (hr:∀d,(execOp a.eval o).run P (V.at d)=.ok (.value v) (V'.at d)) (he:∀d,∀e∈(execOp a.eval o).events P (V.at d) #[],EvL Shun B e)
  (kk:∀gs' sl' t' d,G6 P Shun gs' (G (b.at (a.put dst v) (.inRegion ops rest::k)) cs) t'->E7 P Post (crowd gs' (V'.at d) sl') t'):E7 P Post (crowd gs V sl) t:=by
 subst hdst
 have hG:Go.Conc.Goes P true AtRel (DE (EvL Shun B)) (λg w'=>g=G (b.at (a.put o.dst v) (.inRegion ops rest::k)) cs/\AtRel V' w') 1 (G (b.at a (.inRegion ops (i::rest)::k)) cs) V:=Go.Conc.Goes.step rfl λw₁ h₁=>by
  obtain⟨d,rfl⟩:=h₁;rw[stepG_value ho hw (by rw[hk];intro h;cases h) (hr d)];simp only[goes_go];exact⟨λe hx=>he d e (mem_listed hx),Go.Conc.Goes.stop λw₂ h₂=>⟨rfl,by obtain⟨d',rfl⟩:=h₂;exact⟨d',rfl⟩⟩⟩
 refine P5 (D:=DE (EvL Shun B)) (B0:=B) (λ_ _ _ h=>h) hh hG λgs' g'' w' sl' t' hh' hst=>?_;obtain⟨rfl,d,rfl⟩:=hst;exact kk _ _ _ _ hh'
theorem AgI{V':World}{ops:Array Oper}{i:Nat}{rest:List Nat}{o:Oper}(B:Nat)(hh:G6 P Shun gs (G (b.at a (.inRegion ops (i::rest)::k)) cs) t)(ho:ops[i]?=some o)(hw:Region.wanted o (yielded ops a.tmps)=true)(hk:b.kind=.normal)(hdst:o.dst=none)
  (hr:∀d,(execOp a.eval o).run P (V.at d)=.ok .skip (V'.at d)) (he:∀d,∀e∈(execOp a.eval o).events P (V.at d) #[],EvL Shun B e)
  (kk:∀gs' sl' t' d,G6 P Shun gs' (G (b.at a (.inRegion ops rest::k)) cs) t'->E7 P Post (crowd gs' (V'.at d) sl') t'):E7 P Post (crowd gs V sl) t:=by
 have hG:Go.Conc.Goes P true AtRel (DE (EvL Shun B)) (λg w'=>g=G (b.at a (.inRegion ops rest::k)) cs/\AtRel V' w') 1 (G (b.at a (.inRegion ops (i::rest)::k)) cs) V:=Go.Conc.Goes.step rfl λw₁ h₁=>by
  obtain⟨d,rfl⟩:=h₁;rw[stepG_none ho hw (by rw[hk];intro h;cases h) (hr d),hdst];simp only[goes_go];exact⟨λe hx=>he d e (mem_listed hx),Go.Conc.Goes.stop λw₂ h₂=>⟨rfl,by obtain⟨d',rfl⟩:=h₂;exact⟨d',rfl⟩⟩⟩
 refine P5 (D:=DE (EvL Shun B)) (B0:=B) (λ_ _ _ h=>h) hh hG λgs' g'' w' sl' t' hh' hst=>?_;obtain⟨rfl,d,rfl⟩:=hst;exact kk _ _ _ _ hh'
end
end Go.Proofs.YtcgkgmmclfeohaaGreatDoor
namespace Go.Proofs.YtcgkgmmclfeohaaGreatDoor
open Go.Proofs.Tryz
open Go.RowKit
theorem Xm{hb:Nat->Bool}{l:List BA}{s:BA}:∀{n:Nat},n<=l.length->s∈pk hb l n->∃k,k<n/\hb k=true/\l[k]?=some s
 | 0,_,h=>by simp[pk] at h
 | n+1,hn,h=>by
  rw[pk,C9] at h;have hg:l.getD n ByteArray.empty=l[n]:=by rw[List.getD_eq_getElem?_getD,A0 (by omega)];rfl
  rcases h with h|h
  ·obtain⟨k,h1,h2,h3⟩:=Xm (by omega:n<=l.length) h;exact⟨k,by omega,h2,h3⟩
  ·split at h
   ·next hy =>
    simp only[D0] at h;exact⟨n,by omega,hy,by rw[h,hg,A0 (by omega)]⟩
   ·simp at h
theorem Pb{b:Bk}(hok:I8 b){k:Nat}(hk:k<b.bs.length):Bf b k=true↔ES b.bs k []:=by
 have h8:b.tg.length<=8:=hok.1.1;have hg:=UQ hk
 have ht:=Oi hok (ts:=Z4 b.bs b.bs.length) (by rw[OJ,List.take_length]) (gone:=[]) (λi p hp=>by
  rw[Z4,List.take_length,B3] at hp;obtain⟨x,-,rfl⟩:=B6.1 hp;rfl) hg rfl
 have hn:YX b k=G4 b.tg (D7 (b.bs[k]).nd):=by rw[YX,A0 hk];rfl
 have hh:YW b k=G4 b.tg (D7 (b.bs[k]).has):=by rw[YW,A0 hk];rfl
 rw[Bf,← ht,hn,hh,frW];have n1:=U6 h8 (D7 (b.bs[k]).has);have n2:=U6 h8 (D7 (b.bs[k]).nd);have n3:=U6 h8 (U1 (Z4 b.bs b.bs.length));rw[← Int.natCast_add,KF _ _ n2 (by omega),beq_iff_eq];exact Int.natCast_eq_zero
theorem ZP{b:Bk}{nm:BA}{ls:List BA}(hok:I8 b)(hc:O8 b nm ls=0)(ht:¬Z8 b.bs (F3 b nm:Int) ls)(hs:O4 b)(hn:¬O4 (X8 b (F3 b nm) (P7 ls))):D7 (N5 b) nm=false:=by
 cases hq:D7 (N5 b) nm with
 | false=>rfl
 | true =>
  exfalso
  have hb:J6 b=true:=Au hok;rw[S0,N5,if_pos hb] at hq;obtain⟨k,hk,hm,a0⟩:=Xm (by rw[N7];exact A3 _) hq;obtain⟨x,hx,a1,a2⟩:=JS (Eo hc);have e:k=F3 b nm:=HK hok k (F3 b nm) nm a0 (by rw[I3,B3,hx,← a1];rfl);subst e;exact ZH hok hc ht hs hn ((Pb hok hk).1 hm)
theorem Tl{w:World}{v:Value}{b:Bk}(h:K6 w v b):∀s∈N5 b,s.size<=maxLen:=λs hs=>by
 rw[N5] at hs;split at hs
 ·exact Abd h s (Sm (by rw[N7];exact A3 _) s hs)
 ·simp at hs
end Go.Proofs.YtcgkgmmclfeohaaGreatDoor
namespace Go.Proofs.YtcgkgmmclfeohaaGreatDoor
open Go.Proofs.Tryz
section
variable {b:Bk} {nm:BA} {ls:List BA}
theorem O4.ok(h:O4 b):I8 b:=by
 obtain⟨ss,h|h⟩:=h
 ·exact h.2.1
 ·cases h.1
theorem O4.book(h:O4 b):J6 b=true:=Au h.ok
theorem ZQ{o:List BA}(h:Ko b o):O4 b:=(BN (Cu.1 h).1).2 ⟨o,(Cu.1 h).2⟩
theorem Ue:CP P8:=by
 refine⟨by decide,λi a hi ha=>?_,λi a c hi ha hc=>?_⟩
 ·match i,hi with
  | 0,_=>obtain rfl:=A5 ha;decide
  | 1,_=>obtain rfl:=A5 ha;decide
  | 2,_=>obtain rfl:=A5 ha;decide
  | 3,_=>obtain rfl:=A5 ha;decide
  | 4,_=>obtain rfl:=A5 ha;decide
  | n+5,h=>exact absurd h (by simp[P8])
 ·match i,hi with
  | 0,_=>obtain rfl:=A5 ha;obtain rfl:=A5 hc;rw[DT,Go.ByteArray.toList_eq,Go.ByteArray.toList_eq];decide
  | 1,_=>obtain rfl:=A5 ha;obtain rfl:=A5 hc;rw[DT,Go.ByteArray.toList_eq,Go.ByteArray.toList_eq];decide
  | 2,_=>obtain rfl:=A5 ha;obtain rfl:=A5 hc;rw[DT,Go.ByteArray.toList_eq,Go.ByteArray.toList_eq];decide
  | 3,_=>obtain rfl:=A5 ha;obtain rfl:=A5 hc;rw[DT,Go.ByteArray.toList_eq,Go.ByteArray.toList_eq];decide
  | n+4,h=>exact absurd h (by simp[P8])
theorem ZR{ts:List BA}(h:ts.Sublist P8):O4 ⟨ts,[]⟩:=by
 obtain⟨h1,h2,h3⟩:=Ue;have a0:I8 ⟨ts,[]⟩:=⟨⟨by have:=h.length_le;show ts.length<=8;omega,EQ.2 λs hs=>EQ.1 h2 s (h.subset hs),CK.2 ((CK.1 h3).sublist h)⟩,by simp,λi a hi=>by simp[I3] at hi,λi a c hi=>by simp[I3] at hi,λi x hi=>by simp at hi,λi j x y hji hi hx=>by simp at hx⟩;exact (BN a0).2 ⟨[],trivial,λx hx=>by simp at hx⟩
theorem Uf(h:O4 b):O4 (N9 b nm ls)/\(R8 b nm ls≠0->N9 b nm ls=b):=by
 have hb:=h.book;cases h2:(U0 nm&&pB (J3 ls b.tg))
 ·rw[(Ij hb h2).2];exact⟨h,λ_=>rfl⟩
 cases h3:D7 (I3 b.bs) nm
 ·by_cases h4:5<=b.bs.length
  ·rw[(Jo hb h2 h3 h4).2];exact⟨h,λ_=>rfl⟩
  have e:=Kt hb h2 h3 h4;refine⟨?_,λhc=>absurd e.1 hc⟩;rw[e.2];rw[Bool.and_eq_true] at h2;have a0:=Abv h.ok h2.1 (U9.1 h2.2) h3 (by omega);have a1:∀x∈b.bs,x.nm≠nm:=λx hx e=>(Av _ _).1 h3 (by rw[← e];exact List.mem_map.2 ⟨x,hx,rfl⟩);obtain⟨o,ho⟩:=(BN h.ok).1 h;exact (BN a0).2 ⟨_,Abt (z:=⟨nm,[],ls⟩) rfl (λx=>Agz x) a1 ho⟩
 ·rw[(IG hb h2 h3).2];exact⟨h,λ_=>rfl⟩
theorem Xn(h:O4 b):O4 (Z5 b nm ls)/\(AF b nm ls≠0->Z5 b nm ls=b):=by
 have hb:=h.book;cases hm:D7 (I3 b.bs) nm
 ·rw[(EK hb hm).2];exact⟨h,λ_=>rfl⟩
 cases hp:pB (J3 ls (N8 b nm))
 ·rw[(Fq hb hm hp).2];exact⟨h,λ_=>rfl⟩
 have e:=Fs hb hm hp;refine⟨?_,λhc=>absurd e.1 hc⟩;rw[e.2];obtain⟨k1,k2⟩:=AdV h.ok hm (U9.1 hp);obtain⟨o,ho⟩:=(BN h.ok).1 h;exact (BN k1).2 ⟨o,k2 o ho⟩
theorem Ma(h:O4 b):O4 (S5 b nm)/\(Bc b nm≠0->S5 b nm=b):=by
 have hb:=h.book;cases hm:D7 (I3 b.bs) nm
 ·rw[(DV hb hm).2];exact⟨h,λ_=>rfl⟩
 have e:=DB hb hm;refine⟨?_,λhc=>absurd e.1 hc⟩;rw[e.2];obtain⟨o,ho⟩:=(BN h.ok).1 h;obtain⟨o',a0⟩:=Xb hm (Cu.2 ⟨h.ok,ho⟩);exact ZQ a0
theorem Qg(h:O4 b):O4 (Z1 b nm ls)/\(Ej b nm ls≠0->Z1 b nm ls=b):=by
 have hb:=h.book;have e1:Ej b nm ls=Bq b nm ls:=by simp[Ej,L0,hb]
 by_cases h0:Bq b nm ls=0
 ·have e2:Z1 b nm ls=X8 b (F3 b nm) (P7 ls):=by simp[Z1,K7,hb,h0]
  refine⟨?_,λhc=>absurd (e1.trans h0) hc⟩;rw[e2];have a0:=Ix h0;have ht:¬Z8 b.bs (F3 b nm:Int) ls:=λht=>by rw[KS a0 ht] at h0;simp at h0
  rw[Ge a0 ht,Au h] at h0;cases hq:pB (O4 (X8 b (F3 b nm) (P7 ls))) with
  | true=>exact U9.1 hq
  | false=>rw[hq] at h0;simp at h0
 ·have e2:Z1 b nm ls=b:=by simp[Z1,K7,hb,h0]
  rw[e2];exact⟨h,λ_=>rfl⟩
theorem Acr{hb:Nat->Bool}{l:List BA}{s:BA}:∀{n:Nat},n<=l.length->(∃k,k<n/\hb k=true/\l[k]?=some s)->s∈pk hb l n
 | 0,_,⟨k,hk,_⟩=>by omega
 | n+1,hn,⟨k,hk,h1,h2⟩=>by
  rw[pk,C9];by_cases e:k=n
  ·subst e;rw[if_pos h1,List.getD_eq_getElem?_getD,h2];exact .inr (by simp)
  ·exact .inl (Acr (by omega) ⟨k,by omega,h1,h2⟩)
theorem NW(h:O4 b)(hn:0<b.bs.length):N5 b≠[]:=λe=>by
 obtain⟨o,ho⟩:=(BN h.ok).1 h;obtain⟨k,hk,x,hx,-,hc⟩:=Qa (gone:=[]) (n:=0) (Cu.2 ⟨h.ok,ho⟩) .none hn
 have hm:x.nm∈N5 b:=by
  rw[N5,if_pos h.book];exact Acr (by rw[N7];exact A3 _) ⟨k,hk,(Pb h.ok hk).2 hc,by rw[I3,B3,hx];rfl⟩
 rw[e] at hm;simp at hm
def U8(b:Bk)(nm:BA):List BA:=b.bs.flatMap λx=>if x.nm.toList==nm.toList then x.nd.filter (λs=>!D7 x.has s) else []
theorem Aeg(hok:I8 b){x:Ba}{p:Nat}(hx:b.bs[p]?=some x)(hn:x.nm=nm):U8 b nm=x.nd.filter λs=>!D7 x.has s:=by
 have hp:p<b.bs.length:=by
  rcases Nat.lt_or_ge p b.bs.length with h|h
  ·exact h
  ·rw[C6 h] at hx;cases hx
 have a2:b.bs[p]=x:=by rw[A0 hp] at hx;exact A5 hx
 have hs:b.bs=b.bs.take p++x::b.bs.drop (p+1):=by rw[← a2,List.getElem_cons_drop,List.take_append_drop]
 have a3:∀(i:Nat)(y:Ba),b.bs[i]?=some y->i≠p->((y.nm.toList==nm.toList)=false):=λi y hy a0=>by
  cases hq:(y.nm.toList==nm.toList) with
  | false=>rfl
  | true =>
   have e:y.nm=nm:=GM (by simpa using hq);exact absurd (HK hok i p nm (by rw[I3,B3,hy,← e];rfl) (by rw[I3,B3,hx,← hn];rfl)) a0
 have a1:∀l:List Ba,(∀y∈l,∃i,b.bs[i]?=some y/\i≠p)->(l.flatMap λx=>if x.nm.toList==nm.toList then x.nd.filter (λs=>!D7 x.has s) else [])=[]:=λl hl=>by
  rw[List.flatMap_eq_nil_iff];intro y hy;obtain⟨i,hi,a0⟩:=hl y hy;rw[a3 i y hi a0];rfl
 unfold U8;rw[hs,List.flatMap_append,List.flatMap_cons,a1 (b.bs.take p),a1 (b.bs.drop (p+1)),List.nil_append,List.append_nil,if_pos (by rw[hn];simp)]
 ·intro y hy;obtain⟨i,hi,rfl⟩:=B7 hy;rw[A8] at hi;refine⟨p+1+i,?_,by omega⟩;rw[List.getElem_drop,A0]
 ·intro y hy;obtain⟨i,hi,rfl⟩:=B7 hy;rw[B8] at hi;refine⟨i,?_,by omega⟩;rw[List.getElem_take,A0]
theorem Aeh(h:O4 b)(hm:nm∈N5 b):Ej b nm (U8 b nm)=0/\O4 (Z1 b nm (U8 b nm))/\Bc (Z1 b nm (U8 b nm)) nm=0/\O4 (S5 (Z1 b nm (U8 b nm)) nm)/\(S5 (Z1 b nm (U8 b nm)) nm).bs.length+1=b.bs.length/\(U8 b nm).length<=8:=by
 have a2:=h.ok;have hb:=h.book;have a3:D7 (N5 b) nm=true:=(S0 _ _).2 hm;rw[N5,if_pos hb] at hm;have a4:D7 (I3 b.bs) nm=true:=(S0 _ _).2 (Sm (by rw[N7];exact A3 _) nm hm);obtain⟨k,hk,b0,b1⟩:=Xm (by rw[N7];exact A3 _) hm;obtain⟨x,hx,a7,b6⟩:=JS a4;obtain rfl:k=F3 b nm:=HK a2 k (F3 b nm) nm b1 (by rw[I3,B3,hx,← a7];rfl);have a5:=(Pb a2 hk).1 b0;have a8:=Aeg a2 hx a7;have a0:=BL hx;have b3:=Ca.1 a2.2.2.2.2.1 x (A6 hx)
 have a6:O8 b nm (U8 b nm)=0:=IX a4 (Au (by
  rw[a8,a0];exact⟨DO.2 λs hs=>(List.mem_filter.1 hs).1,CK.2 ((CK.1 b3.1.2).sublist List.filter_sublist)⟩))
 have ht:¬Z8 b.bs (F3 b nm:Int) (U8 b nm):=by
  rintro⟨i,y,hi,hy,hsh⟩
  have b4:i<b.bs.length:=by
   rcases Nat.lt_or_ge i b.bs.length with h|h
   ·exact h
   ·rw[C6 h] at hy;cases hy
  have h1:=a5 i y x b4 (λe=>hi (by rw[e])) hy hx (by simp[D7]);obtain⟨s,b2,a1⟩:=(Gs _ _).1 hsh;rw[a8] at a1;exact (S9 _ _).1 h1 s b2 (List.mem_filter.1 a1).1
 have hr:Bq b nm (U8 b nm)=0:=by
  rw[Ge a6 ht,Au h];cases hq:pB (O4 (X8 b (F3 b nm) (P7 (U8 b nm)))) with
  | true=>simp
  | false =>
   have:=ZP a2 a6 ht h (Cc.1 hq);rw[this] at a3;cases a3
 have e1:Ej b nm (U8 b nm)=0:=by simp[Ej,L0,hb,hr]
 have e2:Z1 b nm (U8 b nm)=X8 b (F3 b nm) (P7 (U8 b nm)):=by simp[Z1,K7,hb,hr]
 have a1:=(Qg (nm:=nm) (ls:=U8 b nm) h).1;have b5:D7 (I3 (Z1 b nm (U8 b nm)).bs) nm=true:=by rw[e2,OX hx];exact a4
 have b7:(Z1 b nm (U8 b nm)).bs.length=b.bs.length:=by rw[e2,BQ hx];simp
 have a9:=(DB a1.book b5).1;have:=Xc a9;refine⟨e1,a1,a9,(Ma a1).1,by omega,?_⟩;have h8:=Fz a2 a6;omega
theorem ZS(h:O4 b):Gf b=false:=by
 by_cases hn:0<b.bs.length
 ·have:=NW h hn;have h1:0<(N5 b).length:=List.length_pos_iff.2 this;simp[Gf];intros
  first|omega|simp_all
 ·simp[Gf];intros
  first|omega|simp_all
end
end Go.Proofs.YtcgkgmmclfeohaaGreatDoor
namespace Go.Proofs.YtcgkgmmclfeohaaGreatDoor
open Go.Proofs.Tryz
open Go.RowKit
structure Dv where
 kd:Int
 nm:BA
 lv:Value
 ls:List BA
def Pc(p:Dv):List Value:=[.int .i64 p.kd,.string p.nm,p.lv]
def Eg:List Dv->List Value
 | []=>[]
 | p::r=>Pc p++Eg r
theorem NX(p:Dv):∀ps:List Dv,Eg (ps++[p])=Eg ps++Pc p
 | []=>by simp[Eg]
 | q::r=>by rw[List.cons_append,Eg,Eg,NX p r,List.append_assoc]
theorem Tm:∀(ps:List Dv)(i:Nat)(p:Dv),ps[i]?=some p->∀(j:Nat)(u:Value),(Pc p)[j]?=some u->(Eg ps)[i*3+j]?=some u
 | q::r,0,p,hp,j,u,hu=>by
  simp at hp;subst hp
  have hj:j<(Pc q).length:=(A2.1 hu).1;rw[Eg,Nat.zero_mul,Nat.zero_add,List.getElem?_append_left hj];exact hu
 | q::r,i+1,p,hp,j,u,hu=>by
  have:=Tm r i p (by simpa using hp) j u hu;have hl:(Pc q).length=3:=rfl;rw[Eg,C8 (by rw[hl];omega),hl,show (i+1)*3+j-3=i*3+j by omega];exact this
theorem AgJ:(prog.info? 31).map (λi=>(i.zero,i.size,i.bytes))=some (some (.agg #[Iz 0,Ez,Nz]),3,48):=by kernel_rfl
def Ib(w:World)(base:Nat)(d:Dv):Prop:=d.nm.size<=maxLen/\G3 w base d.lv d.ls/\(∀s∈d.ls,s.size<=maxLen)/\d.ls.length<=100
theorem Ib.up{w w':World}{base:Nat}{d:Dv}(h:Ib w base d)(hb:Up w w'):Ib w' base d:=⟨h.1,P0 h.2.1 hb,h.2.2⟩
theorem Ib.gr{w w':World}{base r:Nat}{d:Dv}(h:Ib w base d)(hg:w.grownBy w' (some r))(hr:r<base):Ib w' base d:=⟨h.1,J0 h.2.1 hg hr,h.2.2⟩
theorem Ib.row{w w':World}{base b2 n:Nat}{v:Value}{xs:List Value}{d:Dv}(h:Ib w base d)(hrow:w.ownsRow b2 31 3 v n xs)(hg:w.grownBy w' v.ownBlock):Ib w' base d:=⟨h.1,P4 h.2.1 hg (X5 h.2.1 hrow (by decide)),h.2.2⟩
def Ic(w:World)(v:Value)(ds:List Dv):Prop:=ds.length<=40/\(∀d∈ds,d.nm.size<=maxLen/\Ls w d.lv d.ls/\d.ls.length<=100)/\∃a c,v=.slice a ds.length c/\(0<ds.length->∃g,a=some ⟨g,0,none⟩/\g<w.heap.size/\∀(i:Nat)(d:Dv),ds[i]?=some d->w.cell? ⟨g,i*3,none⟩=some (.int .i64 d.kd)/\w.cell? ⟨g,i*3+1,none⟩=some (.string d.nm)/\w.cell? ⟨g,i*3+2,none⟩=some d.lv)
theorem Ic.up{w w':World}{v:Value}{ds:List Dv}(h:Ic w v ds)(hb:Up w w'):Ic w' v ds:=by
 obtain⟨h1,h2,a,c,h3,h4⟩:=h;refine⟨h1,λd hd=>⟨(h2 d hd).1,(h2 d hd).2.1.up hb,(h2 d hd).2.2⟩,a,c,h3,λhp=>?_⟩;obtain⟨g,e,hg,hc⟩:=h4 hp;refine⟨g,e,A1 hg hb.size,λi d hd=>?_⟩;obtain⟨c1,c2,c3⟩:=hc i d hd;exact⟨(hb.cell (p:=⟨g,i*3,none⟩) hg).trans c1,(hb.cell (p:=⟨g,i*3+1,none⟩) hg).trans c2,(hb.cell (p:=⟨g,i*3+2,none⟩) hg).trans c3⟩
theorem AgK{w:World}{base b2:Nat}{v:Value}{ds:List Dv}(h:w.ownsRow base 31 3 v ds.length (Eg ds))(hd:∀d∈ds,Ib w b2 d)(hl:ds.length<=40):Ic w v ds:=by
 obtain⟨a,c,rfl⟩:=L9 h;refine⟨hl,λd hx=>⟨(hd d hx).1,(hd d hx).2.1.lst.ls (hd d hx).2.2.1,(hd d hx).2.2.2⟩,a,c,rfl,λhp=>?_⟩;obtain⟨g,a1,hv⟩:=U5 h hp;obtain⟨rfl,-,rfl⟩:=Value.slice.inj hv;refine⟨g,rfl,(h.lt g rfl).2,λi d hx=>?_⟩;have hi:i<ds.length:=(A2.1 hx).1
 have a0:∀j u,(Pc d)[j]?=some u->w.cell? ⟨g,i*3+j,none⟩=some u:=λj u hu=>by
  have hj:j<3:=(A2.1 hu).1;rw[h.cellAt (i*3+j) (by omega)];exact Tm ds i d hx j u hu
 exact⟨a0 0 _ rfl,a0 1 _ rfl,a0 2 _ rfl⟩
theorem AlL(w:World)(x0 x1 x2:Value)(t:TypeId):∀(j:Nat)(u:Value),[x0,x1,x2][j]?=some u->(w.alloc (Kz [x0,x1,x2] t)).cell? ((⟨w.heap.size,0,none⟩:Addr).add j)=some u:=λj u hj=>by
 match j,hj with
 | 0,h=>simp at h;subst h;simp[Addr.add]
 | 1,h=>simp at h;subst h;simp[Addr.add]
 | 2,h=>simp at h;subst h;simp[Addr.add]
 | n+3,h=>simp at h
theorem Ab5{w w':World}{base b2 n:Nat}{v u:Value}{b:Bk}{xs:List Value}(h:N4 w base v b)(hrow:w.ownsRow b2 31 3 u n xs)(hg:w.grownBy w' u.ownBlock):N4 w' base v b:=by
 obtain⟨tu,bu,ps,rfl,a1,a2,a3⟩:=h;exact⟨tu,bu,ps,rfl,P4 a1 hg (X5 a1 hrow (by decide)),⟨P4 a2.1 hg (X5 a2.1 hrow (by decide)),λp hp=>⟨P4 (a2.2 p hp).1 hg (X5 (a2.2 p hp).1 hrow (by decide)),P4 (a2.2 p hp).2.1 hg (X5 (a2.2 p hp).2.1 hrow (by decide)),(a2.2 p hp).2.2⟩⟩,a3⟩
structure EJ (w w3 W:World) (rb len N q z1 B:Nat) (v tv xv1 xv2 ov:Value) (b:Bk) (ds:List Dv):Prop where
 r:CB W w.heap.size [.slice none 0 0,.slice none 0 0]
 b5:CB W q [tv,.slice none 0 0]
 x:CB W (q+1) [xv1,xv2]
 rd:Rd W rb v len N
 g:w3.grownBy W (some rb)
 bel:Up w W
 bk:Dk W z1 (.agg #[xv1,xv2]) b
 row:W.ownsRow B 31 3 ov ds.length (Eg ds)
 ds:∀d∈ds,Ib W B d
 sz:B<=W.heap.size
section
variable {w w3 W X:World} {rb len N M q z1 B:Nat} {v tv xv1 xv2 ov:Value} {b:Bk} {ds:List Dv}
theorem EJ.up(h:EJ w w3 W rb len N q z1 B v tv xv1 xv2 ov b ds)(hb:Up W X):EJ w w3 X rb len N q z1 B v tv xv1 xv2 ov b ds :=
 ⟨h.r.up hb h.r.2.2,h.b5.up hb h.b5.2.2,h.x.up hb h.x.2.2,h.rd.kept hb,S3 h.g (Bm hb),D4 h.bel hb,h.bk.up hb,P0 h.row hb,λd hd=>(h.ds d hd).up hb,B4 h.sz hb.size⟩
theorem EJ.gr(h:EJ w w3 W rb len N q z1 B v tv xv1 xv2 ov b ds)(hg:W.grownBy X (some rb))(hR:Rd X rb v len M)(h1:w.heap.size<rb)(h2:rb<z1)(h3:z1<=q)(h4:q<B):EJ w w3 X rb len M q z1 B v tv xv1 xv2 ov b ds :=
 ⟨h.r.kept hg (by simp;omega),h.b5.kept hg (by simp;omega),h.x.kept hg (by simp;omega),hR,S3 h.g hg,Md h.bel hg (by omega),h.bk.gr hg h2,J0 h.row hg (by omega),λd hd=>(h.ds d hd).gr hg (by omega),B4 h.sz hg.size⟩
end
set_option maxRecDepth 20000 in
set_option maxHeartbeats 4000000 in
theorem Tn(a:Option Addr)(n cap:Nat)(w:World)(h:Ax w w.heap.size (.slice a n cap) n)(hcap:n<=cap)(hbig:cap<=maxLen):
  Calls prog 4 #[.slice a n cap] w λe w'=>(∃(u ov:Value)(ts:List BA)(ds:List Dv),e=.returned (.tuple #[u,ov])/\K6 w' u ⟨ts,[]⟩/\ts.Sublist P8/\Ic w' ov ds)/\Up w w':=by
 obtain⟨ii,hi,g9,h0,h1⟩:=info_parts AgJ;go_in;go_upto_region 1 with fail;obtain⟨W1,d9,kR,c9,h2⟩:=cbE1 w [.slice none 0 0,.slice none 0 0] 26;rw[d9];clear d9;go_wp2_with fail;refine (WI a n cap _ (h.up c9 (by omega)) hcap hbig).mono ?_;rintro e w2 ⟨⟨rb,b1,v,rfl,d5,i2⟩,d6⟩;have kR:=kR.up d6 (by omega);have e8:=D4 c9 d6;have b4:w.heap.size<rb:=by omega
 have c5:=d5.lt;clear c9 d6 h2 i2 h;go_wp2_with fail;refine (Ua rb b1 0 v _ d5 (by omega)).mono ?_;rintro e w3 ⟨⟨ta,tc,ts,rfl,hD,b8⟩,g2,c7⟩;have Hsub:Hid (ts.Sublist P8):=b8;have kR:=kR.kept c7 (by simp;omega);have e9:=Md e8 c7 (by omega);have f2:=c7.size;clear e8 c7 d5 b8;go_upto_region 3 with fail;obtain⟨W4,e0,k5,e1,e2⟩:=cbE1 w3 [.slice ta ts.length tc,.slice none 0 0] 26;rw[e0];clear e0;obtain⟨z0,z1⟩:=k5.c2';go_upto_region 4 with fail
 obtain⟨W5,e3,k6,d3,e4⟩:∃W5,W4.alloc (.cells #[.slice ta ts.length tc,.slice none 0 0] 26)=W5/\CB W5 (w3.heap.size+1) [.slice ta ts.length tc,.slice none 0 0]/\Up W4 W5/\W5.heap.size=w3.heap.size+2:=by
  obtain⟨y1,y2,y3⟩:=ML W4 [.slice ta ts.length tc,.slice none 0 0] 26;exact⟨_,rfl,by rw[← e2];exact y1,y2,by omega⟩
 try rw[e3]
 clear e3 z0 z1;go_upto_region 5 with fail;obtain⟨W6,e5,a8,b3⟩:∃W6,W5.alloc (.cells #[] 31)=W6/\W6.ownsRow W5.heap.size 31 3 (.slice (some ⟨W5.heap.size,0,none⟩) 0 0) 0 (Eg [])/\Up W5 W6:=⟨_,rfl,C0 W5 #[] 0 (A3 _) (by unfold maxLen;omega) rfl,(A4 _ _).alloc (A3 _) _⟩;try rw[e5]
 clear e5;have b6:Up w3 W5:=e1.trans (d3.mono (by omega));have a6:Up w3 W6:=b6.trans (b3.mono (by omega))
 have J:EJ w w3 W6 rb b1 10 w3.heap.size w2.heap.size W5.heap.size v (.slice ta ts.length tc) (.slice ta ts.length tc) (.slice none 0 0) (.slice (some ⟨W5.heap.size,0,none⟩) 0 0) ⟨ts,[]⟩ [] :=
  ⟨kR.up a6 (by omega),(k5.up d3 (by omega)).up b3 (by omega),k6.up b3 (by omega),g2.kept a6,Bm a6,D4 e9 a6,hD.up a6,a8,λd hd=>by simp at hd,b3.size⟩
 have HD:Hid (Dk w3 w2.heap.size (.agg #[.slice ta ts.length tc,.slice none 0 0]) ⟨ts,[]⟩):=hD;have hq:w2.heap.size<=w3.heap.size:=f2;have i6:w3.heap.size+2=W5.heap.size:=e4.symm;clear kR k5 k6 e1 d3 b3 b6 a6 a8 g2 e9 hD e2 e4 f2;generalize W5.heap.size=B at *;generalize hq3:w3.heap.size=q at *;have Hq3:Hid (w3.heap.size=q):=hq3;clear hq3;go_wp2_with fail;refine (Cn rb b1 _ v 40 _ J.rd (by omega)).mono ?_;rintro e w7 ⟨⟨x,rfl,i3,g3⟩,g4,g5⟩;have i7:=g3 (by omega);obtain⟨m,rfl⟩:∃m:Nat,x=(m:Int):=⟨x.toNat,by omega⟩;have J:=J.gr g5 g4 b4 c5 hq (by omega);clear g4 g5 i3 g3;go_wp2_with fail;(try dsimp only[Iz,Sz,Sy,Nz,Vz,Tz,Ez,Pz]);go_loopw [7,8,9] (λov i _ w'=>∃(k:Nat)(a1:Option Addr)(c1:Nat)(a2:Option Addr)(c2:Nat)(b:Bk)(ds:List Dv),k<=m/\i=.int .i64 k/\ds.length=m-k/\EJ w w3 w' rb b1 (11+200*(m-k)) q w2.heap.size B v (.slice ta ts.length tc) (.slice a1 b.tg.length c1) (.slice a2 b.bs.length c2) ov b ds) (λ_ i _ _=>(intOf i).toNat)
 case atStart=>exact⟨m,_,_,_,_,⟨ts,[]⟩,[],by omega,rfl,by simp,by simpa using J⟩
 case round =>
  clear J;obtain⟨k,a1,c1,a2,c2,b,ds,hk,rfl,e6,J⟩:=hrel;by_cases hp:0<k
  ·have h3:(0:Int)<(k:Int):=by omega
   have Hm:Hid (200*(m-(k-1))=200*(m-k)+200):=by show _=_;omega
   have h4:11+200*(m-k)<=800000:=by omega
   have Hdl:Hid (ds.length=m-k):=e6;have h5:ds.length<=40:=by omega
   clear e6;obtain⟨x0,x1⟩:=J.x.c2';go_wp2_with fail;refine (WM rb b1 _ w2.heap.size v _ b _ J.rd h4 J.bk.loose c5).mono ?_;rintro e w8 ⟨⟨kd,nm,al,cl,a0,rfl,d7,g6,g7,i4⟩,g8,d8⟩;have i8:=J.sz;have i9:=d8.size;have J8:=J.gr d8 g8 b4 c5 hq (by omega);clear J g8 d8 x0 x1;go_upto_region 9 with fail;obtain⟨W9,e7,kD,b9,i5⟩:=cbE1 w8 [.int .i64 kd,.string nm,.slice al a0.length cl] 31;try rw[e7]
   clear e7;have c6:Ib W9 B ⟨kd,nm,.slice al a0.length cl,a0⟩:=⟨g6,N1 (P0 d7 b9) (by omega),g7,i4⟩;have f3:=(d7.lst.ls g7).up b9;have J9:=J8.up b9;have j0:q+1<w8.heap.size:=J8.x.2.2;clear J8 b9 d7;obtain⟨x0,x1⟩:=J9.x.c2';obtain⟨⟨d0,d1,d2⟩,-⟩:=kD.c3;go_wp2_with fail;refine (WJ b _ kd nm al cl a0 w2.heap.size _ J9.bk f3 g6 (by omega)).mono ?_;rintro e c8 ⟨⟨u,b',rfl,a9⟩,a7⟩;obtain⟨a3,c3,a4,c4,ps,rfl,-⟩:=a9.1.parts;have J10:=J9.up a7;have c6:=c6.up a7;have kD:=kD.up a7 (by omega);have h6:=a7.size;have h7:w2.heap.size<=W9.heap.size:=by omega
   have f4:q+1<W9.heap.size:=by omega
   clear J9 a7 x0 x1 d0 d1 d2 f3;obtain⟨⟨y0,y1⟩,f0,f1⟩:=J10.x.c2;go_upto_region 10 with fail;obtain⟨Z,hZ⟩:∃Z,(c8.setCell ⟨q+1,0,none⟩ (.slice a3 b'.tg.length c3)).setCell ⟨q+1,1,none⟩ (.slice a4 b'.bs.length c4)=Z:=⟨_,rfl⟩
   have JZ:EJ w w3 Z rb b1 (11+200*(m-k)+200) q w2.heap.size B v (.slice ta ts.length tc) (.slice a3 b'.tg.length c3) (.slice a4 b'.bs.length c4) u7 b' ds:=by
    rw[← hZ];exact⟨(J10.r.other (by omega)).other (by omega),(J10.b5.other (by omega)).other (by omega),J10.x.copy2 _ _,(J10.rd.setCell (by omega)).setCell (by omega),AK (AK J10.g (by rw[Hq3.out];omega) _) (by rw[Hq3.out];omega) _,I4 J10.bel (by omega) _ _,⟨((a9.1.set f4).set f4).low h7,a9.2⟩,J0 (J0 J10.row (E6 (rb:=q+1) (off:=0) (F4 c8 _) _) (by omega)) (E6 (rb:=q+1) (off:=1) (F4 _ _) _) (by omega),λd hd=>((J10.ds d hd).gr (E6 (rb:=q+1) (off:=0) (F4 c8 _) _) (by omega)).gr (E6 (rb:=q+1) (off:=1) (F4 _ _) _) (by omega),by simp;omega⟩
   have f5:Ib Z B ⟨kd,nm,.slice al a0.length cl,a0⟩:=by
    rw[← hZ];exact (c6.gr (E6 (rb:=q+1) (off:=0) (F4 c8 _) _) (by omega)).gr (E6 (rb:=q+1) (off:=1) (F4 _ _) _) (by omega)
   have f6:CB Z w8.heap.size [.int .i64 kd,.string nm,.slice al a0.length cl]:=by rw[← hZ];exact (kD.other (by omega)).other (by omega)
   try rw[hZ]
   clear hZ J10 c6 kD y0 y1 f0 f1 a9;obtain⟨⟨d0,d1,d2⟩,-⟩:=f6.c3;obtain⟨ax,cx,rfl⟩:=L9 JZ.row;have d4:Up Z (Z.alloc (.cells #[.int .i64 kd,.string nm,.slice al a0.length cl] 31)):=(A4 _ _).alloc (A3 _) _;have JA:=JZ.up d4;have f7:=f5.up d4;have a5:=JA.row;have f8:=JA.sz;go_wp2_with (at_builtin;refine wpList_append_own _ rfl _ _ 27 rfl B 31 ii _ 3 48 underlying27 hi g9 h0 h1 rfl (by decide) _ _ _ rfl a5 ⟨Z.heap.size,0,none⟩ 1 1 [.int .i64 kd,.string nm,.slice al a0.length cl] rfl rfl (AlL _ _ _ _ _) (by simp[Value.oneCell']) (by unfold maxLen;omega) (by omega) f8 ?_)
   intro v' w11 hown hgr _;have b0:w11.ownsRow B 31 3 v' (ds++[(⟨kd,nm,.slice al a0.length cl,a0⟩:Dv)]).length (Eg (ds++[(⟨kd,nm,.slice al a0.length cl,a0⟩:Dv)])):=by rw[NX,A9];exact hown
   have b7:∀d∈ds++[(⟨kd,nm,.slice al a0.length cl,a0⟩:Dv)],Ib w11 B d:=λd hd=>by
    rcases C9.1 hd with hd|hd
    ·exact (JA.ds d hd).row a5 hgr
    ·obtain rfl:=D0.1 hd;exact f7.row a5 hgr
   have h8:rb<B:=by omega
   have h9:B<=w11.heap.size:=B4 f8 hgr.size;have b2:w.heap.size<=B:=by omega
   have JB:EJ w w3 w11 rb b1 (11+200*(m-k)+200) q w2.heap.size B v (.slice ta ts.length tc) (.slice a3 b'.tg.length c3) (.slice a4 b'.bs.length c4) v' b' (ds++[⟨kd,nm,.slice al a0.length cl,a0⟩]) :=
    ⟨JA.r.kept hgr (Af a5 (by omega)),JA.b5.kept hgr (Af a5 (by omega)),JA.x.kept hgr (Af a5 (by omega)),JA.rd.own a5 hgr h8,Ih JA.g a5 hgr (by rw[Hq3.out];omega),O6 JA.bel a5 hgr b2,⟨Ab5 JA.bk.1 a5 hgr,JA.bk.2⟩,b0,b7,h9⟩
   have Hl':Hid ((ds++[(⟨kd,nm,.slice al a0.length cl,a0⟩:Dv)]).length=m-(k-1)):=by have:=Hdl.out;show List.length _=_;rw[A9,List.length_singleton];omega
   clear b0 b7 hown hgr a5 JA JZ f7 f5 f6 d0 d1 d2 d4;generalize ds++[(⟨kd,nm,.slice al a0.length cl,a0⟩:Dv)]=ds' at *;go_wp2_with fail;go_roundw
   case rel=>exact⟨k-1,_,_,_,_,b',ds',by omega,by go_num,Hl'.out,by rw[Hm.out];exact JB⟩
   case measure=>simp[intOf];omega
  ·have h3:¬(0:Int)<(k:Int):=by omega
   have kR:=J.r;obtain⟨z0,z1⟩:=J.b5.c2';obtain⟨⟨y0,y1⟩,g0,g1⟩:=kR.c2;have hB:=I4 J.bel (A3 _) (.slice ta ts.length tc) (.slice none 0 0);have b2:w.heap.size<B:=by omega
   have a8:=J0 (J0 J.row (E6 (rb:=w.heap.size) (off:=0) (F4 wr _) (.slice ta ts.length tc)) b2) (E6 (rb:=w.heap.size) (off:=1) (F4 _ _) (.slice none 0 0)) b2;have i0:∀d∈ds,Ib ((wr.setCell ⟨w.heap.size,0,none⟩ (.slice ta ts.length tc)).setCell ⟨w.heap.size,1,none⟩ (.slice none 0 0)) B d:=λd hd=>((J.ds d hd).gr (E6 (rb:=w.heap.size) (off:=0) (F4 wr _) _) b2).gr (E6 (rb:=w.heap.size) (off:=1) (F4 _ _) _) b2;have f9:=HD.out.gr J.g c5;have i1:=((f9.1.set (j:=0) (u:=.slice ta ts.length tc) (show w.heap.size<w2.heap.size by omega)).set (j:=1) (u:=.slice none 0 0) (show w.heap.size<w2.heap.size by omega)).bk f9.2.1;go_wp2_with fail;refine U2 results4 underlying26 rfl M4 kR rfl rfl ?_;exact⟨⟨_,_,rfl,ts,i1,Hsub.out,ds,AgK a8 i0 (by omega)⟩,hB⟩
end Go.Proofs.YtcgkgmmclfeohaaGreatDoor
