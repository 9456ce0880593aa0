/- Batches that go on, in plain: their slots, their things, which are ok. -/
import Derived.Test.YtmonodehegcfhaaGreatDoorJ9
import Derived.Test.YtmonodehegcfhaaGreatDoorJ6
import Derived.Test.YtmonodehegcfhaaGreatDoorJ2
import Derived.Deep.Cut
set_option maxHeartbeats 4000000
namespace Go.Proofs.YtmonodehegcfhaaGreatDoor
open Go.Proofs.Tryz
open Go.Maps
variable{nm s:BA}{ns ss tt:List BA}{ps:List Ph}{i k:Nat}
structure Sl where
 s:BA
 t:BA
structure Rb where
 nm:BA
 ps:List Ph
 sl:List Sl
 ad:BA
 si:Int
 st:Int
def P1(l:List Sl):List BA:=l.map (·.s)
def Br(l:List Sl):List BA:=l.map (·.t)
def U9(l:List Sl)(s:BA):BA:=match l.find? λx=>x.s.toList==s.toList with
 | some x=>x.t
 | none=>⟨#[]⟩
def Z2(l:List Sl)(s:BA):BA:=U9 l.reverse s
theorem Du(x:Sl)(l:List Sl)(s:BA):U9 (x::l) s=if (x.s.toList==s.toList)=true then x.t else U9 l s:=by
 unfold U9;rw[List.find?_cons];cases h:(x.s.toList==s.toList)<;>simp
theorem Si(x:Sl)(l:List Sl)(s:BA):Z2 (l++[x]) s=if (x.s.toList==s.toList)=true then x.t else Z2 l s:=by
 unfold Z2;rw[List.reverse_append];exact Du x l.reverse s
theorem Fz:∀{l:List Sl} {s:BA},s.toList∉F1 (P1 l)->U9 l s=⟨#[]⟩
 | [],_,_=>rfl
 | x::r,s,h=>by
  simp only[P1,F1,List.map_cons,List.mem_cons,not_or] at h;have h1:¬(x.s.toList==s.toList)=true:=λe=>h.1 (by simpa using (beq_iff_eq.1 e).symm);rw[Du,if_neg h1];exact Fz (by simpa [P1,F1] using h.2)
theorem FA:∀{l:List Sl},(F1 (P1 l)).Nodup->∀{x:Sl},x∈l->U9 l x.s=x.t
 | [],_,_,h=>by simp at h
 | y::r,hn,x,h=>by
  have hn':y.s.toList∉F1 (P1 r)/\(F1 (P1 r)).Nodup:=by simpa [P1,F1] using hn
  rw[Du];rcases List.mem_cons.1 h with rfl|h
  ·rw[if_pos (by simp)]
  ·have h1:¬(y.s.toList==x.s.toList)=true:=λe=>hn'.1 (by
    rw[beq_iff_eq.1 e];simp only[P1,F1,List.mem_map];exact⟨x.s,⟨x,h,rfl⟩,rfl⟩)
   rw[if_neg h1];exact FA hn'.2 h
theorem LL:∀{l:List Sl} {s:BA} {k:Nat} (hk:k<l.length),(∀(j:Nat)(x:Sl),j<k->l[j]?=some x->(x.s.toList==s.toList)=false)->((l[k]).s.toList==s.toList)=true->U9 l s=(l[k]).t
 | x::r,s,0,_,_,h=>by rw[Du,if_pos (by simpa using h)];rfl
 | x::r,s,k+1,hk,hal,h=>by
  have h0:=hal 0 x (by omega) rfl;rw[Du,if_neg (by simp[h0])];have:=LL (l:=r) (s:=s) (k:=k) (by simpa using hk) (λj y hj hy=>hal (j+1) y (by omega) (by simpa using hy)) (by simpa using h);simpa using this
theorem Qu{l:List Sl}(h:∀(j:Nat)(x:Sl),l[j]?=some x->(x.s.toList==s.toList)=false):U9 l s=⟨#[]⟩:=by
 refine Fz λhm=>?_;simp only[P1,F1,List.mem_map] at hm;obtain⟨_,⟨x,hx,rfl⟩,e⟩:=hm;obtain⟨j,hj⟩:=C5.1 hx;have:=h j x hj;rw[e] at this;simp at this
theorem TX{l:List Ae}(h:l.Nodup):l.reverse.Nodup:=by
 unfold List.Nodup at *;rw[List.pairwise_reverse];exact h.imp λh e=>h e.symm
theorem LM{l:List Sl}(hn:(F1 (P1 l)).Nodup)(s:BA):Z2 l s=U9 l s:=by
 have hr:F1 (P1 l.reverse)=(F1 (P1 l)).reverse:=by simp[F1,P1]
 by_cases h:s.toList∈F1 (P1 l)
 ·simp only[P1,F1,List.mem_map] at h;obtain⟨_,⟨x,hx,rfl⟩,e⟩:=h;obtain rfl:=AE e;rw[FA hn hx];exact FA (l:=l.reverse) (by rw[hr];exact TX hn) (by simpa using hx)
 ·rw[Fz h];exact Fz (by rw[hr];simpa using h)
def Af(l:List Sl)(ss:List BA):List BA:=Z0 [] (ss.map (U9 l))
def Dv(l:List Sl)(ss:List BA):List Ae:=uniq (F1 (ss.map (Z2 l)))
theorem FZ(l:List Sl)(ss:List BA):(F1 (Af l ss)).Pairwise (· < ·)/\∀x,x∈F1 (Af l ss)↔x∈F1 (ss.map (U9 l)):=by
 obtain⟨h1,h2⟩:=BJ (ss.map (U9 l)) [];exact⟨h2 (by simp[F1]),λx=>by rw[Af,h1];simp[F1]⟩
theorem GT{l:List Sl}(hn:(F1 (P1 l)).Nodup)(hm:∀x,x∈F1 ss↔x∈F1 tt):F1 (Af l ss)=Dv l tt:=by
 obtain⟨e1,e2⟩:=FZ l ss;obtain⟨u1,u2⟩:=DT (F1 (tt.map (Z2 l)));refine Ed _ _ e1 u1 λx=>?_;rw[e2];show _↔x∈uniq _
 rw[u2];have hl:tt.map (Z2 l)=tt.map (U9 l):=List.map_congr_left λs _=>LM hn s;rw[hl];simp only[F1,List.mem_map] at hm ⊢
 constructor
 ·rintro⟨_,⟨s,hs,rfl⟩,rfl⟩;obtain⟨s',a0,e⟩:=(hm s.toList).1 ⟨s,hs,rfl⟩;obtain rfl:=AE e;exact⟨_,⟨_,a0,rfl⟩,rfl⟩
 ·rintro⟨_,⟨s,hs,rfl⟩,rfl⟩;obtain⟨s',a0,e⟩:=(hm s.toList).2 ⟨s,hs,rfl⟩;obtain rfl:=AE e;exact⟨_,⟨_,a0,rfl⟩,rfl⟩
theorem JR:∀(m l:List Ae),l.Nodup->(∀x∈l,x∈m)->m.length<=l.length->m.Nodup
 | [],_,_,_,_=>List.nodup_nil
 | a::m,l,hn,h,hl=>by
  simp only[List.length_cons] at hl
  have hsub:∀x∈l.erase a,x∈m:=λx hx=>by
   have hx':=(List.Nodup.mem_erase_iff hn).1 hx;rcases List.mem_cons.1 (h x hx'.2) with e|e
   ·exact absurd e hx'.1
   ·exact e
  have he:=List.length_erase (a:=a) (l:=l);refine List.nodup_cons.2 ⟨λha=>?_,JR m (l.erase a) (hn.erase a) hsub (by split at he<;>omega)⟩
  have:=Ey m l hn λx hx=>by
   rcases List.mem_cons.1 (h x hx) with e|e
   ·rw[e];exact ha
   ·exact e
  omega
theorem DV{l:List Ae}(h:l.Pairwise (· < ·)):l.Nodup:=h.imp λh e=>by subst e;exact Di _ h
theorem VZ(l:List Ae):(uniq l).length=l.length↔l.Nodup:=by
 obtain⟨u1,u2⟩:=DT l;constructor
 ·intro h;exact JR l (uniq l) (DV u1) (λx hx=>(u2 x).1 hx) (by omega)
 ·intro h;have h1:=Ey l (uniq l) (DV u1) (λx hx=>(u2 x).1 hx);have h2:=Ey (uniq l) l h (λx hx=>(u2 x).2 hx);omega
def Ce(l:List Sl)(ns:List BA)(i:Nat):Prop:=∀(j:Nat)(x:Sl),j<i->l[j]?=some x->(∃n,ns[j]?=some n/\x.s.toList=n.toList)/\G0 x.t=true
def Ig(l:List Sl)(i:Nat):Prop:=∀(j k:Nat)(x y:Sl),j<i->k<j->l[j]?=some x->l[k]?=some y->y.t.toList≠x.t.toList
def EA(l:List Sl)(ns:List BA):Prop:=l.length=ns.length/\Ce l ns l.length/\Ig l l.length
theorem Ce.step{l:List Sl}(h:Ce l ns i)(hi:i<l.length)(hn:i<ns.length)(h1:((l[i]).s.toList==(ns[i]).toList)=true)(h2:G0 (l[i]).t=true):Ce l ns (i+1):=λj x hj hx=>by
 rcases Nat.lt_or_ge j i with h'|h'
 ·exact h j x h' hx
 ·obtain rfl:j=i:=by omega
  obtain⟨_,rfl⟩:=A3.1 hx;exact⟨⟨ns[j],by simp[hn],by simpa using h1⟩,h2⟩
theorem Ce.no1{l:List Sl}(hi:i<l.length)(hn:i<ns.length)(h1:((l[i]).s.toList==(ns[i]).toList)=false):¬EA l ns:=λ⟨_,h,_⟩=>by
 obtain⟨⟨n,hn',e⟩,_⟩:=h i l[i] hi (by simp);rw[A0 hn] at hn';obtain rfl:=A6 hn';rw[e] at h1;simp at h1
theorem Ce.no2{l:List Sl}(hi:i<l.length)(h1:G0 (l[i]).t=false):¬EA l ns:=λ⟨_,h,_⟩=>by
 rw[(h i l[i] hi (by simp)).2] at h1;cases h1
theorem Ig.step{l:List Sl}(h:Ig l i)(hi:i<l.length)(hd:∀(k:Nat)(y:Sl),k<i->l[k]?=some y->y.t.toList≠(l[i]).t.toList):Ig l (i+1):=λj k x y hj hk hx hy=>by
 rcases Nat.lt_or_ge j i with h'|h'
 ·exact h j k x y h' hk hx hy
 ·obtain rfl:j=i:=by omega
  obtain⟨_,rfl⟩:=A3.1 hx;exact hd k y hk hy
theorem Ig.no{l:List Sl}(hi:i<l.length)(hk:k<i)(h1:((l[k]).t.toList==(l[i]).t.toList)=true):¬EA l ns:=λ⟨_,_,h⟩ =>
 h i k l[i] (l[k]'(by omega)) hi hk (by simp) (A0 (by omega)) (by simpa using h1)
theorem Ce.names{l:List Sl}(hl:l.length=ns.length)(h:Ce l ns l.length):P1 l=ns:=by
 refine List.ext_getElem (by simpa [P1] using hl) λj h1 h2=>?_;have hj:j<l.length:=by simpa [P1] using h1
 obtain⟨⟨n,hn,e⟩,_⟩:=h j l[j] hj (by simp);rw[A0 h2] at hn;obtain rfl:=A6 hn;simp only[P1,List.getElem_map];exact AE e
theorem Ig.nodup{l:List Sl}:Ig l l.length↔(F1 (Br l)).Nodup:=by
 unfold List.Nodup;rw[List.pairwise_iff_getElem];constructor
 ·intro h i j hi hj hij;have a1:i<l.length:=by simpa [F1,Br] using hi
  have a0:j<l.length:=by simpa [F1,Br] using hj
  have:=h j i l[j] l[i] a0 hij (by simp) (by simp);simpa [F1,Br] using this
 ·intro h j k x y hj hk hx hy;obtain⟨h1,rfl⟩:=A3.1 hx;obtain⟨h2,rfl⟩:=A3.1 hy;have:=h k j (by simpa [F1,Br] using h2) (by simpa [F1,Br] using h1) hk;simpa [F1,Br] using this
theorem Ce.count{l:List Sl}(hl:l.length=ns.length)(h:Ce l ns l.length)(hn:(F1 ns).Nodup):(Dv l ns).length=l.length↔EA l ns:=by
 have a0:=Ce.names hl h
 have hm:ns.map (Z2 l)=Br l:=by
  rw[← a0,P1,List.map_map]
  exact List.map_congr_left λx hx=>by
   show Z2 l x.s=x.t
   rw[LM (by rw[a0];exact hn),FA (by rw[a0];exact hn) hx]
 have hc:=VZ (F1 (Br l));rw[Dv,hm];have hk:(F1 (Br l)).length=l.length:=by simp[F1,Br]
 rw[hk] at hc;rw[hc,← Ig.nodup];exact⟨λhd=>⟨hl,h,hd⟩,λhd=>hd.2.2⟩
def AF(ps:List Ph)(nm:BA):Ph:=match ps.find? λp=>p.nm.toList==nm.toList with
 | some p=>p
 | none=>⟨⟨#[]⟩,0,⟨#[]⟩,⟨#[]⟩,0,0,⟨#[]⟩,⟨#[]⟩⟩
theorem EB(hk:k<ps.length)(h:U8 ps nm=(k:Int)):AF ps nm=ps[k]:=by
 unfold U8 at h;unfold AF;cases hf:ps.findIdx? λp=>p.nm.toList==nm.toList with
 | none =>
  rw[hf] at h;have h':(-1:Int)=(k:Int):=h;omega
 | some i =>
  rw[hf] at h;have h':(i:Int)=(k:Int):=h;obtain rfl:i=k:=by omega
  obtain⟨h1,h2,h3⟩:=List.findIdx?_eq_some_iff_getElem.1 hf
  have:(ps.find? λp=>p.nm.toList==nm.toList)=some ps[i]:=by
   rw[List.find?_eq_some_iff_getElem];exact⟨h2,i,h1,rfl,λj hj=>by simpa using h3 j hj⟩
  rw[this]
def I0:List Ph->BA
 | []=>⟨#[]⟩
 | p::_=>p.nm
theorem BL(h:0<ps.length):I0 ps=(ps[0]).nm:=by
 cases ps with
 | nil=>simp at h
 | cons p r=>rfl
def N7(ps:List Ph)(l:List Sl):Prop:=EA l (O9 ps (I0 ps))
def M0(x:Rb):Prop:=G0 x.nm=true/\P3 x.ps=true/\N7 x.ps x.sl/\1<=x.st/\O6 x.ps x.ad=true/\-1<=x.si/\x.si<(AF x.ps x.ad).wi
noncomputable def G8(x:Rb)(nm:BA):List BA:=if pB (M0 x)=true then Af x.sl (O9 x.ps nm) else []
noncomputable def K7(x:Rb):List BA:=if pB (M0 x)=true then Af x.sl (CA (AF x.ps x.ad)) else []
theorem JS(ps:List Ph)(nm:BA):(F1 (O9 ps nm)).Nodup:=by rw[Ee];exact DV (JN ps nm)
theorem N7.names{l:List Sl}(h:N7 ps l):P1 l=O9 ps (I0 ps):=Ce.names h.1 h.2.1
theorem N7.nodup{l:List Sl}(h:N7 ps l):(F1 (P1 l)).Nodup:=by rw[h.names];exact JS _ _
theorem N7.len{l:List Sl}(h:N7 ps l):l.length<=2*ps.length:=by
 have h1:=h.names;have h2:=DU ps (I0 ps);have:l.length=(P1 l).length:=by simp[P1]
 rw[this,h1];exact h2
theorem Wa(l:List Sl)(p:Ph)(hn:(F1 (P1 l)).Nodup)(ht:F1 tt=Ex p):F1 (Af l (CA p))=Dv l tt :=
 GT hn λx=>by rw[(Rr p).2,ht]
theorem Rx(l:List Sl)(ss:List BA):(Dv l ss).length<=ss.length:=by
 obtain⟨u1,u2⟩:=DT (F1 (ss.map (Z2 l)));have:=Ey (F1 (ss.map (Z2 l))) _ (DV u1) (λx hx=>(u2 x).1 hx);simpa [F1,Dv] using this
theorem EC(l:List Sl)(ss:List BA):(Af l ss).length<=ss.length:=by
 have:=Gs [] (ss.map (U9 l));simpa [Af] using this
end Go.Proofs.YtmonodehegcfhaaGreatDoor
namespace Go.Proofs.YtmonodehegcfhaaGreatDoor
open Go.Proofs.Tryz
open Go.RowKit
variable{nm s:BA}{ns ss tt:List BA}{ps:List Ph}{i k:Nat}
theorem Xn:(prog.info? 43).map (·.size)=some 8:=by kernel_rfl
theorem Qv(nm a b:BA)(n wi:Int)(t e:BA)(w:World)(ha:a.size<=maxLen)(hb:b.size<=maxLen):
  Calls prog 154 #[.agg #[Tz nm,Iz 1,Tz a,Tz b,Iz n,Iz wi,Tz t,Tz e]] w λe w'=>e=.returned (.bool (T0 1 a b n wi))/\Up w w':=by
 have hr:Hid (T0 1 a b n wi=(G0 a&&(G0 b)&&Ai n 1 1000)):=by show _=_;simp[T0,Bool.and_assoc]
 cases hA:G0 a<;>cases hP:(G0 b)
 all_goals
  go_in;go_wp2_with (first|(go_at_call 181;refine (OI _ _ _ _ _ _ _ _).mono ?_;rintro e w1 ⟨rfl,a0⟩;(first|replace hB:=D5 hB a0|have hB:=a0);clear a0;(try clear hc hf);obtain⟨hc,hf⟩:=G9 hB)|(go_at_call 153;refine (V5 _ _ (by assumption)).mono ?_;rintro e w1 ⟨rfl,a0⟩;(first|replace hB:=D5 hB a0|have hB:=a0);clear a0;(try clear hc hf);obtain⟨hc,hf⟩:=G9 hB)|(go_at_call 185;refine (Qq _ _ _ _ (by assumption)).mono ?_;rintro e w1 ⟨rfl,a0⟩;(first|replace hB:=D5 hB a0|have hB:=a0);clear a0;(try clear hc hf);obtain⟨hc,hf⟩:=G9 hB)|(go_at_call 186;refine (NQ _ _ _ _).mono ?_;rintro e w1 ⟨rfl,a0⟩;(first|replace hB:=D5 hB a0|have hB:=a0);clear a0;(try clear hc hf);obtain⟨hc,hf⟩:=G9 hB))
  go_ret;exact⟨D8 (by rw[hr.out];simp[hA,hP]),D5 ((A5 _ _).alloc (A4 _) _) hB⟩
theorem Qw(nm a b:BA)(n wi:Int)(t e:BA)(w:World)(ha:a.size<=maxLen)(hb:b.size<=maxLen):
  Calls prog 154 #[.agg #[Tz nm,Iz 2,Tz a,Tz b,Iz n,Iz wi,Tz t,Tz e]] w λe w'=>e=.returned (.bool (T0 2 a b n wi))/\Up w w':=by
 have hr:Hid (T0 2 a b n wi=(G0 a&&(G0 b && !(a.toList==b.toList))&&Ai n 1 1000)):=by show _=_;simp[T0,Bool.and_assoc]
 cases hA:G0 a<;>cases hP:(G0 b && !(a.toList==b.toList))
 all_goals
  go_in;go_wp2_with (first|(go_at_call 181;refine (OJ _ _ _ _ _ _ _ _).mono ?_;rintro e w1 ⟨rfl,a0⟩;(first|replace hB:=D5 hB a0|have hB:=a0);clear a0;(try clear hc hf);obtain⟨hc,hf⟩:=G9 hB)|(go_at_call 153;refine (V5 _ _ (by assumption)).mono ?_;rintro e w1 ⟨rfl,a0⟩;(first|replace hB:=D5 hB a0|have hB:=a0);clear a0;(try clear hc hf);obtain⟨hc,hf⟩:=G9 hB)|(go_at_call 185;refine (Qr _ _ _ _ (by assumption)).mono ?_;rintro e w1 ⟨rfl,a0⟩;(first|replace hB:=D5 hB a0|have hB:=a0);clear a0;(try clear hc hf);obtain⟨hc,hf⟩:=G9 hB)|(go_at_call 186;refine (NR _ _ _ _).mono ?_;rintro e w1 ⟨rfl,a0⟩;(first|replace hB:=D5 hB a0|have hB:=a0);clear a0;(try clear hc hf);obtain⟨hc,hf⟩:=G9 hB))
  go_ret;exact⟨D8 (by rw[hr.out];simp[hA,hP]),D5 ((A5 _ _).alloc (A4 _) _) hB⟩
theorem Qx(nm a b:BA)(n wi:Int)(t e:BA)(w:World)(ha:a.size<=maxLen)(_hb:b.size<=maxLen):
  Calls prog 154 #[.agg #[Tz nm,Iz 3,Tz a,Tz b,Iz n,Iz wi,Tz t,Tz e]] w λe w'=>e=.returned (.bool (T0 3 a b n wi))/\Up w w':=by
 have hr:Hid (T0 3 a b n wi=(G0 a&&(b.toList.isEmpty)&&Ai n 1 wi)):=by show _=_;simp[T0,Bool.and_assoc]
 cases hA:G0 a<;>cases hP:(b.toList.isEmpty)
 all_goals
  go_in;go_wp2_with (first|(go_at_call 181;refine (OK _ _ _ _ _ _ _ _).mono ?_;rintro e w1 ⟨rfl,a0⟩;(first|replace hB:=D5 hB a0|have hB:=a0);clear a0;(try clear hc hf);obtain⟨hc,hf⟩:=G9 hB)|(go_at_call 153;refine (V5 _ _ (by assumption)).mono ?_;rintro e w1 ⟨rfl,a0⟩;(first|replace hB:=D5 hB a0|have hB:=a0);clear a0;(try clear hc hf);obtain⟨hc,hf⟩:=G9 hB)|(go_at_call 185;refine (Qs _ _ _ _).mono ?_;rintro e w1 ⟨rfl,a0⟩;(first|replace hB:=D5 hB a0|have hB:=a0);clear a0;(try clear hc hf);obtain⟨hc,hf⟩:=G9 hB)|(go_at_call 186;refine (NS _ _ _ _).mono ?_;rintro e w1 ⟨rfl,a0⟩;(first|replace hB:=D5 hB a0|have hB:=a0);clear a0;(try clear hc hf);obtain⟨hc,hf⟩:=G9 hB))
  go_ret;exact⟨D8 (by rw[hr.out];simp[hA,hP]),D5 ((A5 _ _).alloc (A4 _) _) hB⟩
theorem OV(nm a b:BA)(n wi:Int)(t e:BA)(w:World)(ha:a.size<=maxLen)(_hb:b.size<=maxLen):
  Calls prog 154 #[.agg #[Tz nm,Iz 4,Tz a,Tz b,Iz n,Iz wi,Tz t,Tz e]] w λe w'=>e=.returned (.bool (T0 4 a b n wi))/\Up w w':=by
 have hr:Hid (T0 4 a b n wi=(G0 a&&(b.toList.isEmpty)&&n==0)):=by show _=_;simp[T0,Bool.and_assoc]
 cases hA:G0 a<;>cases hP:(b.toList.isEmpty)
 all_goals
  go_in;go_wp2_with (first|(go_at_call 181;refine (Na _ _ _ _ _ _ _ _).mono ?_;rintro e w1 ⟨rfl,a0⟩;(first|replace hB:=D5 hB a0|have hB:=a0);clear a0;(try clear hc hf);obtain⟨hc,hf⟩:=G9 hB)|(go_at_call 153;refine (V5 _ _ (by assumption)).mono ?_;rintro e w1 ⟨rfl,a0⟩;(first|replace hB:=D5 hB a0|have hB:=a0);clear a0;(try clear hc hf);obtain⟨hc,hf⟩:=G9 hB)|(go_at_call 185;refine (OM _ _ _).mono ?_;rintro e w1 ⟨rfl,a0⟩;(first|replace hB:=D5 hB a0|have hB:=a0);clear a0;(try clear hc hf);obtain⟨hc,hf⟩:=G9 hB)|(go_at_call 186;refine (Mx _ _ _).mono ?_;rintro e w1 ⟨rfl,a0⟩;(first|replace hB:=D5 hB a0|have hB:=a0);clear a0;(try clear hc hf);obtain⟨hc,hf⟩:=G9 hB))
  go_ret;exact⟨D8 (by rw[hr.out];simp[hA,hP]),D5 ((A5 _ _).alloc (A4 _) _) hB⟩
theorem Qy(nm a b:BA)(n wi:Int)(t e:BA)(w:World)(ha:a.size<=maxLen)(_hb:b.size<=maxLen):
  Calls prog 154 #[.agg #[Tz nm,Iz 5,Tz a,Tz b,Iz n,Iz wi,Tz t,Tz e]] w λe w'=>e=.returned (.bool (T0 5 a b n wi))/\Up w w':=by
 have hr:Hid (T0 5 a b n wi=(G0 a&&(b.toList.isEmpty)&&n==0)):=by show _=_;simp[T0,Bool.and_assoc]
 cases hA:G0 a<;>cases hP:(b.toList.isEmpty)
 all_goals
  go_in;go_wp2_with (first|(go_at_call 181;refine (OL _ _ _ _ _ _ _ _).mono ?_;rintro e w1 ⟨rfl,a0⟩;(first|replace hB:=D5 hB a0|have hB:=a0);clear a0;(try clear hc hf);obtain⟨hc,hf⟩:=G9 hB)|(go_at_call 153;refine (V5 _ _ (by assumption)).mono ?_;rintro e w1 ⟨rfl,a0⟩;(first|replace hB:=D5 hB a0|have hB:=a0);clear a0;(try clear hc hf);obtain⟨hc,hf⟩:=G9 hB)|(go_at_call 185;refine (Qt _ _ _).mono ?_;rintro e w1 ⟨rfl,a0⟩;(first|replace hB:=D5 hB a0|have hB:=a0);clear a0;(try clear hc hf);obtain⟨hc,hf⟩:=G9 hB)|(go_at_call 186;refine (NT _ _ _).mono ?_;rintro e w1 ⟨rfl,a0⟩;(first|replace hB:=D5 hB a0|have hB:=a0);clear a0;(try clear hc hf);obtain⟨hc,hf⟩:=G9 hB))
  go_ret;exact⟨D8 (by rw[hr.out];simp[hA,hP]),D5 ((A5 _ _).alloc (A4 _) _) hB⟩
theorem Qz(nm:BA)(k:Int)(a b:BA)(n wi:Int)(t e:BA)(w:World)(h1:(k==1)=false)(h2:(k==2)=false)(h3:(k==3)=false)(h4:(k==4)=false)(h5:(k==5)=false):
  Calls prog 154 #[.agg #[Tz nm,Iz k,Tz a,Tz b,Iz n,Iz wi,Tz t,Tz e]] w λe w'=>e=.returned (.bool (T0 k a b n wi))/\Up w w':=by
 have hr:Hid (T0 k a b n wi=false):=by show _=_;simp at h1 h2 h3 h4 h5;simp[T0,h1,h2,h3,h4,h5]
 go_in;go_wp2_with (go_at_call 181;refine (VV _ _ _ _ _ _ _ _ _ (by assumption) (by assumption) (by assumption) (by assumption) (by assumption)).mono ?_;rintro e w1 ⟨rfl,a0⟩;(first|replace hB:=D5 hB a0|have hB:=a0);clear a0;(try clear hc hf);obtain⟨hc,hf⟩:=G9 hB)
 go_ret;exact⟨D8 (by rw[hr.out]),D5 ((A5 _ _).alloc (A4 _) _) hB⟩
theorem Sj(nm:BA)(k:Int)(a b:BA)(n wi:Int)(t e:BA)(w:World)(ha:a.size<=maxLen)(hb:b.size<=maxLen):
  Calls prog 154 #[.agg #[Tz nm,Iz k,Tz a,Tz b,Iz n,Iz wi,Tz t,Tz e]] w λe w'=>e=.returned (.bool (T0 k a b n wi))/\Up w w':=by
 by_cases h1:k=1
 ·subst h1;exact Qv nm a b n wi t e w ha hb
 by_cases h2:k=2
 ·subst h2;exact Qw nm a b n wi t e w ha hb
 by_cases h3:k=3
 ·subst h3;exact Qx nm a b n wi t e w ha hb
 by_cases h4:k=4
 ·subst h4;exact OV nm a b n wi t e w ha hb
 by_cases h5:k=5
 ·subst h5;exact Qy nm a b n wi t e w ha hb
 exact Qz nm k a b n wi t e w (by simpa using h1) (by simpa using h2) (by simpa using h3) (by simpa using h4) (by simpa using h5)
theorem OW(nm:BA)(k:Int)(a b:BA)(n wi:Int)(t e:BA)(w:World)(hE:P2 w)(hnm:nm.size<=maxLen)(ha:a.size<=maxLen)(hb:b.size<=maxLen)(ht:t.size<=maxLen)(he:e.size<=maxLen):
  Calls prog 109 #[.agg #[Tz nm,Iz k,Tz a,Tz b,Iz n,Iz wi,Tz t,Tz e]] w λe' w'=>e'=.returned (.bool (V9 nm k a b n wi t e))/\Up w w':=by
 cases h1:G0 nm
 ·go_in;go_wp2_with (go_at_call 153;refine (V5 _ _ (by assumption)).mono ?_;rintro e w1 ⟨rfl,a0⟩;(first|replace hB:=D5 hB a0|have hB:=a0);clear a0;(try clear hc hf);obtain⟨hc,hf⟩:=G9 hB)
  go_ret;exact⟨D8 (by simp[V9,h1]),D5 ((A5 _ _).alloc (A4 _) _) hB⟩
 have HE:Hid (P2 w):=hE;clear hE;cases h2:(M6 nm==0)
 ·have a2:(M6 nm != 0)=true:=by simp[bne,h2]
  go_in;go_wp2_with (first|(go_at_call 153;refine (V5 _ _ (by assumption)).mono ?_;rintro e w1 ⟨rfl,a0⟩;(first|replace hB:=D5 hB a0|have hB:=a0);clear a0;(try clear hc hf);obtain⟨hc,hf⟩:=G9 hB)|(go_at_call 112;refine Sx (Y8 _ _ (HE.out.up (D5 ((A5 _ _).alloc (A4 _) _) hB))) ?_))
  go_ret;exact⟨D8 (by simp[V9,h2]),D5 ((A5 _ _).alloc (A4 _) _) hB⟩
 have a2:(M6 nm != 0)=false:=by simp[bne,h2]
 have H2:Hid ((M6 nm==0)=true):=h2;clear h2;by_cases h3:1<=wi/\wi<=1000
 case neg =>
  have a1:Hid (Ai wi 1 1000=false):=(Fe _ _ _).2 h3;by_cases h4:1<=wi
  ·have h5:1000<wi:=by omega
   clear h3;go_in;go_wp2_with (first|(go_at_call 153;refine (V5 _ _ (by assumption)).mono ?_;rintro e w1 ⟨rfl,a0⟩;(first|replace hB:=D5 hB a0|have hB:=a0);clear a0;(try clear hc hf);obtain⟨hc,hf⟩:=G9 hB)|(go_at_call 112;refine Sx (Y8 _ _ (HE.out.up (D5 ((A5 _ _).alloc (A4 _) _) hB))) ?_))
   go_ret;exact⟨D8 (by simp[V9,a1.out]),D5 ((A5 _ _).alloc (A4 _) _) hB⟩
  ·clear h3;go_in;go_wp2_with (first|(go_at_call 153;refine (V5 _ _ (by assumption)).mono ?_;rintro e w1 ⟨rfl,a0⟩;(first|replace hB:=D5 hB a0|have hB:=a0);clear a0;(try clear hc hf);obtain⟨hc,hf⟩:=G9 hB)|(go_at_call 112;refine Sx (Y8 _ _ (HE.out.up (D5 ((A5 _ _).alloc (A4 _) _) hB))) ?_))
   go_ret;exact⟨D8 (by simp[V9,a1.out]),D5 ((A5 _ _).alloc (A4 _) _) hB⟩
 have H3:Hid (Ai wi 1 1000=true):=(BX _ _ _).2 h3;obtain⟨a3,a4⟩:=h3;cases h4:T0 k a b n wi<;>cases h5:G0 t
 all_goals
  go_in;go_wp2_with (first|(go_at_call 153;refine (V5 _ _ (by assumption)).mono ?_;rintro e w1 ⟨rfl,a0⟩;(first|replace hB:=D5 hB a0|have hB:=a0);clear a0;(try clear hc hf);obtain⟨hc,hf⟩:=G9 hB)|(go_at_call 112;refine Sx (Y8 _ _ (HE.out.up (D5 ((A5 _ _).alloc (A4 _) _) hB))) ?_)|(go_at_call 154;refine (Sj _ _ _ _ _ _ _ _ _ (by assumption) (by assumption)).mono ?_;rintro e w1 ⟨rfl,a0⟩;(first|replace hB:=D5 hB a0|have hB:=a0);clear a0;(try clear hc hf);obtain⟨hc,hf⟩:=G9 hB))
  go_ret;exact⟨D8 (by simp[V9,h1,H2.out,H3.out,h4,h5]),D5 ((A5 _ _).alloc (A4 _) _) hB⟩
theorem Bb(ps:List Ph)(b o c:Nat)(nm:BA)(w:World)(hr:M2 w b o ps)(hn:ps.length<=1048576):
  Calls prog 77 #[Sy b o ps.length c,Tz nm] w λe w'=>e=.returned (Iz (U8 ps nm))/\w'=w:=by
 go_in;go_wp2;go_loop [5] (λi=>∃k:Nat,k<=ps.length/\i=.int .i64 k/\O6 (ps.take k) nm=false) (λi=>ps.length-(intOf i).toNat)
 case atStart=>exact⟨0,by omega,rfl,rfl⟩
 case round =>
  obtain⟨k,hk,rfl,a0⟩:=hrel;have Hal:Hid (O6 (ps.take k) nm=false):=a0;clear a0;by_cases hp:k<ps.length
  ·obtain⟨c0,-⟩:=hr.cells k hp;cases hq:((ps[k]).nm.toList==nm.toList)
   ·have Hq:Hid (((ps[k]).nm.toList==nm.toList)=false):=hq;go_wp2;go_round
    case rel=>exact⟨k+1,by omega,by go_num,by rw[MR ps nm k hp,Hal.out,Hq.out];rfl⟩
    case measure=>simp[intOf];omega
   ·have Hq:Hid (((ps[k]).nm.toList==nm.toList)=true):=hq;go_wp2;go_ret;exact⟨U5 (MS ps nm k hp Hal.out Hq.out).symm,rfl⟩
  ·go_wp2;go_ret;exact⟨U5 (KY ps nm (KX ps nm k hp Hal.out)).symm,rfl⟩
def Ph.none:Ph:=⟨⟨#[]⟩,0,⟨#[]⟩,⟨#[]⟩,0,0,⟨#[]⟩,⟨#[]⟩⟩
theorem GU(ps:List Ph)(b o c:Nat)(nm:BA)(w:World)(hr:M2 w b o ps)(hb:b<w.heap.size)(hn:ps.length<=1048576):
  Calls prog 100 #[Sy b o ps.length c,Tz nm] w λe w' =>
   (∃p:Ph,e=.returned (.tuple #[.agg #[Tz (p).nm,Iz (p).k,Tz (p).a,Tz (p).b,Iz (p).n,Iz (p).wi,Tz (p).t,Tz (p).e],.bool (O6 ps nm)])/\∀(k:Nat)(hk:k<ps.length),U8 ps nm=(k:Int)->p=ps[k])/\Up w w':=by
 go_in;go_wp2;go_loopw [10] (λi w'=>∃k:Nat,k<=ps.length/\i=.int .i64 k/\O6 (ps.take k) nm=false/\Up w w'/\CB w' w.heap.size Ph.none.cells) (λi _=>ps.length-(intOf i).toNat)
 case atStart=>exact⟨0,by omega,rfl,rfl,(A5 _ _).alloc (A4 _) _,F3 w Ph.none.cells 43⟩
 case round =>
  obtain⟨k,hk,rfl,a0,hB,hC⟩:=hrel;have Hal:Hid (O6 (ps.take k) nm=false):=a0;clear a0;by_cases hp:k<ps.length
  ·obtain⟨c0,c1,c2,c3,c4,c5,c6,c7⟩:=(hr.up hB hb).cells k hp;have a1:=hC.2.2;have a5:¬w.heap.size=wr.heap.size:=by omega
   have a6:¬wr.heap.size=w.heap.size:=by omega
   cases hq:((ps[k]).nm.toList==nm.toList)
   ·have Hq:Hid (((ps[k]).nm.toList==nm.toList)=false):=hq;go_wp2;go_roundw
    case rel=>exact⟨k+1,by omega,by go_num,by rw[MR ps nm k hp,Hal.out,Hq.out];rfl,hB.alloc hB.size _,hC.up ((A5 wr.heap.size _).alloc (A4 _) _) a1⟩
    case measure=>simp[intOf];omega
   ·have Hq:Hid (((ps[k]).nm.toList==nm.toList)=true):=hq;go_upto_region 5 with fail;have a2:CB (wr.alloc (Kz [Tz (ps[k]).nm,Iz (ps[k]).k,Tz (ps[k]).a,Tz (ps[k]).b,Iz (ps[k]).n,Iz (ps[k]).wi,Tz (ps[k]).t,Tz (ps[k]).e] 43)) w.heap.size Ph.none.cells:=hC.up ((A5 wr.heap.size _).alloc (A4 _) _) a1;have a3:CB (wr.alloc (Kz [Tz (ps[k]).nm,Iz (ps[k]).k,Tz (ps[k]).a,Tz (ps[k]).b,Iz (ps[k]).n,Iz (ps[k]).wi,Tz (ps[k]).t,Tz (ps[k]).e] 43)) wr.heap.size (ps[k]).cells:=F3 wr (ps[k]).cells _;have a4:=hB.alloc hB.size (Kz [Tz (ps[k]).nm,Iz (ps[k]).k,Tz (ps[k]).a,Tz (ps[k]).b,Iz (ps[k]).n,Iz (ps[k]).wi,Tz (ps[k]).t,Tz (ps[k]).e] 43);clear c0 c1 c2 c3 c4 c5 c6 c7;generalize wr.alloc (Kz [Tz (ps[k]).nm,Iz (ps[k]).k,Tz (ps[k]).a,Tz (ps[k]).b,Iz (ps[k]).n,Iz (ps[k]).wi,Tz (ps[k]).t,Tz (ps[k]).e] 43)=W2 at *;obtain⟨⟨c0,c1,c2,c3,c4,c5,c6,c7⟩,-⟩:=a3.c8;obtain⟨⟨d0,d1,d2,d3,d4,d5,d6,d7⟩,f0,f1,f2,f3,f4,f5,f6,f7⟩:=a2.c8;go_wp2_with fail;refine bodyPost_ret (Ko (v:=.bool true) (rk:=w.heap.size) (cs:=(ps[k]).cells) results100 underlying43 rfl Xn ?ht ?hv ?hZ) rfl ?_
    case ht=>rfl
    case hv=>rfl
    case hZ=>exact a2.copy8 _ _ _ _ _ _ _ _
    refine⟨⟨ps[k],?_,?_⟩,Db a4 (A4 _) _ _ _ _ _ _ _ _⟩
    ·rw[VI ps nm k hp Hq.out];rfl
    ·intro j hj ha;have:=MS ps nm k hp Hal.out Hq.out;obtain rfl:j=k:=by omega
     rfl
  ·obtain⟨⟨d0,d1,d2,d3,d4,d5,d6,d7⟩,f0,f1,f2,f3,f4,f5,f6,f7⟩:=hC.c8;go_wp2_with fail;refine bodyPost_ret (Ko (v:=.bool false) (rk:=w.heap.size) (cs:=Ph.none.cells) results100 underlying43 rfl Xn ?ht ?hv ?hZ) rfl ?_
   case ht=>rfl
   case hv=>rfl
   case hZ=>exact hC.copy8 _ _ _ _ _ _ _ _
   refine⟨⟨Ph.none,?_,?_⟩,Db hB (A4 _) _ _ _ _ _ _ _ _⟩
   ·rw[KX ps nm k hp Hal.out];rfl
   ·intro j hj ha;have:=KY ps nm (KX ps nm k hp Hal.out);omega
theorem MA(ps:List Ph)(b o c:Nat)(nm:BA)(w:World)(hr:M2 w b o ps)(hb:b<w.heap.size)(hn:ps.length<=1048576):
  Calls prog 110 #[Sy b o ps.length c,Tz nm] w λe w'=>e=.returned (.bool (O6 ps nm))/\Up w w':=by
 go_in;go_wp2_with fail;refine (GU ps b o c nm _ hr hb hn).mono ?_;rintro e w1 ⟨⟨p,rfl,-⟩,a0⟩;go_wp2_with fail;go_ret;exact⟨rfl,a0.alloc a0.size _⟩
theorem Wb(ps:List Ph)(b o c:Nat)(nm:BA)(w:World)(hE:P2 w)(hr:M2 w b o ps)(hb:b<w.heap.size)(hn:ps.length<=1048576):
  Calls prog 111 #[Sy b o ps.length c,Tz nm] w λe w'=>e=.returned (.bool (BS ps nm))/\Up w w':=by
 have HE:Hid (P2 w):=hE;clear hE;cases h:(M6 nm != 0)
 ·go_in;go_wp2_with (first|(go_at_call 112;refine Sx (Y8 _ _ HE.out) ?_)|(go_at_call 110;refine (MA _ _ _ _ _ _ hr hb hn).mono ?_;rintro e w1 ⟨rfl,a0⟩;(first|replace hB:=D5 hB a0|have hB:=a0);clear a0;(try clear hc hf);obtain⟨hc,hf⟩:=G9 hB))
  go_ret;exact⟨D8 (by simp[BS,h]),hB⟩
 ·go_in;go_wp2_with (first|(go_at_call 112;refine Sx (Y8 _ _ HE.out) ?_)|(go_at_call 110;refine (MA _ _ _ _ _ _ hr hb hn).mono ?_;rintro e w1 ⟨rfl,a0⟩;(first|replace hB:=D5 hB a0|have hB:=a0);clear a0;(try clear hc hf);obtain⟨hc,hf⟩:=G9 hB))
  go_ret;exact⟨D8 (by simp[BS,h]),A5 _ _⟩
theorem Yw(ps:List Ph)(n b o c:Nat)(nm:BA)(w:World)(hl:ps.length=n)(hr:M2 w b o ps)(hb:b<w.heap.size)(hn:ps.length<=1048576):
  Calls prog 110 #[Sy b o n c,Tz nm] w λe w'=>e=.returned (.bool (O6 ps nm))/\Up w w':=by
 subst hl;exact MA ps b o c nm w hr hb hn
theorem XD(ps:List Ph)(n b o c:Nat)(nm:BA)(w:World)(hl:ps.length=n)(hE:P2 w)(hr:M2 w b o ps)(hb:b<w.heap.size)(hn:ps.length<=1048576):
  Calls prog 111 #[Sy b o n c,Tz nm] w λe w'=>e=.returned (.bool (BS ps nm))/\Up w w':=by
 subst hl;exact Wb ps b o c nm w hE hr hb hn
theorem Yx(b1 b2 b3 b4:Bool):(b1=false)∨(b1=true/\b2=true)∨(b1=true/\b2=false/\b3=false)∨(b1=true/\b2=false/\b3=true/\b4=false)∨(b1=true/\b2=false/\b3=true/\b4=true):=by revert b1 b2 b3 b4;decide
theorem DW(ps:List Ph)(b o c:Nat)(w:World)(hE:P2 w)(hr:M2 w b o ps)(hb:b<w.heap.size)(hs:Dd ps)(hcap:ps.length<=c)(hc9:c<=9223372036854775807):
  Calls prog 55 #[Sy b o ps.length c] w λe w'=>e=.returned (.bool (P3 ps))/\Up w w':=by
 by_cases hl:1<=ps.length
 case neg =>
  go_in;go_wp2;go_ret;exact⟨D8 (KZ ps (by omega)).symm,A5 _ _⟩
 by_cases hl2:ps.length<=12
 case neg =>
  go_in;go_wp2;go_ret;exact⟨D8 (KZ ps (by omega)).symm,A5 _ _⟩
 have HE:Hid (P2 w):=hE;clear hE;go_in;go_wp2_with fail;go_loopw [16] (λi w'=>∃k:Nat,k<=ps.length/\i=.int .i64 k/\GO ps k/\Up w w') (λi _=>ps.length-(intOf i).toNat)
 case atStart=>exact⟨0,by omega,rfl,TH ps,A5 _ _⟩
 case round =>
  obtain⟨k,hk,rfl,a3,hB⟩:=hrel;have Hal:Hid (GO ps k):=a3;clear a3;by_cases hp:k<ps.length
  ·obtain⟨c0,c1,c2,c3,c4,c5,c6,c7⟩:=hr.cells k hp;obtain⟨z0,z1,z2,z3,z4⟩:=hs ps[k] (by simp);obtain⟨hc,hf⟩:=G9 hB;have Hno:Hid (Be ps k ps[k]=false->P3 ps=false):=VL ps k hp;have Hyes:Hid (Be ps k ps[k]=true->GO ps (k+1)):=TF Hal.out hp;have a0:=hB;clear hB;have hd:∃b1 b2 b3 b4,V9 (ps[k]).nm (ps[k]).k (ps[k]).a (ps[k]).b (ps[k]).n (ps[k]).wi (ps[k]).t (ps[k]).e=b1/\O6 (ps.drop (k+1)) (ps[k]).nm=b2/\BS (ps.drop (k+1)) (ps[k]).t=b3/\BS (ps.drop (k+1)) (ps[k]).e=b4/\((b1=false)∨(b1=true/\b2=true)∨(b1=true/\b2=false/\b3=false)∨(b1=true/\b2=false/\b3=true/\b4=false)∨(b1=true/\b2=false/\b3=true/\b4=true)):=⟨_,_,_,_,rfl,rfl,rfl,rfl,Yx _ _ _ _⟩
   obtain⟨o',a2,a4⟩:∃o',(if c=k+1 then o'=o else o'=o+(k+1)*8)/\M2 w b o' (ps.drop (k+1)):=by
    by_cases a2:c=k+1
    ·exact⟨o,by rw[if_pos a2],by rw[List.drop_of_length_le (by omega)];intro i p hp;simp at hp⟩
    ·exact⟨_,by rw[if_neg a2],hr.drop (k+1)⟩
   clear hr hs;obtain⟨b1,b2,b3,b4,h1,h2,h3,h4,hd⟩:=hd;by_cases hcc:c=k+1
   all_goals
    (first|(rw[if_pos hcc] at a2;subst a2 hcc)|(rw[if_neg hcc] at a2;subst a2))
    rcases hd with rfl|⟨rfl,rfl⟩|⟨rfl,rfl,rfl⟩|⟨rfl,rfl,rfl,rfl⟩|⟨rfl,rfl,rfl,rfl⟩<;>go_wp2_with (first|(go_at_call 109;refine (OW _ _ _ _ _ _ _ _ _ (HE.out.up (a0.alloc a0.size _)) z0 z1 z2 z3 z4).mono ?_;rintro e w1 ⟨rfl,a1⟩;(first|replace hB:=D5 hB a1|have hB:=a1);clear a1;(try clear hc hf);obtain⟨hc,hf⟩:=G9 hB)|(go_at_call 110;refine (Yw (ps.drop (k+1)) _ _ _ _ _ _ (by rw[A9]<;>omega) (a4.up (D5 (a0.alloc a0.size _) hB) hb) (A2 hb (D5 (a0.alloc a0.size _) hB).size) (by rw[A9];omega)).mono ?_;rintro e w1 ⟨rfl,a1⟩;(first|replace hB:=D5 hB a1|have hB:=a1);clear a1;(try clear hc hf);obtain⟨hc,hf⟩:=G9 hB)|(go_at_call 111;refine (XD (ps.drop (k+1)) _ _ _ _ _ _ (by rw[A9]<;>omega) (HE.out.up (D5 (a0.alloc a0.size _) hB)) (a4.up (D5 (a0.alloc a0.size _) hB) hb) (A2 hb (D5 (a0.alloc a0.size _) hB).size) (by rw[A9];omega)).mono ?_;rintro e w1 ⟨rfl,a1⟩;(first|replace hB:=D5 hB a1|have hB:=a1);clear a1;(try clear hc hf);obtain⟨hc,hf⟩:=G9 hB))
    iterate 4 (first|(go_ret;exact⟨D8 (Hno.out (by simp[Be,Ph.okB,h1,h2,h3,h4])).symm,D5 (a0.alloc a0.size _) hB⟩)|skip)
    go_roundw
    case rel=>exact⟨k+1,by omega,by go_num,Hyes.out (by simp[Be,Ph.okB,h1,h2,h3,h4]),D5 (a0.alloc a0.size _) hB⟩
    case measure=>simp[intOf];omega
  ·go_wp2;go_ret;exact⟨D8 (TJ ps k ⟨hl,hl2⟩ hk hp Hal.out).symm,hB⟩
end Go.Proofs.YtmonodehegcfhaaGreatDoor
