/- The slots of a recipe from a name on: both sides' lists are one. -/
import Derived.Test.YtebfdccbmmpceaaGreatDoorJ10
import Derived.Test.YtebfdccbmmpceaaGreatDoorPt
import Derived.Test.YtebfdccbmmpceaaGreatDoorJ1
namespace Go.Proofs.YtebfdccbmmpceaaGreatDoor
def ownK (p:Ph):List Key:=if p.k=2 then [p.a.toList,p.b.toList] else [p.a.toList]
def slE (ps:List Ph) (nm:ByteArray):List ByteArray:=evL (λ_=>[]) (λp a b=>bothL (bothL (ofL p) a) b) [] ps nm
def fpK (p:Ph) (a b:List Key):List Key:=uniq (ownK p++a++b)
def feK (_:Int):List Key:=[]
def slI (ps:List Ph) (nm:ByteArray):List Key:=evL feK fpK [] ps nm
theorem AiF (p:Ph):(keys (ofL p)).Pairwise (· < ·)/\∀x,x∈keys (ofL p)↔x∈ownK p:=by
 unfold ofL ownK;by_cases h:p.k=2
 ·rw[if_pos h,if_pos h]
  obtain⟨h1,h2⟩:=AdU [p.a] p.b;refine⟨h2 (by simp[keys]),λx=>?_⟩;rw[h1];simp[keys]
 ·rw[if_neg h,if_neg h]
  exact⟨by simp[keys],λx=>by simp[keys]⟩
theorem AkW (p:Ph) (a b:List ByteArray):keys (bothL (bothL (ofL p) a) b)=fpK p (keys a) (keys b):=by
 obtain⟨o1,o2⟩:=AiF p;obtain⟨m1,p1⟩:=O7 a (ofL p);obtain⟨m2,p2⟩:=O7 b (bothL (ofL p) a);obtain⟨u1,u2⟩:=Z4 (ownK p++keys a++keys b);refine V9 _ _ (p2 (p1 o1)) u1 λx=>?_;rw[m2,m1,o2];show _↔x∈uniq _
 rw[u2,D1,D1]
theorem Aah:∀(ps:List Ph) (nm:ByteArray),keys (slE ps nm)=slI ps nm
 | [],nm=>by unfold slE slI evL;split<;>rfl
 | p::rest,nm=>by
  have ih:=Aah rest;unfold slE slI at *;rw[evL,evL];split
  ·rw[AkW,ih,ih]
  ·exact ih nm
theorem AcY:∀(ps:List Ph) (nm:ByteArray),(slI ps nm).Pairwise (· < ·)
 | [],nm=>by unfold slI evL;split<;>simp[feK]
 | p::rest,nm=>by
  have ih:=AcY rest;unfold slI at *;rw[evL];split
  ·exact (Z4 _).1
  ·exact ih nm
theorem AcZ:∀(ps:List Ph) (nm:ByteArray) (x:Key),x∈slI ps nm->x∈ps.flatMap ownK
 | [],nm,x,h=>by
  unfold slI evL at h;split at h<;>simp[feK] at h
 | p::rest,nm,x,h=>by
  have ih:=AcZ rest;unfold slI at *;rw[evL] at h;rw[List.flatMap_cons,D1];split at h
  ·have:=((Z4 _).2 x).1 h
   rw[D1,D1] at this;rcases this with (h1|h1)|h1
   ·exact .inl h1
   ·exact .inr (ih _ x h1)
   ·exact .inr (ih _ x h1)
  ·exact .inr (ih _ x h)
theorem Aax:∀(m l:List Key),l.Nodup->(∀x∈l,x∈m)->l.length<=m.length
 | [],l,_,h=>by
  cases l with
  | nil=>simp
  | cons x r=>have:=h x (by simp);simp at this
 | a::m,l,hn,h=>by
  have ih:=Aax m (l.erase a) (hn.erase a) (λx hx=>by
   have hx':=(List.Nodup.mem_erase_iff hn).1 hx;rcases List.mem_cons.1 (h x hx'.2) with e|e
   ·exact absurd e hx'.1
   ·exact e)
  have:=List.length_erase (a:=a) (l:=l);split at this<;>simp only[List.length_cons]<;>omega
theorem Afr (ps:List Ph) (nm:ByteArray):(slI ps nm).length<=2*ps.length:=by
 have hn:(slI ps nm).Nodup:=(AcY ps nm).imp λh e=>by subst e;exact V8 _ h
 have h1:=Aax (ps.flatMap ownK) _ hn (AcZ ps nm)
 have h2:∀l:List Ph,(l.flatMap ownK).length<=2*l.length:=by
  intro l;induction l with
  | nil=>simp
  | cons p r ih =>
   rw[List.flatMap_cons,A9,List.length_cons];have:(ownK p).length<=2:=by unfold ownK;split<;>simp
   omega
 exact B1 h1 (h2 ps)
theorem Aay (ps:List Ph) (nm:ByteArray):(slE ps nm).length<=2*ps.length:=by
 have:=Afr ps nm;rw[← Aah] at this;simpa [keys] using this
def slotsV (ps:List Ph) (nm:ByteArray):List ByteArray:=if recB ps=true then slE ps nm else []
end Go.Proofs.YtebfdccbmmpceaaGreatDoor
namespace Go.Proofs.YtebfdccbmmpceaaGreatDoor
open Go.Maps
structure Sl where
 s:ByteArray
 t:ByteArray
structure Rb where
 nm:ByteArray
 ps:List Ph
 sl:List Sl
 ad:ByteArray
 si:Int
 st:Int
def slNames (l:List Sl):List ByteArray:=l.map (·.s)
def slThings (l:List Sl):List ByteArray:=l.map (·.t)
def firstT (l:List Sl) (s:ByteArray):ByteArray:=match l.find? λx=>x.s.toList==s.toList with
 | some x=>x.t
 | none=>⟨#[]⟩
def lastT (l:List Sl) (s:ByteArray):ByteArray:=firstT l.reverse s
theorem Y3 (x:Sl) (l:List Sl) (s:ByteArray):firstT (x::l) s=if (x.s.toList==s.toList)=true then x.t else firstT l s:=by
 unfold firstT;rw[List.find?_cons];cases h:(x.s.toList==s.toList)<;>simp
theorem Ajo (x:Sl) (l:List Sl) (s:ByteArray):lastT (l++[x]) s=if (x.s.toList==s.toList)=true then x.t else lastT l s:=by
 unfold lastT;rw[List.reverse_append];exact Y3 x l.reverse s
theorem AaN:∀{l:List Sl} {s:ByteArray},s.toList∉keys (slNames l)->firstT l s=⟨#[]⟩
 | [],_,_=>rfl
 | x::r,s,h=>by
  simp only[slNames,keys,List.map_cons,List.mem_cons,not_or] at h;have h1:¬(x.s.toList==s.toList)=true:=λe=>h.1 (by simpa using (beq_iff_eq.1 e).symm);rw[Y3,if_neg h1];exact AaN (by simpa [slNames,keys] using h.2)
theorem AaO:∀{l:List Sl},(keys (slNames l)).Nodup->∀{x:Sl},x∈l->firstT l x.s=x.t
 | [],_,_,h=>by simp at h
 | y::r,hn,x,h=>by
  have hn':y.s.toList∉keys (slNames r)/\(keys (slNames r)).Nodup:=by simpa [slNames,keys] using hn
  rw[Y3];rcases List.mem_cons.1 h with rfl|h
  ·rw[if_pos (by simp)]
  ·have h1:¬(y.s.toList==x.s.toList)=true:=λe=>hn'.1 (by
    rw[beq_iff_eq.1 e];simp only[slNames,keys,List.mem_map];exact⟨x.s,⟨x,h,rfl⟩,rfl⟩)
   rw[if_neg h1];exact AaO hn'.2 h
theorem Ae2:∀{l:List Sl} {s:ByteArray} {k:Nat} (hk:k<l.length),(∀(j:Nat) (x:Sl),j<k->l[j]?=some x->(x.s.toList==s.toList)=false)->((l[k]).s.toList==s.toList)=true->firstT l s=(l[k]).t
 | x::r,s,0,_,_,h=>by rw[Y3,if_pos (by simpa using h)];rfl
 | x::r,s,k+1,hk,hal,h=>by
  have h0:=hal 0 x (by omega) rfl;rw[Y3,if_neg (by simp[h0])];have:=Ae2 (l:=r) (s:=s) (k:=k) (by simpa using hk) (λj y hj hy=>hal (j+1) y (by omega) (by simpa using hy)) (by simpa using h);simpa using this
theorem Ah9 {l:List Sl} {s:ByteArray} (h:∀(j:Nat) (x:Sl),l[j]?=some x->(x.s.toList==s.toList)=false):firstT l s=⟨#[]⟩:=by
 refine AaN λhm=>?_;simp only[slNames,keys,List.mem_map] at hm;obtain⟨_,⟨x,hx,rfl⟩,e⟩:=hm;obtain⟨j,hj⟩:=C6.1 hx;have:=h j x hj;rw[e] at this;simp at this
theorem AkX {l:List Key} (h:l.Nodup):l.reverse.Nodup:=by
 unfold List.Nodup at *;rw[List.pairwise_reverse];exact h.imp λh e=>h e.symm
theorem Ae3 {l:List Sl} (hn:(keys (slNames l)).Nodup) (s:ByteArray):lastT l s=firstT l s:=by
 have hr:keys (slNames l.reverse)=(keys (slNames l)).reverse:=by simp[keys,slNames]
 by_cases h:s.toList∈keys (slNames l)
 ·simp only[slNames,keys,List.mem_map] at h
  obtain⟨_,⟨x,hx,rfl⟩,e⟩:=h;obtain rfl:=M6 e;rw[AaO hn hx];exact AaO (l:=l.reverse) (by rw[hr];exact AkX hn) (by simpa using hx)
 ·rw[AaN h]
  exact AaN (by rw[hr];simpa using h)
def thE (l:List Sl) (ss:List ByteArray):List ByteArray:=bothL [] (ss.map (firstT l))
def thI (l:List Sl) (ss:List ByteArray):List Key:=uniq (keys (ss.map (lastT l)))
theorem Abf (l:List Sl) (ss:List ByteArray):(keys (thE l ss)).Pairwise (· < ·)/\∀x,x∈keys (thE l ss)↔x∈keys (ss.map (firstT l)):=by
 obtain⟨h1,h2⟩:=O7 (ss.map (firstT l)) [];exact⟨h2 (by simp[keys]),λx=>by rw[thE,h1];simp[keys]⟩
theorem Ad6 {l:List Sl} {ss tt:List ByteArray} (hn:(keys (slNames l)).Nodup) (hm:∀x,x∈keys ss↔x∈keys tt):keys (thE l ss)=thI l tt:=by
 obtain⟨e1,e2⟩:=Abf l ss;obtain⟨u1,u2⟩:=Z4 (keys (tt.map (lastT l)));refine V9 _ _ e1 u1 λx=>?_;rw[e2];show _↔x∈uniq _
 rw[u2];have hl:tt.map (lastT l)=tt.map (firstT l):=List.map_congr_left λs _=>Ae3 hn s;rw[hl];simp only[keys,List.mem_map] at hm ⊢
 constructor
 ·rintro⟨_,⟨s,hs,rfl⟩,rfl⟩
  obtain⟨s',hs',e⟩:=(hm s.toList).1 ⟨s,hs,rfl⟩;obtain rfl:=M6 e;exact⟨_,⟨_,hs',rfl⟩,rfl⟩
 ·rintro⟨_,⟨s,hs,rfl⟩,rfl⟩
  obtain⟨s',hs',e⟩:=(hm s.toList).2 ⟨s,hs,rfl⟩;obtain rfl:=M6 e;exact⟨_,⟨_,hs',rfl⟩,rfl⟩
theorem Ada:∀(m l:List Key),l.Nodup->(∀x∈l,x∈m)->m.length<=l.length->m.Nodup
 | [],_,_,_,_=>List.nodup_nil
 | a::m,l,hn,h,hl=>by
  simp only[List.length_cons] at hl
  have hsub:∀x∈l.erase a,x∈m:=λx hx=>by
   have hx':=(List.Nodup.mem_erase_iff hn).1 hx;rcases List.mem_cons.1 (h x hx'.2) with e|e
   ·exact absurd e hx'.1
   ·exact e
  have he:=List.length_erase (a:=a) (l:=l);refine List.nodup_cons.2 ⟨λha=>?_,Ada m (l.erase a) (hn.erase a) hsub (by split at he<;>omega)⟩
  have:=Aax m l hn λx hx=>by
   rcases List.mem_cons.1 (h x hx) with e|e
   ·rw[e];exact ha
   ·exact e
  omega
theorem Z5 {l:List Key} (h:l.Pairwise (· < ·)):l.Nodup:=h.imp λh e=>by subst e;exact V8 _ h
theorem Amv (l:List Key):(uniq l).length=l.length↔l.Nodup:=by
 obtain⟨u1,u2⟩:=Z4 l;constructor
 ·intro h
  exact Ada l (uniq l) (Z5 u1) (λx hx=>(u2 x).1 hx) (by omega)
 ·intro h
  have h1:=Aax l (uniq l) (Z5 u1) (λx hx=>(u2 x).1 hx);have h2:=Aax (uniq l) l h (λx hx=>(u2 x).2 hx);omega
def SlP (l:List Sl) (ns:List ByteArray) (i:Nat):Prop:=∀(j:Nat) (x:Sl),j<i->l[j]?=some x->(∃n,ns[j]?=some n/\x.s.toList=n.toList)/\nameB x.t=true
def SlD (l:List Sl) (i:Nat):Prop:=∀(j k:Nat) (x y:Sl),j<i->k<j->l[j]?=some x->l[k]?=some y->y.t.toList≠x.t.toList
def SlOk (l:List Sl) (ns:List ByteArray):Prop:=l.length=ns.length/\SlP l ns l.length/\SlD l l.length
theorem SlP.step {l:List Sl} {ns:List ByteArray} {i:Nat} (h:SlP l ns i) (hi:i<l.length) (hn:i<ns.length) (h1:((l[i]).s.toList==(ns[i]).toList)=true) (h2:nameB (l[i]).t=true):SlP l ns (i+1):=λj x hj hx=>by
 rcases Nat.lt_or_ge j i with h'|h'
 ·exact h j x h' hx
 ·obtain rfl:j=i:=by omega
  obtain⟨_,rfl⟩:=A2.1 hx;exact⟨⟨ns[j],by simp[hn],by simpa using h1⟩,h2⟩
theorem SlP.no1 {l:List Sl} {ns:List ByteArray} {i:Nat} (hi:i<l.length) (hn:i<ns.length) (h1:((l[i]).s.toList==(ns[i]).toList)=false):¬SlOk l ns:=λ⟨_,h,_⟩=>by
 obtain⟨⟨n,hn',e⟩,_⟩:=h i l[i] hi (by simp);rw[A0 hn] at hn';obtain rfl:=A5 hn';rw[e] at h1;simp at h1
theorem SlP.no2 {l:List Sl} {ns:List ByteArray} {i:Nat} (hi:i<l.length) (h1:nameB (l[i]).t=false):¬SlOk l ns:=λ⟨_,h,_⟩=>by
 rw[(h i l[i] hi (by simp)).2] at h1;cases h1
theorem SlD.step {l:List Sl} {i:Nat} (h:SlD l i) (hi:i<l.length) (hd:∀(k:Nat) (y:Sl),k<i->l[k]?=some y->y.t.toList≠(l[i]).t.toList):SlD l (i+1):=λj k x y hj hk hx hy=>by
 rcases Nat.lt_or_ge j i with h'|h'
 ·exact h j k x y h' hk hx hy
 ·obtain rfl:j=i:=by omega
  obtain⟨_,rfl⟩:=A2.1 hx;exact hd k y hk hy
theorem SlD.no {l:List Sl} {ns:List ByteArray} {i k:Nat} (hi:i<l.length) (hk:k<i) (h1:((l[k]).t.toList==(l[i]).t.toList)=true):¬SlOk l ns:=λ⟨_,_,h⟩ =>
 h i k l[i] (l[k]'(by omega)) hi hk (by simp) (A0 (by omega)) (by simpa using h1)
theorem SlP.names {l:List Sl} {ns:List ByteArray} (hl:l.length=ns.length) (h:SlP l ns l.length):slNames l=ns:=by
 refine List.ext_getElem (by simpa [slNames] using hl) λj h1 h2=>?_;have hj:j<l.length:=by simpa [slNames] using h1
 obtain⟨⟨n,hn,e⟩,_⟩:=h j l[j] hj (by simp);rw[A0 h2] at hn;obtain rfl:=A5 hn;simp only[slNames,List.getElem_map];exact M6 e
theorem SlD.nodup {l:List Sl}:SlD l l.length↔(keys (slThings l)).Nodup:=by
 unfold List.Nodup;rw[List.pairwise_iff_getElem];constructor
 ·intro h i j hi hj hij
  have hi':i<l.length:=by simpa [keys,slThings] using hi
  have hj':j<l.length:=by simpa [keys,slThings] using hj
  have:=h j i l[j] l[i] hj' hij (by simp) (by simp);simpa [keys,slThings] using this
 ·intro h j k x y hj hk hx hy
  obtain⟨h1,rfl⟩:=A2.1 hx;obtain⟨h2,rfl⟩:=A2.1 hy;have:=h k j (by simpa [keys,slThings] using h2) (by simpa [keys,slThings] using h1) hk;simpa [keys,slThings] using this
theorem SlP.count {l:List Sl} {ns:List ByteArray} (hl:l.length=ns.length) (h:SlP l ns l.length) (hn:(keys ns).Nodup):(thI l ns).length=l.length↔SlOk l ns:=by
 have hnm:=SlP.names hl h
 have hm:ns.map (lastT l)=slThings l:=by
  rw[← hnm,slNames,List.map_map]
  exact List.map_congr_left λx hx=>by
   show lastT l x.s=x.t
   rw[Ae3 (by rw[hnm];exact hn),AaO (by rw[hnm];exact hn) hx]
 have hc:=Amv (keys (slThings l));rw[thI,hm];have hk:(keys (slThings l)).length=l.length:=by simp[keys,slThings]
 rw[hk] at hc;rw[hc,← SlD.nodup];exact⟨λhd=>⟨hl,h,hd⟩,λhd=>hd.2.2⟩
def phOf (ps:List Ph) (nm:ByteArray):Ph:=match ps.find? λp=>p.nm.toList==nm.toList with
 | some p=>p
 | none=>⟨⟨#[]⟩,0,⟨#[]⟩,⟨#[]⟩,0,0,⟨#[]⟩,⟨#[]⟩⟩
theorem Z6 {ps:List Ph} {nm:ByteArray} {k:Nat} (hk:k<ps.length) (h:atI ps nm=(k:Int)):phOf ps nm=ps[k]:=by
 unfold atI at h;unfold phOf;cases hf:ps.findIdx? λp=>p.nm.toList==nm.toList with
 | none =>
  rw[hf] at h;have h':(-1:Int)=(k:Int):=h;omega
 | some i =>
  rw[hf] at h;have h':(i:Int)=(k:Int):=h;obtain rfl:i=k:=by omega
  obtain⟨h1,h2,h3⟩:=List.findIdx?_eq_some_iff_getElem.1 hf
  have:(ps.find? λp=>p.nm.toList==nm.toList)=some ps[i]:=by
   rw[List.find?_eq_some_iff_getElem];exact⟨h2,i,h1,rfl,λj hj=>by simpa using h3 j hj⟩
  rw[this]
def fstN:List Ph->ByteArray
 | []=>⟨#[]⟩
 | p::_=>p.nm
theorem Adb {ps:List Ph} (h:0<ps.length):fstN ps=(ps[0]).nm:=by
 cases ps with
 | nil=>simp at h
 | cons p r=>rfl
def SlotsOk (ps:List Ph) (l:List Sl):Prop:=SlOk l (slE ps (fstN ps))
def RbOk (x:Rb):Prop:=nameB x.nm=true/\recB x.ps=true/\SlotsOk x.ps x.sl/\1<=x.st/\hasB x.ps x.ad=true/\-1<=x.si/\x.si<(phOf x.ps x.ad).wi
noncomputable def rbThings (x:Rb) (nm:ByteArray):List ByteArray:=if pB (RbOk x)=true then thE x.sl (slE x.ps nm) else []
noncomputable def rbOwn (x:Rb):List ByteArray:=if pB (RbOk x)=true then thE x.sl (ofL (phOf x.ps x.ad)) else []
theorem Afs (ps:List Ph) (nm:ByteArray):(keys (slE ps nm)).Nodup:=by rw[Aah];exact Z5 (AcY ps nm)
theorem SlotsOk.names {ps:List Ph} {l:List Sl} (h:SlotsOk ps l):slNames l=slE ps (fstN ps):=SlP.names h.1 h.2.1
theorem SlotsOk.nodup {ps:List Ph} {l:List Sl} (h:SlotsOk ps l):(keys (slNames l)).Nodup:=by rw[h.names];exact Afs _ _
theorem SlotsOk.len {ps:List Ph} {l:List Sl} (h:SlotsOk ps l):l.length<=2*ps.length:=by
 have h1:=h.names;have h2:=Aay ps (fstN ps);have:l.length=(slNames l).length:=by simp[slNames]
 rw[this,h1];exact h2
theorem Amw (l:List Sl) (p:Ph) (hn:(keys (slNames l)).Nodup) {tt:List ByteArray} (ht:keys tt=ownK p):keys (thE l (ofL p))=thI l tt :=
 Ad6 hn λx=>by rw[(AiF p).2,ht]
theorem AiG (l:List Sl) (ss:List ByteArray):(thI l ss).length<=ss.length:=by
 obtain⟨u1,u2⟩:=Z4 (keys (ss.map (lastT l)));have:=Aax (keys (ss.map (lastT l))) _ (Z5 u1) (λx hx=>(u2 x).1 hx);simpa [keys,thI] using this
theorem AaX (l:List Sl) (ss:List ByteArray):(thE l ss).length<=ss.length:=by
 have:=Ab3 [] (ss.map (firstT l));simpa [thE] using this
end Go.Proofs.YtebfdccbmmpceaaGreatDoor
