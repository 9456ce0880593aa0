/- Lists of one's own that lie apart from each other; where what an append answers lies. -/
import Derived.Test.YtcgkgmmclfeohaaGreatDoorJ7
namespace Go.Proofs.YtcgkgmmclfeohaaGreatDoor
open Go.Proofs.Tryz
open Go.RowKit
theorem Jp{B:Nat}{a b c:World}{base e size n:Nat}{v:Value}{xs:List Value}(h:Below B a b)(hz:B<=b.heap.size)(hown:b.ownsRow base e size v n xs)(hg:b.grownBy c v.ownBlock)(hk:B<=base):Below B a c :=
 {os:=hg.os.trans h.os,tape:=hg.tape.trans h.tape,output:=hg.output.trans h.output,size:=B4 h.size hg.size,block:=λi hi=>(hg.block i (A1 hi hz) (Af hown (by omega))).trans (h.block i hi)}
theorem BM.set{w:World}{base r j:Nat}{v u:Value}{ps:List Bv}(h:BM w base v ps)(hr:r<base):BM (w.setCell ⟨r,j,none⟩ u) base v ps :=
 ⟨J0 h.1 (E6 (F4 _ _) _) hr,λp hp=>⟨J0 (h.2 p hp).1 (E6 (F4 _ _) _) hr,J0 (h.2 p hp).2.1 (E6 (F4 _ _) _) hr,(h.2 p hp).2.2⟩⟩
theorem BM.low{w:World}{base base':Nat}{v:Value}{ps:List Bv}(h:BM w base v ps)(hb:base'<=base):BM w base' v ps :=
 ⟨N1 h.1 hb,λp hp=>⟨N1 (h.2 p hp).1 hb,N1 (h.2 p hp).2.1 hb,(h.2 p hp).2.2⟩⟩
theorem L9{w:World}{base e size n:Nat}{v:Value}{xs:List Value}(h:w.ownsRow base e size v n xs):∃a c,v=Vz a n c:=by
 rcases h.2 with⟨rfl,rfl⟩|⟨g,cap,_,rfl,_⟩
 ·exact⟨none,0,rfl⟩
 ·exact⟨_,_,rfl⟩
theorem M4:(prog.info? 26).map (·.size)=some 2:=by kernel_rfl
def Ap(u v:Value):Prop:=∀g,u.ownBlock=some g->v.ownBlock≠some g
theorem Ap.symm{u v:Value}(h:Ap u v):Ap v u:=λg hg hu=>h g hu hg
def MT(w:World)(v v':Value):Prop:=∀g,v'.ownBlock=some g->v.ownBlock=some g∨w.heap.size<=g
theorem RC{P:Program}{w:World}(base:Nat)(t ty e:TypeId)(i:TypeInfo)(z:Value)(size bytes:Nat)(ht:P.underlying t=some (.slice e))(hi:P.info? e=some i)(hz:i.zero=some z)
  (hsize:i.size=size) (hby:i.bytes=bytes) (v:Value) (n:Nat) (xs:List Value) (hown:w.ownsRow base e size v n xs)
  (a:Addr) (m c:Nat) (news:List Value) (hl:news.length=m*size) (hnews:∀j u,news[j]?=some u->w.cell? (a.add j)=some u) (h1:∀u∈news,u.oneCell'=true)
  (hm:0<m) (h63:n+m<=maxLen) (hbytes:(n+m)*bytes<=140737488355328) {v':Value} {w':World}
  (hr:(Builtin.append_ #[t,t] ty #[v,.slice (some a) m c]).run P w=.ok v' w'):MT w v v':=by
 subst hsize;subst hby;have a0:n+m<=9223372036854775807:=by simp only[maxLen] at h63;omega
 rcases hown.2 with⟨rfl,rfl⟩|⟨g,cap,cur,rfl,-,hg,hnc,hcm,hcs,-⟩
 ·have hq:=run_append_nil (P:=P) w t ty e i z ht hi hz a m c news hl hnews (by omega) (by omega) (by have hb:=hbytes;simp only[Nat.zero_add] at hb;omega);rw[hq] at hr;injection hr with e1 e2
  subst e1;exact λg hg=>.inr (by simp[Value.ownBlock] at hg;omega)
 ·by_cases hroom:n+m<=cap
  ·have a1:n*i.size+news.length<=cur.size:=by rw[hl,hcs,← Nat.add_mul];exact Nat.mul_le_mul_right _ hroom
   have hq:=run_append_room (P:=P) w t ty e i ht hi g n cap cur hg a m c news hl hnews h1 hroom a1;rw[hq] at hr;injection hr with e1 e2
   subst e1;exact λk hk=>.inl hk
  ·have hq:=run_append_grow (P:=P) w t ty e i z ht hi hz ⟨g,0,none⟩ n cap xs hown.1 (hown.cells (g:=g) rfl) a m c news hl hnews (by omega) (by omega) (growslice_fits (by omega) hbytes);rw[hq] at hr;injection hr with e1 e2
   subst e1;exact λg hg=>.inr (by simp[Value.ownBlock] at hg;omega)
structure M2 (w:World) (B:Nat) (q:Option Nat) (fs:List (Value×List BA)):Prop where
 own:∀f∈fs,G3 w B f.1 f.2
 ap:fs.Pairwise λf g=>Ap f.1 g.1
 av:∀f∈fs,∀g,f.1.ownBlock=some g->some g≠q
variable {w w':World} {B r:Nat} {q:Option Nat} {f g:Value×List BA} {fs gs:List (Value×List BA)}
theorem Oo(w:World)(B:Nat)(q:Option Nat):M2 w B q []:=⟨λf hf=>by simp at hf,List.Pairwise.nil,λf hf=>by simp at hf⟩
theorem M2.keep(h:M2 w B q fs)(hk:∀f∈fs,G3 w B f.1 f.2->G3 w' B f.1 f.2):M2 w' B q fs:=⟨λf hf=>hk f hf (h.own f hf),h.ap,h.av⟩
theorem M2.up(h:M2 w B q fs)(hb:Up w w'):M2 w' B q fs:=h.keep λ_ _ ho=>ho.up hb
theorem M2.gr(h:M2 w B q fs)(hg:w.grownBy w' (some r))(hr:r<B):M2 w' B q fs:=h.keep λ_ _ ho=>J0 ho hg hr
theorem M2.set(h:M2 w B (some r) fs)(j:Nat)(u:Value):M2 (w.setCell ⟨r,j,none⟩ u) B (some r) fs :=
 h.keep λf hf ho=>P4 ho (E6 (F4 _ _) _) (h.av f hf)
theorem M2.set2(h:M2 w B q fs)(h2:M2 w B (some r) fs)(j:Nat)(u:Value):M2 (w.setCell ⟨r,j,none⟩ u) B q fs:=h.keep λf hf ho=>P4 ho (E6 (F4 _ _) _) (h2.av f hf)
theorem M2.setLow(h:M2 w B q fs)(hr:r<B)(j:Nat)(u:Value):M2 (w.setCell ⟨r,j,none⟩ u) B q fs:=h.gr (E6 (F4 _ _) _) hr
theorem M2.row{b2 n:Nat}{v:Value}{xs:List Value}(h:M2 w B q fs)(hrow:w.ownsRow b2 57 3 v n xs)(hg:w.grownBy w' v.ownBlock):M2 w' B q fs :=
 h.keep λ_ _ ho=>P4 ho hg (X5 ho hrow (by decide))
theorem M2.perm(h:M2 w B q fs)(hp:fs.Perm gs):M2 w B q gs :=
 ⟨λf hf=>h.own f (hp.mem_iff.2 hf),(hp.pairwise_iff (λ{_ _} h=>h.symm)).1 h.ap,λf hf=>h.av f (hp.mem_iff.2 hf)⟩
theorem M2.swap(h:M2 w B q (f::g::fs)):M2 w B q (g::f::fs):=h.perm (List.Perm.swap _ _ _)
theorem M2.tail(h:M2 w B q (f::fs)):M2 w B q fs:=⟨λg hg=>h.own g (C7 _ hg),(List.pairwise_cons.1 h.ap).2,λg hg=>h.av g (C7 _ hg)⟩
theorem M2.free(h:M2 w B q fs):M2 w B none fs:=⟨h.own,h.ap,λ_ _ _ _=>by simp⟩
theorem M2.avoid(h:M2 w B q fs)(hr:w.heap.size<=r):M2 w B (some r) fs:=⟨h.own,h.ap,λf hf g hg e=>by
 have:=(World.ownsRow.lt (h.own f hf) g hg).2;have:g=r:=by simpa using e
 omega⟩
theorem M2.low{B':Nat}(h:M2 w B q fs)(hb:B'<=B):M2 w B' q fs:=⟨λf hf=>N1 (h.own f hf) hb,h.ap,h.av⟩
theorem M2.turn{a b c:Value×List BA}(h:M2 w B q (a::b::c::fs)):M2 w B q (c::b::a::fs):=h.perm ((List.reverse_perm [c,b,a]).append_right fs)
theorem M2.mk1{u:Value}{ss:List BA}(_h:M2 w B none [])(hu:G3 w B u ss):M2 w B none [(u,ss)] :=
 ⟨λf hf=>by obtain rfl:f=(u,ss):=(by simpa using hf);exact hu,List.pairwise_singleton _ _,λf hf g hg=>by simp⟩
theorem FJ{r n:Nat}(h:r<n):∀k,some r=some k->k<n:=λk hk=>by cases hk;exact h
theorem M2.new{n:Nat}{u:Value}{ss:List BA}(h:M2 w B q fs)(h':M2 w' B q fs)(hu:G3 w' n u ss)(hn:w.heap.size<=n)(hB:B<=n)(hq:∀k,q=some k->k<w.heap.size):M2 w' B q ((u,ss)::fs):=by
 refine⟨λf hf=>?_,List.pairwise_cons.2 ⟨λf hf g hg hg'=>?_,h.ap⟩,λf hf g hg e=>?_⟩
 ·rcases List.mem_cons.1 hf with rfl|hf
  ·exact N1 hu hB
  ·exact h'.own f hf
 ·have h1:=(World.ownsRow.lt hu g hg).1;have h2:=(World.ownsRow.lt (h.own f hf) g hg').2;omega
 ·rcases List.mem_cons.1 hf with rfl|hf
  ·have h1:=(World.ownsRow.lt hu g hg).1;have h2:=hq g e.symm;omega
  ·exact h.av f hf g hg e
theorem M2.nil_new(h:M2 w B q fs):M2 w B q ((Nz,[])::fs):=by
 refine⟨λf hf=>?_,List.pairwise_cons.2 ⟨λf hf g hg hg'=>by simp[Value.ownBlock] at hg,h.ap⟩,λf hf g hg e=>?_⟩
 ·rcases List.mem_cons.1 hf with rfl|hf
  ·exact B9 _ _ _ _
  ·exact h.own f hf
 ·rcases List.mem_cons.1 hf with rfl|hf
  ·simp[Value.ownBlock] at hg
  ·exact h.av f hf g hg e
theorem M2.app{u u':Value}{ss ss':List BA}(h:M2 w B q ((u,ss)::fs))(hg:w.grownBy w' u.ownBlock)(hu:G3 w' B u' ss')(hw:MT w u u')(hq:∀k,q=some k->k<w.heap.size):M2 w' B q ((u',ss')::fs):=by
 obtain⟨ha,hp⟩:=List.pairwise_cons.1 h.ap;have hk:∀f∈fs,Ap f.1 u:=λf hf=>(ha f hf).symm;refine⟨λf hf=>?_,List.pairwise_cons.2 ⟨λf hf g hg' hf'=>?_,hp⟩,λf hf g hg' e=>?_⟩
 ·rcases List.mem_cons.1 hf with rfl|hf
  ·exact hu
  ·exact P4 (h.own f (C7 _ hf)) hg λg hg' e=>hk f hf g hg' e.symm
 ·rcases hw g hg' with h1|h1
  ·exact hk f hf g hf' h1
  ·have h2:=(World.ownsRow.lt (h.own f (C7 _ hf)) g hf').2;omega
 ·rcases List.mem_cons.1 hf with rfl|hf
  ·rcases hw g hg' with h1|h1
   ·exact h.av (u,ss) (List.mem_cons_self) g h1 e
   ·have h2:=hq g e.symm;omega
  ·exact h.av f (C7 _ hf) g hg' e
def V6:List Bv->List (Value×List BA)
 | []=>[]
 | p::r=>(p.2.1,p.1.has)::(p.2.2,p.1.nd)::V6 r
theorem RD:∀a b:List Bv,V6 (a++b)=V6 a++V6 b
 | [],_=>rfl
 | p::r,b=>by simp[V6,RD r b]
theorem Mh:∀{ps:List Bv} {p:Bv},p∈ps->(p.2.1,p.1.has)∈V6 ps/\(p.2.2,p.1.nd)∈V6 ps
 | q::r,p,h=>by
  rcases List.mem_cons.1 h with rfl|h
  ·exact⟨by simp[V6],by simp[V6]⟩
  ·have:=Mh h;exact⟨by simp[V6,this.1],by simp[V6,this.2]⟩
theorem Pt(ps:List Bv)(p:Bv)(fs:List (Value×List BA)):(fs++(p.2.1,p.1.has)::(p.2.2,p.1.nd)::V6 ps).Perm (fs++V6 (ps++[p])):=by
 rw[RD];refine List.Perm.append_left fs ?_;show ([(p.2.1,p.1.has),(p.2.2,p.1.nd)]++V6 ps).Perm (V6 ps++V6 [p])
 exact List.perm_append_comm
theorem M2.bsW{v:Value}{ps:List Bv}(h:M2 w B q (fs++V6 ps))(hrow:w.ownsRow B 57 3 v ps.length (E4 ps))(hz:∀p∈ps,p.1.nm.size<=maxLen):BM w B v ps :=
 ⟨hrow,λp hp=>⟨h.own _ (List.mem_append_right _ (Mh hp).1),h.own _ (List.mem_append_right _ (Mh hp).2),hz p hp⟩⟩
end Go.Proofs.YtcgkgmmclfeohaaGreatDoor
