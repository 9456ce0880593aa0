/- Lists of one's own that lie apart from each other; where what an append answers lies. -/
import Derived.Test.YtgecdacgmehmbaaGreatDoorJ2
namespace Go.Proofs.YtgecdacgmehmbaaGreatDoor
open Go.RowKit
theorem F5 {B:Nat} {a b c:World} {base e size n:Nat} {v:Value} {xs:List Value} (h:Below B a b) (hz:B<=b.heap.size) (hown:b.ownsRow base e size v n xs) (hg:b.grownBy c v.ownBlock) (hk:B<=base):Below B a c :=
 {os:=hg.os.trans h.os,tape:=hg.tape.trans h.tape,output:=hg.output.trans h.output,size:=B1 h.size hg.size,block:=λi hi=>(hg.block i (A1 hi hz) (Z3 hown (by omega))).trans (h.block i hi)}
theorem BsW.set {w:World} {base r j:Nat} {v u:Value} {ps:List Bv} (h:BsW w base v ps) (hr:r<base):BsW (w.setCell ⟨r,j,none⟩ u) base v ps :=
 ⟨E6 h.1 (D9 (E1 _ _) _) hr,λp hp=>⟨E6 (h.2 p hp).1 (D9 (E1 _ _) _) hr,E6 (h.2 p hp).2.1 (D9 (E1 _ _) _) hr,(h.2 p hp).2.2⟩⟩
theorem BsW.low {w:World} {base base':Nat} {v:Value} {ps:List Bv} (h:BsW w base v ps) (hb:base'<=base):BsW w base' v ps :=
 ⟨F9 h.1 hb,λp hp=>⟨F9 (h.2 p hp).1 hb,F9 (h.2 p hp).2.1 hb,(h.2 p hp).2.2⟩⟩
theorem E9 {w:World} {base e size n:Nat} {v:Value} {xs:List Value} (h:w.ownsRow base e size v n xs):∃a c,v=.slice a n c:=by
 rcases h.2 with⟨rfl,rfl⟩|⟨g,cap,_,rfl,_⟩
 ·exact⟨none,0,rfl⟩
 ·exact⟨_,_,rfl⟩
theorem I9:(Tryz.prog.info? 37).map (·.size)=some 2:=by kernel_rfl
def Ap (u v:Value):Prop:=∀g,u.ownBlock=some g->v.ownBlock≠some g
theorem Ap.symm {u v:Value} (h:Ap u v):Ap v u:=λg hg hu=>h g hu hg
def Where (w:World) (v v':Value):Prop:=∀g,v'.ownBlock=some g->v.ownBlock=some g∨w.heap.size<=g
theorem AfS {P:Program} {w:World} (base:Nat) (t ty e:TypeId) (i:TypeInfo) (z:Value) (size bytes:Nat) (ht:P.underlying t=some (.slice e)) (hi:P.info? e=some i) (hz:i.zero=some z)
  (hsize:i.size=size) (hby:i.bytes=bytes) (v:Value) (n:Nat) (xs:List Value) (hown:w.ownsRow base e size v n xs)
  (a:Addr) (m c:Nat) (news:List Value) (hl:news.length=m*size) (hnews:∀j u,news[j]?=some u->w.cell? (a.add j)=some u) (h1:∀u∈news,u.oneCell'=true)
  (hm:0<m) (h63:n+m<=maxLen) (hbytes:(n+m)*bytes<=140737488355328) {v':Value} {w':World}
  (hr:(Builtin.append_ #[t,t] ty #[v,.slice (some a) m c]).run P w=.ok v' w'):Where w v v':=by
 subst hsize;subst hby;have hsmall:n+m<=9223372036854775807:=by simp only[maxLen] at h63;omega
 rcases hown.2 with⟨rfl,rfl⟩|⟨g,cap,cur,rfl,-,hg,hnc,hcm,hcs,-⟩
 ·have hq:=run_append_nil (P:=P) w t ty e i z ht hi hz a m c news hl hnews (by omega) (by omega) (by have hb:=hbytes;simp only[Nat.zero_add] at hb;omega)
  rw[hq] at hr;injection hr with e1 e2
  subst e1;exact λg hg=>.inr (by simp[Value.ownBlock] at hg;omega)
 ·by_cases hroom:n+m<=cap
  ·have hfit:n*i.size+news.length<=cur.size:=by rw[hl,hcs,← Nat.add_mul];exact Nat.mul_le_mul_right _ hroom
   have hq:=run_append_room (P:=P) w t ty e i ht hi g n cap cur hg a m c news hl hnews h1 hroom hfit;rw[hq] at hr;injection hr with e1 e2
   subst e1;exact λk hk=>.inl hk
  ·have hq:=run_append_grow (P:=P) w t ty e i z ht hi hz ⟨g,0,none⟩ n cap xs hown.1 (hown.cells (g:=g) rfl) a m c news hl hnews (by omega) (by omega) (growslice_fits (by omega) hbytes)
   rw[hq] at hr;injection hr with e1 e2
   subst e1;exact λg hg=>.inr (by simp[Value.ownBlock] at hg;omega)
structure Fam (w:World) (B:Nat) (q:Option Nat) (fs:List (Value×List ByteArray)):Prop where
 own:∀f∈fs,OwnT w B f.1 f.2
 ap:fs.Pairwise λf g=>Ap f.1 g.1
 av:∀f∈fs,∀g,f.1.ownBlock=some g->some g≠q
variable {w w':World} {B r:Nat} {q:Option Nat} {f g:Value×List ByteArray} {fs gs:List (Value×List ByteArray)}
theorem Ae5 (w:World) (B:Nat) (q:Option Nat):Fam w B q []:=⟨λf hf=>by simp at hf,List.Pairwise.nil,λf hf=>by simp at hf⟩
theorem Fam.keep (h:Fam w B q fs) (hk:∀f∈fs,OwnT w B f.1 f.2->OwnT w' B f.1 f.2):Fam w' B q fs:=⟨λf hf=>hk f hf (h.own f hf),h.ap,h.av⟩
theorem Fam.up (h:Fam w B q fs) (hb:Below w.heap.size w w'):Fam w' B q fs:=h.keep λ_ _ ho=>ho.up hb
theorem Fam.gr (h:Fam w B q fs) (hg:w.grownBy w' (some r)) (hr:r<B):Fam w' B q fs:=h.keep λ_ _ ho=>E6 ho hg hr
theorem Fam.set (h:Fam w B (some r) fs) (j:Nat) (u:Value):Fam (w.setCell ⟨r,j,none⟩ u) B (some r) fs :=
 h.keep λf hf ho=>E4 ho (D9 (E1 _ _) _) (h.av f hf)
theorem Fam.set2 (h:Fam w B q fs) (h2:Fam w B (some r) fs) (j:Nat) (u:Value):Fam (w.setCell ⟨r,j,none⟩ u) B q fs:=h.keep λf hf ho=>E4 ho (D9 (E1 _ _) _) (h2.av f hf)
theorem Fam.setLow (h:Fam w B q fs) (hr:r<B) (j:Nat) (u:Value):Fam (w.setCell ⟨r,j,none⟩ u) B q fs:=h.gr (D9 (E1 _ _) _) hr
theorem Fam.row {b2 n:Nat} {v:Value} {xs:List Value} (h:Fam w B q fs) (hrow:w.ownsRow b2 118 3 v n xs) (hg:w.grownBy w' v.ownBlock):Fam w' B q fs :=
 h.keep λ_ _ ho=>E4 ho hg (E5 ho hrow (by decide))
theorem Fam.perm (h:Fam w B q fs) (hp:fs.Perm gs):Fam w B q gs :=
 ⟨λf hf=>h.own f (hp.mem_iff.2 hf),(hp.pairwise_iff (λ{_ _} h=>h.symm)).1 h.ap,λf hf=>h.av f (hp.mem_iff.2 hf)⟩
theorem Fam.swap (h:Fam w B q (f::g::fs)):Fam w B q (g::f::fs):=h.perm (List.Perm.swap _ _ _)
theorem Fam.tail (h:Fam w B q (f::fs)):Fam w B q fs:=⟨λg hg=>h.own g (C7 _ hg),(List.pairwise_cons.1 h.ap).2,λg hg=>h.av g (C7 _ hg)⟩
theorem Fam.free (h:Fam w B q fs):Fam w B none fs:=⟨h.own,h.ap,λ_ _ _ _=>by simp⟩
theorem Fam.avoid (h:Fam w B q fs) (hr:w.heap.size<=r):Fam w B (some r) fs:=⟨h.own,h.ap,λf hf g hg e=>by
 have:=(World.ownsRow.lt (h.own f hf) g hg).2;have:g=r:=by simpa using e
 omega⟩
theorem Fam.low {B':Nat} (h:Fam w B q fs) (hb:B'<=B):Fam w B' q fs:=⟨λf hf=>F9 (h.own f hf) hb,h.ap,h.av⟩
theorem Fam.turn {a b c:Value×List ByteArray} (h:Fam w B q (a::b::c::fs)):Fam w B q (c::b::a::fs):=h.perm ((List.reverse_perm [c,b,a]).append_right fs)
theorem Fam.mk1 {u:Value} {ss:List ByteArray} (_h:Fam w B none []) (hu:OwnT w B u ss):Fam w B none [(u,ss)] :=
 ⟨λf hf=>by obtain rfl:f=(u,ss):=(by simpa using hf);exact hu,List.pairwise_singleton _ _,λf hf g hg=>by simp⟩
theorem Abf {r n:Nat} (h:r<n):∀k,some r=some k->k<n:=λk hk=>by cases hk;exact h
theorem Fam.new {n:Nat} {u:Value} {ss:List ByteArray} (h:Fam w B q fs) (h':Fam w' B q fs) (hu:OwnT w' n u ss) (hn:w.heap.size<=n) (hB:B<=n) (hq:∀k,q=some k->k<w.heap.size):Fam w' B q ((u,ss)::fs):=by
 refine⟨λf hf=>?_,List.pairwise_cons.2 ⟨λf hf g hg hg'=>?_,h.ap⟩,λf hf g hg e=>?_⟩
 ·rcases List.mem_cons.1 hf with rfl|hf
  ·exact F9 hu hB
  ·exact h'.own f hf
 ·have h1:=(World.ownsRow.lt hu g hg).1
  have h2:=(World.ownsRow.lt (h.own f hf) g hg').2;omega
 ·rcases List.mem_cons.1 hf with rfl|hf
  ·have h1:=(World.ownsRow.lt hu g hg).1
   have h2:=hq g e.symm;omega
  ·exact h.av f hf g hg e
theorem Fam.nil_new (h:Fam w B q fs):Fam w B q ((.slice none 0 0,[])::fs):=by
 refine⟨λf hf=>?_,List.pairwise_cons.2 ⟨λf hf g hg hg'=>by simp[Value.ownBlock] at hg,h.ap⟩,λf hf g hg e=>?_⟩
 ·rcases List.mem_cons.1 hf with rfl|hf
  ·exact B7 _ _ _ _
  ·exact h.own f hf
 ·rcases List.mem_cons.1 hf with rfl|hf
  ·simp[Value.ownBlock] at hg
  ·exact h.av f hf g hg e
theorem Fam.app {u u':Value} {ss ss':List ByteArray} (h:Fam w B q ((u,ss)::fs)) (hg:w.grownBy w' u.ownBlock) (hu:OwnT w' B u' ss') (hw:Where w u u') (hq:∀k,q=some k->k<w.heap.size):Fam w' B q ((u',ss')::fs):=by
 obtain⟨ha,hp⟩:=List.pairwise_cons.1 h.ap;have hk:∀f∈fs,Ap f.1 u:=λf hf=>(ha f hf).symm;refine⟨λf hf=>?_,List.pairwise_cons.2 ⟨λf hf g hg' hf'=>?_,hp⟩,λf hf g hg' e=>?_⟩
 ·rcases List.mem_cons.1 hf with rfl|hf
  ·exact hu
  ·exact E4 (h.own f (C7 _ hf)) hg λg hg' e=>hk f hf g hg' e.symm
 ·rcases hw g hg' with h1|h1
  ·exact hk f hf g hf' h1
  ·have h2:=(World.ownsRow.lt (h.own f (C7 _ hf)) g hf').2
   omega
 ·rcases List.mem_cons.1 hf with rfl|hf
  ·rcases hw g hg' with h1|h1
   ·exact h.av (u,ss) (List.mem_cons_self) g h1 e
   ·have h2:=hq g e.symm
    omega
  ·exact h.av f (C7 _ hf) g hg' e
def famB:List Bv->List (Value×List ByteArray)
 | []=>[]
 | p::r=>(p.2.1,p.1.has)::(p.2.2,p.1.needs)::famB r
theorem AfT:∀a b:List Bv,famB (a++b)=famB a++famB b
 | [],_=>rfl
 | p::r,b=>by simp[famB,AfT r b]
theorem Ad2:∀{ps:List Bv} {p:Bv},p∈ps->(p.2.1,p.1.has)∈famB ps/\(p.2.2,p.1.needs)∈famB ps
 | q::r,p,h=>by
  rcases List.mem_cons.1 h with rfl|h
  ·exact⟨by simp[famB],by simp[famB]⟩
  ·have:=Ad2 h
   exact⟨by simp[famB,this.1],by simp[famB,this.2]⟩
theorem AeP (ps:List Bv) (p:Bv) (fs:List (Value×List ByteArray)):(fs++(p.2.1,p.1.has)::(p.2.2,p.1.needs)::famB ps).Perm (fs++famB (ps++[p])):=by
 rw[AfT];refine List.Perm.append_left fs ?_;show ([(p.2.1,p.1.has),(p.2.2,p.1.needs)]++famB ps).Perm (famB ps++famB [p])
 exact List.perm_append_comm
theorem Fam.bsW {v:Value} {ps:List Bv} (h:Fam w B q (fs++famB ps)) (hrow:w.ownsRow B 118 3 v ps.length (rowsB ps)) (hz:∀p∈ps,p.1.nm.size<=maxLen):BsW w B v ps :=
 ⟨hrow,λp hp=>⟨h.own _ (List.mem_append_right _ (Ad2 hp).1),h.own _ (List.mem_append_right _ (Ad2 hp).2),hz p hp⟩⟩
end Go.Proofs.YtgecdacgmehmbaaGreatDoor
