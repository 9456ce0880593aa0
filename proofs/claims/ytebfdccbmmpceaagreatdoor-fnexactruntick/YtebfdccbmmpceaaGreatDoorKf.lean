/- Lists of one's own that lie apart from each other; where what an append answers lies. -/
import Derived.Test.YtebfdccbmmpceaaGreatDoorJ2
namespace Go.Proofs.YtebfdccbmmpceaaGreatDoor
open Go.RowKit
theorem F1 {B:Nat} {a b c:World} {base e size n:Nat} {v:Value} {xs:List Value} (h:Below B a b) (hz:B<=b.heap.size) (hown:b.ownsRow base e size v n xs) (hg:b.grownBy c v.ownBlock) (hk:B<=base):Below B a c :=
 {os:=hg.os.trans h.os,tape:=hg.tape.trans h.tape,output:=hg.output.trans h.output,size:=B1 h.size hg.size,block:=λi hi=>(hg.block i (A1 hi hz) (X8 hown (by omega))).trans (h.block i hi)}
theorem BsW.set {w:World} {base r j:Nat} {v u:Value} {ps:List Bv} (h:BsW w base v ps) (hr:r<base):BsW (w.setCell ⟨r,j,none⟩ u) base v ps :=
 ⟨E9 h.1 (E0 (E4 _ _) _) hr,λp hp=>⟨E9 (h.2 p hp).1 (E0 (E4 _ _) _) hr,E9 (h.2 p hp).2.1 (E0 (E4 _ _) _) hr,(h.2 p hp).2.2⟩⟩
theorem BsW.low {w:World} {base base':Nat} {v:Value} {ps:List Bv} (h:BsW w base v ps) (hb:base'<=base):BsW w base' v ps :=
 ⟨G4 h.1 hb,λp hp=>⟨G4 (h.2 p hp).1 hb,G4 (h.2 p hp).2.1 hb,(h.2 p hp).2.2⟩⟩
theorem F2 {w:World} {base e size n:Nat} {v:Value} {xs:List Value} (h:w.ownsRow base e size v n xs):∃a c,v=.slice a n c:=by
 rcases h.2 with⟨rfl,rfl⟩|⟨g,cap,_,rfl,_⟩
 ·exact⟨none,0,rfl⟩
 ·exact⟨_,_,rfl⟩
theorem J0:(Tryz.prog.info? 33).map (·.size)=some 2:=by kernel_rfl
def Ap (u v:Value):Prop:=∀g,u.ownBlock=some g->v.ownBlock≠some g
theorem Ap.symm {u v:Value} (h:Ap u v):Ap v u:=λg hg hu=>h g hu hg
def Where (w:World) (v v':Value):Prop:=∀g,v'.ownBlock=some g->v.ownBlock=some g∨w.heap.size<=g
structure Fam (w:World) (B:Nat) (q:Option Nat) (fs:List (Value×List ByteArray)):Prop where
 own:∀f∈fs,OwnT w B f.1 f.2
 ap:fs.Pairwise λf g=>Ap f.1 g.1
 av:∀f∈fs,∀g,f.1.ownBlock=some g->some g≠q
variable {w w':World} {B r:Nat} {q:Option Nat} {f g:Value×List ByteArray} {fs gs:List (Value×List ByteArray)}
theorem AeR (w:World) (B:Nat) (q:Option Nat):Fam w B q []:=⟨λf hf=>by simp at hf,List.Pairwise.nil,λf hf=>by simp at hf⟩
theorem Fam.keep (h:Fam w B q fs) (hk:∀f∈fs,OwnT w B f.1 f.2->OwnT w' B f.1 f.2):Fam w' B q fs:=⟨λf hf=>hk f hf (h.own f hf),h.ap,h.av⟩
theorem Fam.up (h:Fam w B q fs) (hb:Below w.heap.size w w'):Fam w' B q fs:=h.keep λ_ _ ho=>ho.up hb
theorem Fam.gr (h:Fam w B q fs) (hg:w.grownBy w' (some r)) (hr:r<B):Fam w' B q fs:=h.keep λ_ _ ho=>E9 ho hg hr
theorem Fam.set (h:Fam w B (some r) fs) (j:Nat) (u:Value):Fam (w.setCell ⟨r,j,none⟩ u) B (some r) fs :=
 h.keep λf hf ho=>E2 ho (E0 (E4 _ _) _) (h.av f hf)
theorem Fam.set2 (h:Fam w B q fs) (h2:Fam w B (some r) fs) (j:Nat) (u:Value):Fam (w.setCell ⟨r,j,none⟩ u) B q fs:=h.keep λf hf ho=>E2 ho (E0 (E4 _ _) _) (h2.av f hf)
theorem Fam.setLow (h:Fam w B q fs) (hr:r<B) (j:Nat) (u:Value):Fam (w.setCell ⟨r,j,none⟩ u) B q fs:=h.gr (E0 (E4 _ _) _) hr
theorem Fam.row {b2 n:Nat} {v:Value} {xs:List Value} (h:Fam w B q fs) (hrow:w.ownsRow b2 128 3 v n xs) (hg:w.grownBy w' v.ownBlock):Fam w' B q fs :=
 h.keep λ_ _ ho=>E2 ho hg (E5 ho hrow (by decide))
theorem Fam.perm (h:Fam w B q fs) (hp:fs.Perm gs):Fam w B q gs :=
 ⟨λf hf=>h.own f (hp.mem_iff.2 hf),(hp.pairwise_iff (λ{_ _} h=>h.symm)).1 h.ap,λf hf=>h.av f (hp.mem_iff.2 hf)⟩
theorem Fam.swap (h:Fam w B q (f::g::fs)):Fam w B q (g::f::fs):=h.perm (List.Perm.swap _ _ _)
theorem Fam.tail (h:Fam w B q (f::fs)):Fam w B q fs:=⟨λg hg=>h.own g (C8 _ hg),(List.pairwise_cons.1 h.ap).2,λg hg=>h.av g (C8 _ hg)⟩
theorem Fam.free (h:Fam w B q fs):Fam w B none fs:=⟨h.own,h.ap,λ_ _ _ _=>by simp⟩
theorem Fam.avoid (h:Fam w B q fs) (hr:w.heap.size<=r):Fam w B (some r) fs:=⟨h.own,h.ap,λf hf g hg e=>by
 have:=(World.ownsRow.lt (h.own f hf) g hg).2;have:g=r:=by simpa using e
 omega⟩
theorem Fam.low {B':Nat} (h:Fam w B q fs) (hb:B'<=B):Fam w B' q fs:=⟨λf hf=>G4 (h.own f hf) hb,h.ap,h.av⟩
theorem Fam.turn {a b c:Value×List ByteArray} (h:Fam w B q (a::b::c::fs)):Fam w B q (c::b::a::fs):=h.perm ((List.reverse_perm [c,b,a]).append_right fs)
theorem Fam.mk1 {u:Value} {ss:List ByteArray} (_h:Fam w B none []) (hu:OwnT w B u ss):Fam w B none [(u,ss)] :=
 ⟨λf hf=>by obtain rfl:f=(u,ss):=(by simpa using hf);exact hu,List.pairwise_singleton _ _,λf hf g hg=>by simp⟩
theorem AaI {r n:Nat} (h:r<n):∀k,some r=some k->k<n:=λk hk=>by cases hk;exact h
theorem Fam.new {n:Nat} {u:Value} {ss:List ByteArray} (h:Fam w B q fs) (h':Fam w' B q fs) (hu:OwnT w' n u ss) (hn:w.heap.size<=n) (hB:B<=n) (hq:∀k,q=some k->k<w.heap.size):Fam w' B q ((u,ss)::fs):=by
 refine⟨λf hf=>?_,List.pairwise_cons.2 ⟨λf hf g hg hg'=>?_,h.ap⟩,λf hf g hg e=>?_⟩
 ·rcases List.mem_cons.1 hf with rfl|hf
  ·exact G4 hu hB
  ·exact h'.own f hf
 ·have h1:=(World.ownsRow.lt hu g hg).1
  have h2:=(World.ownsRow.lt (h.own f hf) g hg').2;omega
 ·rcases List.mem_cons.1 hf with rfl|hf
  ·have h1:=(World.ownsRow.lt hu g hg).1
   have h2:=hq g e.symm;omega
  ·exact h.av f hf g hg e
theorem Fam.app {u u':Value} {ss ss':List ByteArray} (h:Fam w B q ((u,ss)::fs)) (hg:w.grownBy w' u.ownBlock) (hu:OwnT w' B u' ss') (hw:Where w u u') (hq:∀k,q=some k->k<w.heap.size):Fam w' B q ((u',ss')::fs):=by
 obtain⟨ha,hp⟩:=List.pairwise_cons.1 h.ap;have hk:∀f∈fs,Ap f.1 u:=λf hf=>(ha f hf).symm;refine⟨λf hf=>?_,List.pairwise_cons.2 ⟨λf hf g hg' hf'=>?_,hp⟩,λf hf g hg' e=>?_⟩
 ·rcases List.mem_cons.1 hf with rfl|hf
  ·exact hu
  ·exact E2 (h.own f (C8 _ hf)) hg λg hg' e=>hk f hf g hg' e.symm
 ·rcases hw g hg' with h1|h1
  ·exact hk f hf g hf' h1
  ·have h2:=(World.ownsRow.lt (h.own f (C8 _ hf)) g hf').2
   omega
 ·rcases List.mem_cons.1 hf with rfl|hf
  ·rcases hw g hg' with h1|h1
   ·exact h.av (u,ss) (List.mem_cons_self) g h1 e
   ·have h2:=hq g e.symm
    omega
  ·exact h.av f (C8 _ hf) g hg' e
def famB:List Bv->List (Value×List ByteArray)
 | []=>[]
 | p::r=>(p.2.1,p.1.has)::(p.2.2,p.1.needs)::famB r
theorem Agj:∀a b:List Bv,famB (a++b)=famB a++famB b
 | [],_=>rfl
 | p::r,b=>by simp[famB,Agj r b]
theorem AdK:∀{ps:List Bv} {p:Bv},p∈ps->(p.2.1,p.1.has)∈famB ps/\(p.2.2,p.1.needs)∈famB ps
 | q::r,p,h=>by
  rcases List.mem_cons.1 h with rfl|h
  ·exact⟨by simp[famB],by simp[famB]⟩
  ·have:=AdK h
   exact⟨by simp[famB,this.1],by simp[famB,this.2]⟩
theorem Afh (ps:List Bv) (p:Bv) (fs:List (Value×List ByteArray)):(fs++(p.2.1,p.1.has)::(p.2.2,p.1.needs)::famB ps).Perm (fs++famB (ps++[p])):=by
 rw[Agj];refine List.Perm.append_left fs ?_;show ([(p.2.1,p.1.has),(p.2.2,p.1.needs)]++famB ps).Perm (famB ps++famB [p])
 exact List.perm_append_comm
theorem Fam.bsW {v:Value} {ps:List Bv} (h:Fam w B q (fs++famB ps)) (hrow:w.ownsRow B 128 3 v ps.length (rowsB ps)) (hz:∀p∈ps,p.1.nm.size<=maxLen):BsW w B v ps :=
 ⟨hrow,λp hp=>⟨h.own _ (List.mem_append_right _ (AdK hp).1),h.own _ (List.mem_append_right _ (AdK hp).2),hz p hp⟩⟩
end Go.Proofs.YtebfdccbmmpceaaGreatDoor
