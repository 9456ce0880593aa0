/- Lists of one's own that lie apart from each other; where what an append answers lies. -/
import Derived.Test.YtmfjakieahkacaaGreatDoorJ8
namespace Go.Proofs.YtmfjakieahkacaaGreatDoor
open Go.RowKit
theorem SX{B:Nat}{a b c:World}{base e size n:Nat}{v:Value}{xs:List Value}(h:Below B a b)(hz:B<=b.heap.size)(hown:b.ownsRow base e size v n xs)(hg:b.grownBy c v.ownBlock)(hk:B<=base):Below B a c :=
 {os:=hg.os.trans h.os,tape:=hg.tape.trans h.tape,output:=hg.output.trans h.output,size:=B3 h.size hg.size,block:=λi hi=>(hg.block i (A1 hi hz) (R3 hown (by omega))).trans (h.block i hi)}
theorem Bp.set{w:World}{base r j:Nat}{v u:Value}{ps:List Bv}(h:Bp w base v ps)(hr:r<base):Bp (w.setCell ⟨r,j,none⟩ u) base v ps :=
 ⟨G9 h.1 (E3 (F7 _ _) _) hr,λp hp=>⟨G9 (h.2 p hp).1 (E3 (F7 _ _) _) hr,G9 (h.2 p hp).2.1 (E3 (F7 _ _) _) hr,(h.2 p hp).2.2⟩⟩
theorem Bp.low{w:World}{base base':Nat}{v:Value}{ps:List Bv}(h:Bp w base v ps)(hb:base'<=base):Bp w base' v ps :=
 ⟨N3 h.1 hb,λp hp=>⟨N3 (h.2 p hp).1 hb,N3 (h.2 p hp).2.1 hb,(h.2 p hp).2.2⟩⟩
theorem K3{w:World}{base e size n:Nat}{v:Value}{xs:List Value}(h:w.ownsRow base e size v n xs):∃a c,v=.slice a n c:=by
 rcases h.2 with⟨rfl,rfl⟩|⟨g,cap,_,rfl,_⟩
 ·exact⟨none,0,rfl⟩
 ·exact⟨_,_,rfl⟩
theorem L9:(Tryz.prog.info? 26).map (·.size)=some 2:=by kernel_rfl
def Ap(u v:Value):Prop:=∀g,u.ownBlock=some g->v.ownBlock≠some g
theorem Ap.symm{u v:Value}(h:Ap u v):Ap v u:=λg hg hu=>h g hu hg
def DW(w:World)(v v':Value):Prop:=∀g,v'.ownBlock=some g->v.ownBlock=some g∨w.heap.size<=g
theorem IP{P:Program}{w:World}(base:Nat)(t ty e:TypeId)(i:TypeInfo)(z:Value)(size bytes:Nat)(ht:P.underlying t=some (.slice e))(hi:P.info? e=some i)(hz:i.zero=some z)
  (hsize:i.size=size) (hby:i.bytes=bytes) (v:Value) (n:Nat) (xs:List Value) (hown:w.ownsRow base e size v n xs)
  (a:Addr) (m c:Nat) (news:List Value) (hl:news.length=m*size) (hnews:∀j u,news[j]?=some u->w.cell? (a.add j)=some u) (h1:∀u∈news,u.oneCell'=true)
  (hm:0<m) (h63:n+m<=maxLen) (hbytes:(n+m)*bytes<=140737488355328) {v':Value} {w':World}
  (hr:(Builtin.append_ #[t,t] ty #[v,.slice (some a) m c]).run P w=.ok v' w'):DW w v v':=by
 subst hsize;subst hby;have hsmall:n+m<=9223372036854775807:=by simp only[maxLen] at h63;omega
 rcases hown.2 with⟨rfl,rfl⟩|⟨g,cap,cur,rfl,-,hg,hnc,hcm,hcs,-⟩
 ·have hq:=run_append_nil (P:=P) w t ty e i z ht hi hz a m c news hl hnews (by omega) (by omega) (by have hb:=hbytes;simp only[Nat.zero_add] at hb;omega);rw[hq] at hr;injection hr with e1 e2
  subst e1;exact λg hg=>.inr (by simp[Value.ownBlock] at hg;omega)
 ·by_cases hroom:n+m<=cap
  ·have hfit:n*i.size+news.length<=cur.size:=by rw[hl,hcs,← Nat.add_mul];exact Nat.mul_le_mul_right _ hroom
   have hq:=run_append_room (P:=P) w t ty e i ht hi g n cap cur hg a m c news hl hnews h1 hroom hfit;rw[hq] at hr;injection hr with e1 e2
   subst e1;exact λk hk=>.inl hk
  ·have hq:=run_append_grow (P:=P) w t ty e i z ht hi hz ⟨g,0,none⟩ n cap xs hown.1 (hown.cells (g:=g) rfl) a m c news hl hnews (by omega) (by omega) (growslice_fits (by omega) hbytes);rw[hq] at hr;injection hr with e1 e2
   subst e1;exact λg hg=>.inr (by simp[Value.ownBlock] at hg;omega)
theorem Bl{P:Program}{ops:Array Oper}{o:Oper}{a:Act}{w:World}{K:Act->World->Prop}{Q:Exit->Act->World->Prop}{E:Prop}
  (hg:o.guard=none) (s x:Operand) (t:TypeId) (hop:o.op=Op.call {callee:=Callee.builtin Builtin.append,args:=#[s,x],argTypes:=#[t,t]})
  (base:Nat) (e:TypeId) (i:TypeInfo) (z:Value) (size bytes:Nat) (ht:P.underlying t=some (.slice e)) (hi:P.info? e=some i) (hz:i.zero=some z)
  (hsize:i.size=size) (hby:i.bytes=bytes) (hzs:z.cells.size=size) (hsz:0<size)
  (v:Value) (n:Nat) (xs:List Value) (hs:a.eval s=v) (hown:w.ownsRow base e size v n xs)
  (ad:Addr) (m c:Nat) (news:List Value) (hx:a.eval x=.slice (some ad) m c) (hl:news.length=m*size) (hnews:∀j u,news[j]?=some u->w.cell? (ad.add j)=some u) (h1:∀u∈news,u.oneCell'=true)
  (hm:0<m) (h63:n+m<=maxLen) (hbytes:(n+m)*bytes<=140737488355328) (hbase:base<=w.heap.size)
  (hK:∀v' w',w'.ownsRow base e size v' (n+m) (xs++news)->w.grownBy w' v.ownBlock->DW w v v'->K (a.put o.dst v') w') :
  if Region.wanted o (yielded ops a.tmps)=true then Oper.wp P o a w K Q else E:=by
 have hw:Region.wanted o (yielded ops a.tmps)=true:=by simp[Region.wanted,hg]
 rw[if_pos hw];obtain⟨v',w',hr,h2,h3,_⟩:=run_append_own (P:=P) w base t o.type e i z size bytes ht hi hz hsize hby hzs hsz v n xs hown ad m c news hl hnews h1 h63 hbytes hbase;have h4:=IP base t o.type e i z size bytes ht hi hz hsize hby v n xs hown ad m c news hl hnews h1 hm h63 hbytes hr;unfold Oper.wp;simp[execOp,hop,resolve,invoke,builtin,hs,hx,hr,Result.andThen];exact hK v' w' h2 h3 h4
theorem Kn{P:Program}(w:World){ops:Array Oper}{rest:List Oper}{o:Oper}{a:Act}{Q:Exit->Act->World->Prop}(hgd:o.guard=none)(s x:Operand)(t:TypeId)
  (hop:o.op=Op.call {callee:=Callee.builtin Builtin.append,args:=#[s,x],argTypes:=#[t,t]})
  (base:Nat) (e:TypeId) (i:TypeInfo) (z:Value) (size bytes:Nat) (ht:P.underlying t=some (.slice e)) (hi:P.info? e=some i) (hz:i.zero=some z)
  (hsize:i.size=size) (hby:i.bytes=bytes) (hzs:z.cells.size=size) (hsz:0<size)
  (v:Value) (n:Nat) (xs:List Value) (hs:a.eval s=v) (hown:w.ownsRow base e size v n xs)
  (ad:Addr) (m c:Nat) (news:List Value) (hx:a.eval x=.slice (some ad) m c) (hl:news.length=m*size) (hnews:∀j u,news[j]?=some u->w.cell? (ad.add j)=some u) (h1:∀u∈news,u.oneCell'=true)
  (hm:0<m) (h63:n+m<=maxLen) (hbytes:(n+m)*bytes<=140737488355328) (hbase:base<=w.heap.size)
  (h:∀v' w',w'.ownsRow base e size v' (n+m) (xs++news)->w.grownBy w' v.ownBlock->DW w v v'->wpList P ops Q rest (a.put o.dst v') w'):wpList P ops Q (o::rest) a w:=by
 refine wpList_plain hgd λK hK=>?_;obtain⟨v',w',hr,h2,h3,_⟩:=run_append_own (P:=P) w base t o.type e i z size bytes ht hi hz hsize hby hzs hsz v n xs hown ad m c news hl hnews h1 h63 hbytes hbase;have h4:=IP base t o.type e i z size bytes ht hi hz hsize hby v n xs hown ad m c news hl hnews h1 hm h63 hbytes hr;unfold Oper.wp execOp;simp only[hop,resolve,invoke,builtin,Sem.run_bind,Sem.run_pure,Result.andThen_ok,List.map_toArray,List.map_cons,List.map_nil,hs,hx,hr];exact hK _ _ (h v' w' h2 h3 h4)
structure M1 (w:World) (B:Nat) (q:Option Nat) (fs:List (Value×List ByteArray)):Prop where
 own:∀f∈fs,E5 w B f.1 f.2
 ap:fs.Pairwise λf g=>Ap f.1 g.1
 av:∀f∈fs,∀g,f.1.ownBlock=some g->some g≠q
variable {w w':World} {B r:Nat} {q:Option Nat} {f g:Value×List ByteArray} {fs gs:List (Value×List ByteArray)}
theorem Jt(w:World)(B:Nat)(q:Option Nat):M1 w B q []:=⟨λf hf=>by simp at hf,List.Pairwise.nil,λf hf=>by simp at hf⟩
theorem M1.keep(h:M1 w B q fs)(hk:∀f∈fs,E5 w B f.1 f.2->E5 w' B f.1 f.2):M1 w' B q fs:=⟨λf hf=>hk f hf (h.own f hf),h.ap,h.av⟩
theorem M1.up(h:M1 w B q fs)(hb:Below w.heap.size w w'):M1 w' B q fs:=h.keep λ_ _ ho=>ho.up hb
theorem M1.gr(h:M1 w B q fs)(hg:w.grownBy w' (some r))(hr:r<B):M1 w' B q fs:=h.keep λ_ _ ho=>G9 ho hg hr
theorem M1.set(h:M1 w B (some r) fs)(j:Nat)(u:Value):M1 (w.setCell ⟨r,j,none⟩ u) B (some r) fs :=
 h.keep λf hf ho=>S9 ho (E3 (F7 _ _) _) (h.av f hf)
theorem M1.set2(h:M1 w B q fs)(h2:M1 w B (some r) fs)(j:Nat)(u:Value):M1 (w.setCell ⟨r,j,none⟩ u) B q fs:=h.keep λf hf ho=>S9 ho (E3 (F7 _ _) _) (h2.av f hf)
theorem M1.setLow(h:M1 w B q fs)(hr:r<B)(j:Nat)(u:Value):M1 (w.setCell ⟨r,j,none⟩ u) B q fs:=h.gr (E3 (F7 _ _) _) hr
theorem M1.row{b2 n:Nat}{v:Value}{xs:List Value}(h:M1 w B q fs)(hrow:w.ownsRow b2 49 3 v n xs)(hg:w.grownBy w' v.ownBlock):M1 w' B q fs :=
 h.keep λ_ _ ho=>S9 ho hg (Be ho hrow (by decide))
theorem M1.perm(h:M1 w B q fs)(hp:fs.Perm gs):M1 w B q gs :=
 ⟨λf hf=>h.own f (hp.mem_iff.2 hf),(hp.pairwise_iff (λ{_ _} h=>h.symm)).1 h.ap,λf hf=>h.av f (hp.mem_iff.2 hf)⟩
theorem M1.swap(h:M1 w B q (f::g::fs)):M1 w B q (g::f::fs):=h.perm (List.Perm.swap _ _ _)
theorem M1.tail(h:M1 w B q (f::fs)):M1 w B q fs:=⟨λg hg=>h.own g (C5 _ hg),(List.pairwise_cons.1 h.ap).2,λg hg=>h.av g (C5 _ hg)⟩
theorem M1.free(h:M1 w B q fs):M1 w B none fs:=⟨h.own,h.ap,λ_ _ _ _=>by simp⟩
theorem M1.avoid(h:M1 w B q fs)(hr:w.heap.size<=r):M1 w B (some r) fs:=⟨h.own,h.ap,λf hf g hg e=>by
 have:=(World.ownsRow.lt (h.own f hf) g hg).2;have:g=r:=by simpa using e
 omega⟩
theorem M1.low{B':Nat}(h:M1 w B q fs)(hb:B'<=B):M1 w B' q fs:=⟨λf hf=>N3 (h.own f hf) hb,h.ap,h.av⟩
theorem M1.turn{a b c:Value×List ByteArray}(h:M1 w B q (a::b::c::fs)):M1 w B q (c::b::a::fs):=h.perm ((List.reverse_perm [c,b,a]).append_right fs)
theorem M1.mk1{u:Value}{ss:List ByteArray}(_h:M1 w B none [])(hu:E5 w B u ss):M1 w B none [(u,ss)] :=
 ⟨λf hf=>by obtain rfl:f=(u,ss):=(by simpa using hf);exact hu,List.pairwise_singleton _ _,λf hf g hg=>by simp⟩
theorem Ex{r n:Nat}(h:r<n):∀k,some r=some k->k<n:=λk hk=>by cases hk;exact h
theorem M1.new{n:Nat}{u:Value}{ss:List ByteArray}(h:M1 w B q fs)(h':M1 w' B q fs)(hu:E5 w' n u ss)(hn:w.heap.size<=n)(hB:B<=n)(hq:∀k,q=some k->k<w.heap.size):M1 w' B q ((u,ss)::fs):=by
 refine⟨λf hf=>?_,List.pairwise_cons.2 ⟨λf hf g hg hg'=>?_,h.ap⟩,λf hf g hg e=>?_⟩
 ·rcases List.mem_cons.1 hf with rfl|hf
  ·exact N3 hu hB
  ·exact h'.own f hf
 ·have h1:=(World.ownsRow.lt hu g hg).1;have h2:=(World.ownsRow.lt (h.own f hf) g hg').2;omega
 ·rcases List.mem_cons.1 hf with rfl|hf
  ·have h1:=(World.ownsRow.lt hu g hg).1;have h2:=hq g e.symm;omega
  ·exact h.av f hf g hg e
theorem M1.nil_new(h:M1 w B q fs):M1 w B q ((.slice none 0 0,[])::fs):=by
 refine⟨λf hf=>?_,List.pairwise_cons.2 ⟨λf hf g hg hg'=>by simp[Value.ownBlock] at hg,h.ap⟩,λf hf g hg e=>?_⟩
 ·rcases List.mem_cons.1 hf with rfl|hf
  ·exact B9 _ _ _ _
  ·exact h.own f hf
 ·rcases List.mem_cons.1 hf with rfl|hf
  ·simp[Value.ownBlock] at hg
  ·exact h.av f hf g hg e
theorem M1.app{u u':Value}{ss ss':List ByteArray}(h:M1 w B q ((u,ss)::fs))(hg:w.grownBy w' u.ownBlock)(hu:E5 w' B u' ss')(hw:DW w u u')(hq:∀k,q=some k->k<w.heap.size):M1 w' B q ((u',ss')::fs):=by
 obtain⟨ha,hp⟩:=List.pairwise_cons.1 h.ap;have hk:∀f∈fs,Ap f.1 u:=λf hf=>(ha f hf).symm;refine⟨λf hf=>?_,List.pairwise_cons.2 ⟨λf hf g hg' hf'=>?_,hp⟩,λf hf g hg' e=>?_⟩
 ·rcases List.mem_cons.1 hf with rfl|hf
  ·exact hu
  ·exact S9 (h.own f (C5 _ hf)) hg λg hg' e=>hk f hf g hg' e.symm
 ·rcases hw g hg' with h1|h1
  ·exact hk f hf g hf' h1
  ·have h2:=(World.ownsRow.lt (h.own f (C5 _ hf)) g hf').2;omega
 ·rcases List.mem_cons.1 hf with rfl|hf
  ·rcases hw g hg' with h1|h1
   ·exact h.av (u,ss) (List.mem_cons_self) g h1 e
   ·have h2:=hq g e.symm;omega
  ·exact h.av f (C5 _ hf) g hg' e
def N4:List Bv->List (Value×List ByteArray)
 | []=>[]
 | p::r=>(p.2.1,p.1.has)::(p.2.2,p.1.nd)::N4 r
theorem GX:∀a b:List Bv,N4 (a++b)=N4 a++N4 b
 | [],_=>rfl
 | p::r,b=>by simp[N4,GX r b]
theorem CZ:∀{ps:List Bv} {p:Bv},p∈ps->(p.2.1,p.1.has)∈N4 ps/\(p.2.2,p.1.nd)∈N4 ps
 | q::r,p,h=>by
  rcases List.mem_cons.1 h with rfl|h
  ·exact⟨by simp[N4],by simp[N4]⟩
  ·have:=CZ h;exact⟨by simp[N4,this.1],by simp[N4,this.2]⟩
theorem FY(ps:List Bv)(p:Bv)(fs:List (Value×List ByteArray)):(fs++(p.2.1,p.1.has)::(p.2.2,p.1.nd)::N4 ps).Perm (fs++N4 (ps++[p])):=by
 rw[GX];refine List.Perm.append_left fs ?_;show ([(p.2.1,p.1.has),(p.2.2,p.1.nd)]++N4 ps).Perm (N4 ps++N4 [p])
 exact List.perm_append_comm
theorem M1.bsW{v:Value}{ps:List Bv}(h:M1 w B q (fs++N4 ps))(hrow:w.ownsRow B 49 3 v ps.length (I8 ps))(hz:∀p∈ps,p.1.nm.size<=maxLen):Bp w B v ps :=
 ⟨hrow,λp hp=>⟨h.own _ (List.mem_append_right _ (CZ hp).1),h.own _ (List.mem_append_right _ (CZ hp).2),hz p hp⟩⟩
end Go.Proofs.YtmfjakieahkacaaGreatDoor
