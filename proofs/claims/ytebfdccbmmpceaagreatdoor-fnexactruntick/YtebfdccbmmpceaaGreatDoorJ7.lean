/- The program's chapter 13: a batch taken out of a row. -/
import Derived.Test.YtebfdccbmmpceaaGreatDoorKr3
import Derived.Test.YtebfdccbmmpceaaGreatDoorXr
import Derived.Test.YtebfdccbmmpceaaGreatDoorJ0
import Derived.Test.YtebfdccbmmpceaaGreatDoorJ4
import Derived.Test.YtebfdccbmmpceaaGreatDoorJ2
set_option maxRecDepth 20000
set_option maxHeartbeats 2000000
namespace Go.Proofs.YtebfdccbmmpceaaGreatDoor
open Go.RowKit
theorem Aag {P:Program} {ops:Array Oper} {o:Oper} {a:Act} {w:World} {K:Act->World->Prop} {Q:Exit->Act->World->Prop} {E:Prop}
  (hw:Region.wanted o (yielded ops a.tmps)=true) (s x:Operand) (t u:TypeId) (hop:o.op=Op.call {callee:=Callee.builtin Builtin.append,args:=#[s,x],argTypes:=#[t,u]})
  (v xv v':Value) (w':World) (hs:a.eval s=v) (hx:a.eval x=xv) (hr:(Builtin.append_ #[t,u] o.type #[v,xv]).run P w=.ok v' w') (hK:K (a.put o.dst v') w') :
  if Region.wanted o (yielded ops a.tmps)=true then Oper.wp P o a w K Q else E:=by
 rw[if_pos hw];unfold Oper.wp;simp[execOp,hop,resolve,invoke,builtin,hs,hx,hr,Result.andThen];exact hK
theorem Y8 {P:Program} (w:World) {ops:Array Oper} {rest:List Oper} {o:Oper} {ac:Act} {Q:Exit->Act->World->Prop} (hg:o.guard=none) (x:Operand) (t:TypeId) (hop:o.op=.call {callee:=.builtin .clear,args:=#[x],argTypes:=#[t]})
  (xv v':Value) (w':World) (hx:ac.eval x=xv) (hr:(Builtin.clear_ #[t] o.type #[xv]).run P w=.ok v' w') (h:wpList P ops Q rest (ac.put o.dst v') w'):wpList P ops Q (o::rest) ac w:=by
 refine wpList_plain hg λK hK=>?_;unfold Oper.wp;simp[execOp,hop,resolve,invoke,builtin,hx,hr,Result.andThen];exact hK _ _ h
theorem AdM {w:World} {base e size n m c g:Nat} {xs:List Value} (h:w.ownsRow base e size (.slice (some ⟨g,0,none⟩) n c) n xs) (hm:m<=n):w.ownsRow base e size (.slice (some ⟨g,0,none⟩) m c) m (xs.take (m*size)):=by
 refine⟨?_,?_⟩
 ·rw[B7,h.1]
  exact Nat.min_eq_left (Nat.mul_le_mul_right _ hm)
 ·rcases h.2 with⟨h0,_⟩|⟨g',cap,cur,h',h1,h2,h3,h4,h5,h6⟩
  ·simp at h0
  ·obtain⟨e1,-,rfl⟩:=Value.slice.inj h'
   obtain rfl:g=g':=by simpa using e1
   refine .inr ⟨g,c,cur,rfl,h1,h2,by omega,h4,h5,?_⟩;rw[← h6,List.take_take,Nat.min_eq_left (Nat.mul_le_mul_right _ hm)]
theorem AdN {w:World} {base e size n c g:Nat} {xs:List Value} (h:w.ownsRow base e size (.slice (some ⟨g,0,none⟩) n c) n xs) (j:Nat) (hj:j<c*size):(∃u,w.cell? ⟨g,j,none⟩=some u)/\w.frozen? ⟨g,j,none⟩=false:=by
 refine⟨?_,h.frozenAt j⟩;rcases h.2 with⟨h0,_⟩|⟨g',cap,cur,h',h1,h2,h3,h4,h5,h6⟩
 ·simp at h0
 ·obtain⟨e1,-,rfl⟩:=Value.slice.inj h'
  obtain rfl:g=g':=by simpa using e1
  rw[cell_of_row w g j cur e (0,0) h2];exact⟨cur[j]'(by omega),Array.getElem?_eq_getElem (by omega)⟩
theorem Aje {w:World} {base n c g:Nat} {xs:List Value} (h:w.ownsRow base 128 3 (.slice (some ⟨g,0,none⟩) n c) n xs) (hn:n<c) (cc:Nat) (ty:TypeId) :
  ∃w',(Builtin.clear_ #[31] ty #[.slice (some ⟨g,n*3,none⟩) 1 cc]).run Tryz.prog w=.ok (.tuple #[]) w'/\w'.ownsRow base 128 3 (.slice (some ⟨g,0,none⟩) n c) n xs/\w.grownBy w' (some g):=by
 have st:∀(W:World),W.ownsRow base 128 3 (.slice (some ⟨g,0,none⟩) n c) n xs->∀(j:Nat) (u:Value),u.oneCell'=true->j<3->(store ⟨g,n*3+j,none⟩ u).run Tryz.prog W=.ok () (W.setCell ⟨g,n*3+j,none⟩ u)/\(W.setCell ⟨g,n*3+j,none⟩ u).ownsRow base 128 3 (.slice (some ⟨g,0,none⟩) n c) n xs/\W.grownBy (W.setCell ⟨g,n*3+j,none⟩ u) (some g):=λW hW j u hu hj=>by
  obtain⟨⟨old,ho⟩,hf⟩:=AdN hW (n*3+j) (by omega);obtain⟨s1,s2⟩:=B3 hW (n*3+j) u;have hl:=hW.1;rw[List.set_eq_of_length_le (by omega)] at s1;refine⟨?_,s1,s2⟩;rw[run_store Tryz.prog W ⟨g,n*3+j,none⟩ _ _ hu];simp[ho,hf]
 obtain⟨r0,o0,g0⟩:=st w h 0 (.string ⟨#[]⟩) rfl (by omega);obtain⟨r1,o1,g1⟩:=st _ o0 1 (.slice none 0 0) rfl (by omega);obtain⟨r2,o2,g2⟩:=st _ o1 2 (.slice none 0 0) rfl (by omega);refine⟨_,?_,o2,E3 g0 (E3 g1 g2)⟩
 have hs:(storeCells ⟨g,n*3,none⟩ [.string ⟨#[]⟩,.slice none 0 0,.slice none 0 0]).run Tryz.prog w=.ok () (((w.setCell ⟨g,n*3+0,none⟩ (.string ⟨#[]⟩)).setCell ⟨g,n*3+1,none⟩ (.slice none 0 0)).setCell ⟨g,n*3+2,none⟩ (.slice none 0 0)):=by
  simp only[Nat.add_zero] at r0 r1 r2 ⊢
  simp[storeCells,Addr.add,r0,r1,r2,Result.andThen]
 simp[Builtin.clear_,run_underlying Tryz.underlying31,Builtin.zeroCells,Value.cells,Result.andThen];have hm:List.map (λi=>([Value.string ⟨#[]⟩,Value.slice none 0 0,Value.slice none 0 0][i % 3]?).getD default) (List.range 3)=[.string ⟨#[]⟩,.slice none 0 0,.slice none 0 0]:=by simp[List.range,List.range.loop]
 rw[hm,hs];simp
theorem Ahz (ps:List Bv) (k g c base:Nat) (w:World) (hk:k<ps.length) (hn:ps.length<=100) (hrow:w.ownsRow base 128 3 (.slice (some ⟨g,0,none⟩) ps.length c) ps.length (rowsB ps)) (hone:∀u∈rowsB ps,u.oneCell'=true) (ty:TypeId) :
  ∃W w4,(Builtin.append_ #[31,31] 31 #[.slice (some ⟨g,0,none⟩) k c,.slice (if c=k+1 then some (⟨g,0,none⟩:Addr) else some ⟨g,(k+1)*3,none⟩) (ps.length-(k+1)) (c-(k+1))]).run Tryz.prog w=.ok (.slice (some ⟨g,0,none⟩) (ps.length-1) c) W/\
   (Builtin.clear_ #[31] ty #[.slice (some ⟨g,(ps.length-1)*3,none⟩) 1 (c-(ps.length-1))]).run Tryz.prog W=.ok (.tuple #[]) w4/\w4.ownsRow base 128 3 (.slice (some ⟨g,0,none⟩) (ps.length-1) c) (ps.length-1) (rowsB (ps.take k++ps.drop (k+1)))/\w.grownBy W (some g)/\w.grownBy w4 (some g)/\ps.length<=c/\c<=9223372036854775807:=by
 obtain⟨ii,hi,iz0,iz1,iz2⟩:=info_parts Aat;obtain⟨hc,hcm⟩:=Y7 hrow
 obtain⟨cur,hcur,hcs⟩:∃cur,w.heap[g]?=some (.cells cur 128 (0,0))/\cur.size=c*3:=by
  rcases hrow.2 with⟨h0,_⟩|⟨g',cap,cur,h',h1,h2,h3,h4,h5,h6⟩
  ·simp at h0
  ·obtain⟨e1,-,rfl⟩:=Value.slice.inj h'
   obtain rfl:g=g':=by simpa using e1
   exact⟨cur,h2,h5⟩
 have hrow1:=AdM hrow (Nat.le_of_lt hk);rw[Ajd ps k (by omega)] at hrow1
 obtain⟨o2,ho2,hq2⟩:∃o2:Nat,(if c=k+1 then some (⟨g,0,none⟩:Addr) else some ⟨g,(k+1)*3,none⟩)=some ⟨g,o2,none⟩/\(ps.length-(k+1)≠0->o2=(k+1)*3):=by
  by_cases h7:c=k+1
  ·exact⟨0,by rw[if_pos h7],λh=>by omega⟩
  ·exact⟨(k+1)*3,by rw[if_neg h7],λ_=>rfl⟩
 have hld:(rowsB (ps.drop (k+1))).length=(ps.length-(k+1))*3:=by rw[R3,A8]
 have hsrc:∀(j:Nat) (u:Value),(rowsB (ps.drop (k+1)))[j]?=some u->w.cell? ((⟨g,o2,none⟩:Addr).add j)=some u:=λj u hu=>by
  have hj:=(A2.1 hu).1;rw[hq2 (by omega)];exact Aci hrow (k+1) (ps.drop (k+1)) (Ai7 ps (k+1)) j u hu
 have hone2:∀u∈rowsB (ps.drop (k+1)),u.oneCell'=true:=λu hu=>hone u (by
  rw[← List.take_append_drop (k+1) ps,Aaf];exact List.mem_append_right _ hu)
 have hrm:=run_append_room (P:=Tryz.prog) w 31 31 128 ii Tryz.underlying31 hi g k c cur hcur ⟨g,o2,none⟩ (ps.length-(k+1)) (c-(k+1)) (rowsB (ps.drop (k+1))) (by rw[iz1];exact hld) hsrc hone2 (by omega) (by rw[iz1,hld,hcs];omega);obtain⟨v3,w3,hr3,hown3,hg3,-⟩:=run_append_own (P:=Tryz.prog) w base 31 31 128 ii _ 3 64 Tryz.underlying31 hi iz0 iz1 iz2 rfl (by decide) _ k _ hrow1 ⟨g,o2,none⟩ (ps.length-(k+1)) (c-(k+1)) (rowsB (ps.drop (k+1))) hld hsrc hone2 (by unfold maxLen;omega) (by omega) (by have:=(hrow.lt g rfl);omega)
 obtain⟨rfl,rfl⟩:v3=_/\w3=_:=by
  rw[hrm] at hr3;injection hr3 with e1 e2
  exact⟨e1.symm,e2.symm⟩
 rw[← Aaf] at hown3;have hlen:k+(ps.length-(k+1))=ps.length-1:=by omega
 rw[hlen] at hown3 hrm;generalize w.setRow g _=W at *;obtain⟨w4,hr4,hown4,hg4⟩:=Aje hown3 (by omega) (c-(ps.length-1)) ty;rw[ho2];exact⟨W,w4,hrm,hr4,hown4,hg3,E3 hg3 hg4,by omega,by unfold maxLen at hcm;omega⟩
theorem Ajf (ps:List Bv) (k g c base:Nat) (w:World) (hk:k<ps.length) (hn:ps.length<=100) (hrow:w.ownsRow base 128 3 (.slice (some ⟨g,0,none⟩) ps.length c) ps.length (rowsB ps)) (hone:∀u∈rowsB ps,u.oneCell'=true) :
  Calls Tryz.prog 208 #[.slice (some ⟨g,0,none⟩) ps.length c,.int .i64 k,.int .i64 ((k:Int)+1)] w
   λe w'=>e=.returned (.slice (some ⟨g,0,none⟩) (ps.length-1) c)/\w'.ownsRow base 128 3 (.slice (some ⟨g,0,none⟩) (ps.length-1) c) (ps.length-1) (rowsB (ps.take k++ps.drop (k+1)))/\w.grownBy w' (some g):=by
 obtain⟨W,w4,hr3,hr4,hown4,hG3,hG,hc,hcm⟩:=Ahz ps k g c base w.drew hk hn hrow hone 0;replace hG:w.grownBy w4 (some g):=E3 (U9 (E4 w _)) hG;go_enter Tryz.func208,Tryz.ntmps208
 go_wp2_with fail
 have hS1:Below 0 w w.drew:=(A4 _ _).drew;have hS2:Below 0 w W:=F1 hS1 (Nat.zero_le _) (b:=w.drew) hrow hG3 (Nat.zero_le _);have hpc:k<=c:=by omega
 have hp1:k+1<=ps.length:=hk;have hw2:(k:Int)+1<=(ps.length:Int):=by omega
 have hw3:0<=(k:Int)+1:=by omega
 have hw4:¬(ps.length:Int)<(k:Int)+1:=by omega
 refine F5 99 (λw'=>Below 0 w w') (by kernel_rfl) ?_;refine G3 (i:=0) (v:=?_) rfl (by kernel_rfl) (by kernel_rfl) (by kernel_rfl) (by kernel_rfl) (λ_ _ _ h=>h) (by kernel_rfl) hS1 ?_ ?_;rotate_left;focus (intro w hSw;(try dsimp only at hSw);go_simp;try with_reducible rfl);(try simp only[Act.put,List.setIfInBounds_toArray,List.set_cons_zero,List.set_cons_succ])
 refine G3 (i:=1) (v:=?_) rfl (by kernel_rfl) (by kernel_rfl) (by kernel_rfl) (by kernel_rfl) (λ_ _ _ h=>h) (by kernel_rfl) hS1 ?_ ?_;rotate_left;focus (intro w hSw;(try dsimp only at hSw);go_simp;try with_reducible rfl);(try simp only[Act.put,List.setIfInBounds_toArray,List.set_cons_zero,List.set_cons_succ])
 refine G3 (i:=2) (v:=?_) rfl (by kernel_rfl) (by kernel_rfl) (by kernel_rfl) (by kernel_rfl) (λ_ _ _ h=>h) (by kernel_rfl) hS1 ?_ ?_;rotate_left;focus (intro w hSw;(try dsimp only at hSw);go_simp;try with_reducible rfl);(try simp only[Act.put,List.setIfInBounds_toArray,List.set_cons_zero,List.set_cons_succ])
 refine G3 (i:=3) (v:=?_) rfl (by kernel_rfl) (by kernel_rfl) (by kernel_rfl) (by kernel_rfl) (λ_ _ _ h=>h) (by kernel_rfl) hS1 ?_ ?_;rotate_left;focus (intro w hSw;(try dsimp only at hSw);go_simp;try with_reducible rfl);(try simp only[Act.put,List.setIfInBounds_toArray,List.set_cons_zero,List.set_cons_succ])
 refine G3 (i:=4) (v:=?_) rfl (by kernel_rfl) (by kernel_rfl) (by kernel_rfl) (by kernel_rfl) (λ_ _ _ h=>h) (by kernel_rfl) hS1 ?_ ?_;rotate_left;focus (intro w hSw;(try dsimp only at hSw);go_simp;try with_reducible rfl);(try simp only[Act.put,List.setIfInBounds_toArray,List.set_cons_zero,List.set_cons_succ])
 refine G3 (i:=5) (v:=?_) rfl (by kernel_rfl) (by kernel_rfl) (by kernel_rfl) (by kernel_rfl) (λ_ _ _ h=>h) (by kernel_rfl) hS1 ?_ ?_;rotate_left;focus (intro w hSw;(try dsimp only at hSw);go_simp;try with_reducible rfl);(try simp only[Act.put,List.setIfInBounds_toArray,List.set_cons_zero,List.set_cons_succ])
 refine D8 (i:=6) (by kernel_rfl) rfl (λK hK=>?_);refine Aag rfl _ _ _ _ rfl _ _ _ _ rfl rfl hr3 ?_;refine hK.out _ _ (λ_=>hS2) ?_;clear hK K;(try simp only[Act.put,List.setIfInBounds_toArray]);refine D8 (i:=7) (by kernel_rfl) rfl (λK hK=>?_);go_simp
 refine hK.out _ _ (λ_=>hS2) ?_;clear hK K;refine F0 (by kernel_rfl) ?_ _;have hm1:ps.length-1<ps.length:=by omega
 have hm2:ps.length-1<=ps.length:=by omega
 have hm3:ps.length-(ps.length-1)=1:=by omega
 have hm4:¬c=ps.length-1:=by omega
 have hm5:((ps.length-1:Nat):Int)<=(ps.length:Int):=by omega
 go_wp2_with (at_builtin;refine Y8 _ rfl _ _ rfl _ _ _ rfl hr4 ?_)
 all_goals
  go_ret
  first
   | exact⟨rfl,hown4,hG⟩
   | (subst h;exact⟨rfl,hown4,hG⟩)
def lessB (a b:ByteArray):Bool:=Op.bytesLess a.toList b.toList
def sameB (a b:ByteArray):Bool:=a.toList==b.toList
def insL:List ByteArray->ByteArray->List ByteArray
 | [],x=>[x]
 | y::r,x=>if lessB y x=true then y::insL r x else if sameB y x=true then y::r else x::y::r
def lowL (ss:List ByteArray) (x:ByteArray) (k:Nat):Prop:=∀(j:Nat) (s:ByteArray),j<k->ss[j]?=some s->lessB s x=true
theorem Afj {ss:List ByteArray} {x:ByteArray} {k:Nat} (h:lowL ss x k) (hk:k<ss.length) (hl:lessB (ss[k]) x=true):lowL ss x (k+1):=λj s hj hs=>by
 rcases Nat.lt_or_ge j k with h'|h'
 ·exact h j s h' hs
 ·obtain rfl:j=k:=by omega
  obtain⟨_,rfl⟩:=A2.1 hs;exact hl
theorem Aba:∀(ss:List ByteArray) (x:ByteArray) (k:Nat),lowL ss x k->k<=ss.length->(∀s,ss[k]?=some s->lessB s x=false/\sameB s x=false)->insL ss x=ss.take k++x::ss.drop k
 | [],x,0,_,_,_=>rfl
 | [],x,k+1,_,h,_=>by simp at h
 | y::r,x,0,_,_,h=>by
  obtain⟨h1,h2⟩:=h y rfl;rw[insL,h1,h2];rfl
 | y::r,x,k+1,hl,hk,h=>by
  have h0:=hl 0 y (by omega) rfl;rw[insL,if_pos h0,Aba r x k (λj s hj hs=>hl (j+1) s (by omega) (by simpa using hs)) (by simpa using hk) (λs hs=>h s (by simpa using hs))];rfl
theorem AdO:∀(ss:List ByteArray) (x:ByteArray) (k:Nat),lowL ss x k->(∃s,ss[k]?=some s/\lessB s x=false/\sameB s x=true)->insL ss x=ss
 | [],x,k,_,⟨s,hs,_⟩=>by simp at hs
 | y::r,x,0,_,⟨s,hs,h1,h2⟩=>by
  obtain rfl:y=s:=by simpa using hs
  rw[insL,h1,h2];rfl
 | y::r,x,k+1,hl,⟨s,hs,h1,h2⟩=>by
  have h0:=hl 0 y (by omega) rfl;rw[insL,if_pos h0,AdO r x k (λj s hj hs=>hl (j+1) s (by omega) (by simpa using hs)) ⟨s,by simpa using hs,h1,h2⟩]
theorem Acj (ss:List ByteArray) (x:ByteArray):(insL ss x).length<=ss.length+1:=by
 induction ss with
 | nil=>simp[insL]
 | cons y r ih =>
  rw[insL];split
  ·simp;omega
  ·split<;>simp
def Ow (w W:World) (g:Nat) (ss:List ByteArray) (v:Value) (n:Nat) (xs:List Value):Prop:=W.ownsRow w.heap.size 9 1 v n xs/\StrsAt W g 0 ss/\Below w.heap.size w W
theorem Ow.grow {w W W':World} {g n n':Nat} {ss:List ByteArray} {v v':Value} {xs ys:List Value} (h:Ow w W g ss v n xs) (hg:g<w.heap.size) (hgr:W.grownBy W' v.ownBlock) (ho:W'.ownsRow w.heap.size 9 1 v' n' ys):Ow w W' g ss v' n' ys :=
 ⟨ho,h.2.1.own h.1 hgr hg,I3 h.2.2 h.1 hgr (A3 _)⟩
theorem Ow.alloc {w W:World} {g n:Nat} {ss:List ByteArray} {v:Value} {xs:List Value} (h:Ow w W g ss v n xs) (o:Obj):Ow w (W.alloc o) g ss v n xs :=
 ⟨h.1.alloc o,h.2.1.alloc o,h.2.2.alloc h.2.2.size o⟩
theorem Ow.drew {w W:World} {g n:Nat} {ss:List ByteArray} {v:Value} {xs:List Value} (h:Ow w W g ss v n xs):Ow w W.drew g ss v n xs:=⟨h.1,h.2.1,h.2.2.drew⟩
theorem S1 {w W:World} {g:Nat} {ss:List ByteArray} (hS:StrsAt W g 0 ss) (hB:Below w.heap.size w W):Ow w (W.alloc (.cells #[] 9)) g ss (.slice (some ⟨W.heap.size,0,none⟩) 0 0) 0 [] :=
 ⟨B9 W #[] 0 hB.size (Nat.zero_le _) rfl,hS.alloc _,hB.alloc hB.size _⟩
theorem Ab0 {W:World} {g o2 k c:Nat} {ss:List ByteArray} (h:StrsAt W g 0 ss) (ho:(if c=k then some (⟨g,0,none⟩:Addr) else some ⟨g,k,none⟩)=some ⟨g,o2,none⟩) (hc:ss.length<=c):StrsAt W g o2 (ss.drop k):=by
 by_cases h7:c=k
 ·intro i s hs
  have:=(A2.1 hs).1;simp at this;omega
 ·rw[if_neg h7] at ho
  obtain rfl:k=o2:=by simpa using ho
  have:=h.drop k;simpa using this
end Go.Proofs.YtebfdccbmmpceaaGreatDoor
namespace Go.Proofs.YtebfdccbmmpceaaGreatDoor
def chg (b:Bk) (p:Nat) (f:Ba->Ba):Bk:=match b.bs[p]? with
 | some x=>⟨b.things,b.bs.set p (f x)⟩
 | none=>b
theorem Abb {b:Bk} {p:Nat} {f:Ba->Ba} {x:Ba} (h:b.bs[p]?=some x):chg b p f=⟨b.things,b.bs.set p (f x)⟩:=by simp[chg,h]
def needsAt (b:Bk) (nm:ByteArray):List ByteArray:=((b.bs[plN b nm]?).map (·.needs)).getD []
theorem V7 {b:Bk} {nm:ByteArray} {x:Ba} (h:b.bs[plN b nm]?=some x):needsAt b nm=x.needs:=by simp[needsAt,h]
def lessF (needs:List ByteArray) (x:Ba):Ba:=⟨x.nm,x.has.filter (memS needs),needs⟩
def insAll (has things:List ByteArray):List ByteArray:=things.foldl insL has
def askF (things:List ByteArray) (x:Ba):Ba:=⟨x.nm,insAll x.has things,x.needs⟩
theorem Ah0 (has things:List ByteArray) (k:Nat) (hk:k<things.length):insAll has (things.take (k+1))=insL (insAll has (things.take k)) things[k]:=by
 unfold insAll;rw[A7 hk,List.foldl_append];rfl
theorem Ack (has:List ByteArray):∀things:List ByteArray,(insAll has things).length<=has.length+things.length:=by
 intro things;induction things generalizing has with
 | nil=>simp[insAll]
 | cons x r ih =>
  have h1:=ih (insL has x);have h2:=Acj has x;simp only[insAll,List.foldl_cons,List.length_cons] at *;omega
theorem Amo (ss:List ByteArray) (x:ByteArray):∀s∈insL ss x,s∈ss∨s=x:=by
 induction ss with
 | nil=>intro s hs;simp[insL] at hs;exact .inr hs
 | cons y r ih =>
  intro s hs;simp only[insL] at hs;split at hs
  ·rcases List.mem_cons.1 hs with h|h
   ·exact .inl (by simp[h])
   ·rcases ih s h with h|h
    ·exact .inl (by simp[h])
    ·exact .inr h
  ·split at hs
   ·exact .inl hs
   ·rcases List.mem_cons.1 hs with h|h
    ·exact .inr h
    ·exact .inl h
theorem Acl (has:List ByteArray):∀things:List ByteArray,∀s∈insAll has things,s∈has∨s∈things:=by
 intro things;induction things generalizing has with
 | nil=>intro s hs;exact .inl hs
 | cons x r ih =>
  intro s hs;rcases ih (insL has x) s hs with h|h
  ·rcases Amo has x s h with h|h
   ·exact .inl h
   ·exact .inr (by simp[h])
  ·exact .inr (by simp[h])
noncomputable def lsnC (b:Bk) (nm:ByteArray) (needs:List ByteArray):Int :=
 if bookB b=false then 1 else if memS (nms b.bs) nm=false then 3 else if pB (PartOk needs (needsAt b nm))=false then 2 else 0
noncomputable def lsnB (b:Bk) (nm:ByteArray) (needs:List ByteArray):Bk :=
 if bookB b=false then nobody else if lsnC b nm needs=0 then chg b (plN b nm) (lessF needs) else b
theorem AbO {b:Bk} {nm:ByteArray} {needs:List ByteArray} (h:bookB b=false):lsnC b nm needs=1/\lsnB b nm needs=nobody:=by simp[lsnC,lsnB,h]
theorem Aa9 {b:Bk} {nm:ByteArray} {needs:List ByteArray} (h:bookB b=true) (hm:memS (nms b.bs) nm=false):lsnC b nm needs=3/\lsnB b nm needs=b:=by simp[lsnC,lsnB,h,hm]
theorem Abc {b:Bk} {nm:ByteArray} {needs:List ByteArray} (h:bookB b=true) (hm:memS (nms b.bs) nm=true) (hp:pB (PartOk needs (needsAt b nm))=false):lsnC b nm needs=2/\lsnB b nm needs=b:=by simp[lsnC,lsnB,h,hm,hp]
theorem Abd {b:Bk} {nm:ByteArray} {needs:List ByteArray} (h:bookB b=true) (hm:memS (nms b.bs) nm=true) (hp:pB (PartOk needs (needsAt b nm))=true):lsnC b nm needs=0/\lsnB b nm needs=chg b (plN b nm) (lessF needs):=by
 have hc:lsnC b nm needs=0:=by simp[lsnC,h,hm,hp]
 exact⟨hc,by rw[lsnB,h,if_neg (by simp),if_pos hc]⟩
theorem Ah1 {ss:List ByteArray} {f:ByteArray->Bool} {k:Nat} (hk:k<ss.length):(ss.take (k+1)).filter f=(ss.take k).filter f++(if f ss[k]=true then [ss[k]] else []):=by
 rw[A7 hk,List.filter_append];congr 1
 by_cases h:f ss[k]=true
 ·simp[h]
 ·simp[h]
end Go.Proofs.YtebfdccbmmpceaaGreatDoor
namespace Go.Proofs.YtebfdccbmmpceaaGreatDoor
open Go.RowKit
def lowN (ss:List ByteArray) (s:ByteArray):Nat:=(ss.takeWhile λx=>ltS x s).length
def LowTo (ss:List ByteArray) (s:ByteArray) (i:Nat):Prop:=∀(k:Nat) (x:ByteArray),k<i->ss[k]?=some x->ltS x s=true
def HighFrom (ss:List ByteArray) (s:ByteArray) (j:Nat):Prop:=∀(k:Nat) (x:ByteArray),j<=k->ss[k]?=some x->ltS x s=false
theorem AeS {ss:List ByteArray} {s:ByteArray} {i:Nat} (hi:i<=ss.length) (hl:LowTo ss s i) (hh:HighFrom ss s i):lowN ss s=i :=
 Ak7 _ _ _ hi hl (λx hx=>hh i x (A3 _) hx)
theorem Amp {ss:List ByteArray} {s:ByteArray} {i h:Nat} (ha:Asc ss) (_:LowTo ss s i) (hh:h<ss.length) (hs:ltS ss[h] s=true):LowTo ss s (h+1):=λk x hk hx=>by
 by_cases e:k=h
 ·subst e
  rw[A0 hh] at hx;obtain rfl:=A5 hx;exact hs
 ·exact Aa7 (S0 ha (h-k-1) k x _ hx (by rw[show k+1+(h-k-1)=h by omega];exact A0 hh)) hs
theorem Ak9 {ss:List ByteArray} {s:ByteArray} {h:Nat} (ha:Asc ss) (hh:h<ss.length) (hs:ltS ss[h] s=false):HighFrom ss s h:=λk x hk hx=>by
 by_cases e:k=h
 ·subst e
  rw[A0 hh] at hx;obtain rfl:=A5 hx;exact hs
 ·cases hq:ltS x s
  ·rfl
  ·have:=Aa7 (S0 ha (k-h-1) h _ x (A0 hh) (by rw[show h+1+(k-h-1)=k by omega];exact hx)) hq
   rw[hs] at this;cases this
theorem An9 {ss:List ByteArray} {s:ByteArray} {i:Nat} (hl:LowTo ss s i) (hh:HighFrom ss s i) (ha:Asc ss) (hi:i<ss.length):memS ss s=((ss[i]).toList==s.toList):=by
 cases hq:((ss[i]).toList==s.toList)
 ·rw[S3]
  intro hm;obtain⟨k,hk,rfl⟩:=B6 hm;rcases Nat.lt_trichotomy k i with h1|h1|h1
  ·have:=hl k _ h1 (A0 hk)
   rw[O6] at this;cases this
  ·subst h1;simp at hq
  ·have h2:=S0 ha (k-i-1) i _ _ (A0 hi) (by rw[show i+1+(k-i-1)=k by omega];exact A0 hk)
   have h3:=hh i _ (A3 _) (A0 hi);rw[h2] at h3;cases h3
 ·exact Acc hi hq
theorem Amq {ss:List ByteArray} {s:ByteArray} {i:Nat} (hl:LowTo ss s i) (hi:¬i<ss.length):memS ss s=false:=by
 rw[S3];intro hm;obtain⟨k,hk,rfl⟩:=B6 hm;have:=hl k _ (by omega) (A0 hk);rw[O6] at this;cases this
theorem AkA (s:ByteArray) (w:World):Calls Tryz.prog 222 #[.string s] w λe w'=>e=.returned (.bool false)/\w'=w:=by
 go_enter Tryz.func222,Tryz.ntmps222
 go_wp2
 go_ret
 exact⟨rfl,rfl⟩
theorem Ajg (s:ByteArray) (w:World):Calls Tryz.prog 221 #[.string s] w λe w'=>e=.returned (.bool false)/\w'=w:=by
 go_enter Tryz.func221,Tryz.ntmps221
 go_wp2
 go_ret
 exact⟨rfl,rfl⟩
theorem Ah2 (a b:ByteArray) (w:World):Calls Tryz.prog 196 #[.string a,.string b] w λe w'=>e=.returned (.bool (ltS a b))/\w'=w:=by
 have Hl:Hid (ltS a b=Op.bytesLess a.toList b.toList):=rfl;go_enter Tryz.func196,Tryz.ntmps196
 go_wp2_with (go_at_call 221;refine (Ajg _ _).mono ?_;rintro e w' ⟨rfl,hw⟩;obtain rfl:=hw.symm;clear hw)
 go_ret
 exact⟨D7 Hl.out.symm,rfl⟩
theorem AdP {i j:Nat} {a b:Bool} (h1:i=j) (h2:a=b):Ending.returned (.tuple #[.int .i64 (i:Int),.bool a])=.returned (.tuple #[.int .i64 (j:Int),.bool b]):=by rw[h1,h2]
theorem Ah3 (ss:List ByteArray) (v:Value) (s:ByteArray) (w:World) (h:Ls w v ss) (ha:Asc ss) (hn:ss.length<=1000) :
  Calls Tryz.prog 201 #[v,.string s] w λe w'=>e=.returned (.tuple #[.int .i64 (lowN ss s:Int),.bool (memS ss s)])/\w'=w:=by
 obtain⟨a,c,rfl,-,-,hpos⟩:=h;have Ha:Hid (Asc ss):=ha;clear ha;go_enter Tryz.func201,Tryz.ntmps201
 go_wp2_with fail
 go_loopw [7,8,9] (λvi vj _ w'=>∃i j:Nat,i<=j/\j<=ss.length/\vi=.int .i64 i/\vj=.int .i64 j/\LowTo ss s i/\HighFrom ss s j/\w'=w) (λvi vj _ _=>(intOf vj).toNat-(intOf vi).toNat)
 case atStart=>exact⟨0,ss.length,by omega,by omega,rfl,rfl,λk x hk=>by omega,λk x hk hx=>by have:=(A2.1 hx).1;omega,rfl⟩
 case round =>
  obtain⟨i,j,hij,hjn,rfl,rfl,hlo,hhi,hw⟩:=hrel;obtain rfl:=hw.symm;clear hw;have HL:Hid (LowTo ss s i):=hlo;have HH:Hid (HighFrom ss s j):=hhi;clear hlo hhi;by_cases hp:i<j
  ·have hp':(i:Int)<(j:Int):=by omega
   obtain⟨b,o,rfl,hS,hb⟩:=hpos (by omega);have hm:(i+j) / 2<ss.length:=by omega
   have c0:=hS.cell hm;have HY:Hid (ltS ss[(i+j) / 2] s=true->LowTo ss s ((i+j) / 2+1)):=λhq=>Amp Ha.out HL.out hm hq;have HN:Hid (ltS ss[(i+j) / 2] s=false->HighFrom ss s ((i+j) / 2)):=λhq=>Ak9 Ha.out hm hq;generalize ss[(i+j) / 2]=s0 at *;obtain⟨m,hmm,hm1,hm2⟩:∃m:Nat,(i+j) / 2=m/\i<=m/\m<j:=⟨_,rfl,by omega,by omega⟩;rw[hmm] at c0 HY HN;have hI:((i:Int)+(j:Int)) / 2=(m:Int):=by omega
   have hml:m<ss.length:=by omega
   go_upto_region 5 with fail
   try rw[hI]
   clear hI hmm hm;go_wp2_with fail
   refine (Ah2 s0 s _).mono ?_;rintro e w' ⟨rfl,hw⟩;obtain rfl:=hw.symm;clear hw;cases hq:ltS s0 s
   ·have Hq:Hid (HighFrom ss s m):=HN.out hq
    go_wp2_with fail
    go_roundw
    case rel=>exact⟨i,m,by omega,by omega,rfl,rfl,HL.out,Hq.out,by first|rfl|trivial⟩
    case measure=>simp[intOf];omega
   ·have Hq:Hid (LowTo ss s (m+1)):=HY.out hq
    go_wp2_with fail
    go_roundw
    case rel=>exact⟨m+1,j,by omega,by omega,by go_num,rfl,Hq.out,HH.out,by first|rfl|trivial⟩
    case measure=>simp[intOf];omega
  ·obtain rfl:i=j:=by omega
   have hp':¬(i:Int)<(i:Int):=by omega
   have HI:Hid (lowN ss s=i):=AeS hjn HL.out HH.out;by_cases he:i<ss.length
   ·have he':(i:Int)<(ss.length:Int):=by omega
    obtain⟨b,o,rfl,hS,hb⟩:=hpos (by omega);have c0:=hS.cell he;have HM:Hid (memS ss s=((ss[i]).toList==s.toList)):=An9 HL.out HH.out Ha.out he;generalize ss[i]=s0 at *;cases hq:(s0.toList==s.toList)
    ·have Hm:Hid (memS ss s=false):=by show _=_;rw[HM.out,hq]
     go_wp2_with (go_at_call 222;refine (AkA _ _).mono ?_;rintro e w' ⟨rfl,hw⟩;obtain rfl:=hw.symm;clear hw)
     go_returns
     exact⟨AdP HI.out.symm Hm.out.symm,rfl⟩
    ·have Hm:Hid (memS ss s=true):=by show _=_;rw[HM.out,hq]
     go_wp2_with fail
     go_returns
     exact⟨AdP HI.out.symm Hm.out.symm,rfl⟩
   ·have he':¬(i:Int)<(ss.length:Int):=by omega
    have Hm:Hid (memS ss s=false):=Amq HL.out he;go_wp2_with fail
    go_returns
    exact⟨AdP HI.out.symm Hm.out.symm,rfl⟩
theorem Abe (b:Bk) (v:Value) (nm:ByteArray) (w:World) (h:BkV w v b) (hok:BookOk b) :
  Calls Tryz.prog 180 #[v,.string nm] w λe w'=>e=.returned (.tuple #[.int .i64 (lowN (nms b.bs) nm:Int),.bool (memS (nms b.bs) nm)])/\Below w.heap.size w w':=by
 obtain⟨a1,c1,a2,c2,rfl,-,h2⟩:=h.parts;obtain⟨W1,hW1,kA,hB1,hs1⟩:=K9 w [.slice a1 (b).things.length c1,.slice a2 (b).bs.length c2] 33;have hn5:b.bs.length<=5:=hok.2.1;have Ha:Hid (Asc (nms b.bs)):=hok.2.2.2.1;go_enter Tryz.func180,Tryz.ntmps180
 go_upto_region 1 with fail
 try rw[hW1]
 clear hW1 hs1;obtain⟨e0,e1⟩:=kA.c2';go_wp2_with fail
 refine (V6 b.bs _ _ (h2.up hB1) (by omega)).mono ?_;rintro e w2 ⟨⟨u,rfl,-,hl⟩,hb2⟩;obtain⟨ax,cx,rfl,-⟩:=id hl;have hB2:=D6 hB1 hb2;clear e0 e1;go_wp2_with fail
 refine (Ah3 (nms b.bs) _ nm _ hl Ha.out (by rw[I6];omega)).mono ?_;rintro e w3 ⟨rfl,hw⟩;obtain rfl:=hw.symm;go_wp2_with fail
 go_returns
 exact⟨rfl,hB2⟩
theorem Aew {b:Bk} {nm:ByteArray} (ha:Asc (nms b.bs)) (hm:memS (nms b.bs) nm=true):lowN (nms b.bs) nm=plN b nm:=by
 obtain⟨hi,hlt⟩:=T8 hm;obtain⟨k,hk,hkl,hkn⟩:=Ai5 (l:=nms b.bs) (s:=nm) (by omega);obtain rfl:plN b nm=k:=by omega
 refine AeS (Nat.le_of_lt hkl) (λj x hj hx=>?_) (λj x hj hx=>?_)
 ·exact S0 ha (plN b nm-j-1) j x nm hx (by rw[show j+1+(plN b nm-j-1)=plN b nm by omega,A0 hkl,hkn])
 ·by_cases e:j=plN b nm
  ·subst e
   rw[A0 hkl,hkn] at hx;obtain rfl:=A5 hx;exact O6 _
  ·have h1:=S0 ha (j-plN b nm-1) (plN b nm) nm x (by rw[A0 hkl,hkn]) (by rw[show plN b nm+1+(j-plN b nm-1)=j by omega];exact hx)
   cases hq:ltS x nm
   ·rfl
   ·have:=Aa7 h1 hq
    rw[O6] at this;cases this
def refV (c:Int):Value:=if c=0 then .nilIface else .iface 98 (.agg #[.int .i64 c])
theorem Afk:refV 0=.nilIface:=rfl
theorem AcU {c:Int} (h:c≠0):refV c=.iface 98 (.agg #[.int .i64 c]):=by simp[refV,h]
noncomputable def ofC (b:Bk) (nm:ByteArray) (ls:List ByteArray):Int:=if memS (nms b.bs) nm=false then 3 else if pB (PartOk ls (needsAt b nm))=false then 2 else 0
theorem Adx {b:Bk} {nm:ByteArray} {ls:List ByteArray} (hm:memS (nms b.bs) nm=false):ofC b nm ls=3:=by simp[ofC,hm]
theorem Aex {b:Bk} {nm:ByteArray} {ls:List ByteArray} (hm:memS (nms b.bs) nm=true) (hp:pB (PartOk ls (needsAt b nm))=false):ofC b nm ls=2:=by simp[ofC,hm,hp]
theorem AcV {b:Bk} {nm:ByteArray} {ls:List ByteArray} (hm:memS (nms b.bs) nm=true) (hp:pB (PartOk ls (needsAt b nm))=true):ofC b nm ls=0:=by simp[ofC,hm,hp]
theorem Agq (all:List ByteArray):pB (PartOk [] all)=true:=I7 ⟨λi x hi hx=>by simp at hx,λi a b hi ha=>by simp at ha⟩
theorem Z2 {v:Value} {c:Int} (h:refV c=v):Ending.returned v=.returned (refV c):=by rw[h]
theorem AaA (nm:ByteArray) (w:World):Calls Tryz.prog 269 #[.agg #[.string nm]] w λe w'=>e=.returned (.string nm)/\Below w.heap.size w w':=by
 go_enter Tryz.func269,Tryz.ntmps269
 go_wp2
 go_ret
 exact⟨rfl,by go_grown⟩
theorem AbE (b:Bk) (v:Value) (nm:ByteArray) (lv:Value) (ls:List ByteArray) (w:World) (h:BkV w v b) (hok:BookOk b) (hl:Ls w lv ls) :
  Calls Tryz.prog 271 #[v,.string nm,lv] w λe w'=>e=.returned (refV (ofC b nm ls))/\Below w.heap.size w w':=by
 obtain⟨a1,c1,a2,c2,rfl,-,h2⟩:=h.parts;obtain⟨la,lc,rfl,hln,-⟩:=id hl;unfold maxLen at hln;have hn5:b.bs.length<=5:=hok.2.1;have hC:CB (w.alloc (.cells #[.slice a1 (b).things.length c1,.slice a2 (b).bs.length c2] 33)) w.heap.size [.slice a1 b.things.length c1,.slice a2 b.bs.length c2]:=E7 w _ _;have hB0:=(A4 w.heap.size w).alloc (A3 _) (.cells #[.slice a1 (b).things.length c1,.slice a2 (b).bs.length c2] 33);go_enter Tryz.func271,Tryz.ntmps271
 go_upto_region 1 with fail
 generalize w.alloc (.cells #[.slice a1 (b).things.length c1,.slice a2 (b).bs.length c2] 33)=W1 at *;have hlt:=hC.2.2;have hk:=h.up hB0;obtain⟨d0,d1⟩:=hC.c2';go_wp2_with fail
 refine (Abe b _ nm _ hk hok).mono ?_;rintro e w2 ⟨rfl,hB2⟩;have hB02:=D6 hB0 hB2;clear d0 d1;cases hm:memS (nms b.bs) nm
 ·have HC:Hid (refV (ofC b nm ls)=.iface 98 (.agg #[.int .i64 3])):=by show _=_;rw[Adx hm];rfl
  generalize lowN (nms b.bs) nm=q at *;go_wp2_with fail
  go_ret
  exact⟨Z2 HC.out,hB02⟩
 obtain⟨-,hpl⟩:=T8 hm;rw[Aew hok.2.2.2.1 hm];have HN:Hid (needsAt b nm=(b.bs[plN b nm]).needs):=V7 (A0 hpl);have HT:Hid (pB (PartOk ls (needsAt b nm))=false->refV (ofC b nm ls)=.iface 98 (.agg #[.int .i64 2])):=λhp=>by rw[Aex hm hp];rfl
 have HY:Hid (pB (PartOk ls (needsAt b nm))=true->refV (ofC b nm ls)=.nilIface):=λhp=>by rw[AcV hm hp];rfl
 generalize plN b nm=p at *;obtain⟨-,hpos⟩:=h2.at;obtain⟨bb,o,rfl,hS,hb⟩:=hpos (by omega);obtain⟨a3,d3,a4,d4,c3,c4,c5,l3,l4,z0⟩:=((hS.at hpl).up hB02 hb).cells;obtain⟨e0,e1⟩:=(hC.up hB2 hlt).c2';rw[HN.out] at HT HY;have hl2:=hl.up hB02;generalize b.bs[p]=x0 at *;clear hm HN;go_wp2_with fail
 refine (Aad ls x0.needs _ _ _ hl2 l4).mono ?_;rintro e w3 ⟨rfl,hB3⟩;have hB03:=D6 hB02 hB3;clear c3 c4 c5 e0 e1;cases hp:pB (PartOk ls x0.needs)
 ·have HC:Hid (refV (ofC b nm ls)=.iface 98 (.agg #[.int .i64 2])):=HT.out hp
  go_wp2_with fail
  go_ret
  exact⟨Z2 HC.out,hB03⟩
 ·have HC:Hid (refV (ofC b nm ls)=.nilIface):=HY.out hp
  go_wp2_with fail
  go_ret
  exact⟨Z2 HC.out,hB03⟩
end Go.Proofs.YtebfdccbmmpceaaGreatDoor
