/- Before anything goes: pieces of a frame's text, one behind the other. -/
import Derived.Test.YtaffjphkobhagaaGreatDoorJ39
import Derived.Test.YtaffjphkobhagaaGreatDoorJ38
import Derived.Lib.AppendIntMem
set_option maxRecDepth 20000
set_option maxHeartbeats 4000000
namespace Go.Proofs.YtaffjphkobhagaaGreatDoor
open Proofs.Tryz
variable{ops:Array Oper}{held:Bool}{r:Code}{x:Int}{ss ys:List BA}{rest:List Oper}{base:Nat}{sp:Nat->Bool}{op:Oper}{ty:TypeId}{v v':Value}{W w w' w1:World}
namespace Bd
open Go.Conc Go.RowKit
open Ld (none_ tp pz0 XD)
theorem Agu{V:World}{Q:World->Prop}{n:Nat}(hQ:X9 Q)(h:∀τ d,Ef (λu=>∃τ d,Q u/\Below n (tp V τ d) u) (F7 X0 w τ d)):Q (z w)/\Below n (z V) (z w):=by
 obtain⟨u0,⟨τ,d,h1,h2⟩,h3⟩:=h (λ_ _=>0) 0;rw[pz0] at h3;have e:z w={u0 with tape:=λ_ _=>0,drawn:=0}:=XD h3;rw[e];exact⟨hQ _ _ _ h1,{os:=h2.os,tape:=rfl,output:=h2.output,size:=h2.size,block:=h2.block}⟩
section
variable {P:Program} {s:FZs} [NL s] {b:Frame} {a:Act} {V:World} {Q:Act->World->Prop} {k:List Item} {bw:List Frame} {gs:Array Goroutine} {sl:Option (Nat×Nat)} {t:Trace} {Post:Value->World->Prop}
variable {n:Nat}
theorem AeP(S:I6 P s)(hb:Go.Proofs.YtaffjphkobhagaaGreatDoor.FrB P b)(hr:M7 P s [] r=true)(hd:a.defers=[])(hn:NV V)(hQ:∀a,X9 (Q a))(h:∀τ d,r.wp P (λe a' u'=>e=.normal/\Q a' u'/\Below n (tp V τ d) u') a (tp V τ d))(hh:F0 P none_ gs (G (b.at a (.code r::k)) bw) t)(kk:∀gs' V' sl' t' a',F0 P none_ gs' (G (b.at a' k) bw) t'->a'.defers=[]->NV V'->Q a' (z V')->Below n (z V) (z V')->D9 P Post (crowd gs' V' sl') t'):D9 P Post (crowd gs V sl) t:=by
 have hB:Aq X0 V:=⟨λ_ h=>h.elim,λ_ h=>h.elim,hn⟩;refine Go.Proofs.YtaffjphkobhagaaGreatDoor.ends_run (X:=X0) (λ_ h=>h.elim) hh (Kk S hr hb hd hB (k:=k) (bw:=bw) (Q:=λa u=>∃τ d,Q a u/\Below n (tp V τ d) u) (λτ d=>La hB (λτ d=>by rw[pz0];exact wp_mono (h τ d) (λe a' u' hq=>by cases e<;>first|exact⟨rfl,τ,d,hq.2.1,hq.2.2⟩|exact absurd hq.1 dC)) τ d)) λgs' g' w' sl' t' hh' hst=>?_;obtain⟨a',rfl,a0,a1,a2⟩:=hst;obtain⟨h1,h2⟩:=Agu (hQ a') a2;exact kk gs' w' sl' t' a' hh' a0 a1.pend h1 h2
end
end Bd
section
open Go.RowKit
theorem Aa1(w:World)(s:BA)(t:TypeId)(hs:s.size<=maxLen):Ls (w.alloc (Kz [Tz s] t)) (Sy w.heap.size 1 1) [s]:=by
 refine⟨_,1,rfl,by unfold maxLen;simp,λx hx=>?_,λ_=>⟨_,0,rfl,DB w [s] t,dC⟩⟩;obtain rfl:x=s:=by simpa using hx
 exact hs
theorem Agh(w:World)(s s':BA)(t:TypeId)(hs:s.size<=maxLen)(hs':s'.size<=maxLen):Ls (w.alloc (Kz [Tz s,Tz s'] t)) (Sy w.heap.size 2 2) [s,s']:=by
 refine⟨_,2,rfl,by unfold maxLen;simp,λx hx=>?_,λ_=>⟨_,0,rfl,DB w [s,s'] t,dC⟩⟩;simp only[List.mem_cons,List.not_mem_nil,or_false] at hx;rcases hx with rfl|rfl
 .exact hs
 .exact hs'
theorem Acx{a:Act}{w:World}{K:Act->World->Prop}{Q:Exit->Act->World->Prop}{E:Prop}
  (hw:Region.wanted op (yielded ops a.tmps)=true) (s x:Operand) (hop:op.op=Op.call {callee:=Callee.builtin Builtin.append,args:=#[s,x],argTypes:=#[22,22]})
  (base:Nat) (v xv:Value) (ys ss:List BA) (hs:a.eval s=v) (hown:F9 w base v ys) (hx:a.eval x=xv) (hL:Ls w xv ss) (hlen:ys.length+ss.length<=1000000) (hbase:base<=w.heap.size)
  (hK:∀v' w',F9 w' base v' (ys++ss)->w.grownBy w' v.ownBlock->K (a.put op.dst v') w') :
  if Region.wanted op (yielded ops a.tmps)=true then Oper.wp prog op a w K Q else E:=by
 rw[if_pos hw];obtain⟨ii,hi,a1,a2,a3⟩:=info_parts Av;obtain⟨ax,cx,rfl,-,-,a0⟩:=hL;rcases C3 ss.length with h0|h0
 .obtain rfl:=C4.1 h0;have hr:=GF (P:=prog) (w:=w) base 22 op.type 9 ii 1 underlying22 hi v ys.length _ hown ax cx;unfold Oper.wp;simp only[List.length_nil] at hx;simp[execOp,hop,resolve,invoke,builtin,hs,hx,hr,Result.andThen];exact hK v w (by simpa using hown) (Ax _ _)
 .obtain⟨g,o,rfl,hS,-⟩:=a0 h0;obtain⟨v',w',hr,h2,h3,_⟩:=run_append_own (P:=prog) w base 22 op.type 9 ii _ 1 16 underlying22 hi a1 a2 a3 rfl aS v ys.length _ hown ⟨g,o,none⟩ ss.length cx (ss.map Value.string) dC (X6 hS) (GN ss) (by unfold maxLen;omega) oM hbase;unfold Oper.wp;simp[execOp,hop,resolve,invoke,builtin,hs,hx,hr,Result.andThen];exact hK v' w' (by unfold F9;simpa using h2) h3
theorem Lo{a:Act}{Q:Exit->Act->World->Prop}(hgd:op.guard=none)(s x:Operand)(hop:op.op=Op.call {callee:=Callee.builtin Builtin.append,args:=#[s,x],argTypes:=#[22,22]})
  (base:Nat) (v xv:Value) (ys ss:List BA) (hs:a.eval s=v) (hown:F9 w base v ys) (hx:a.eval x=xv) (hL:Ls w xv ss) (hlen:ys.length+ss.length<=1000000) (hbase:base<=w.heap.size)
  (h:∀v' w',F9 w' base v' (ys++ss)->w.grownBy w' v.ownBlock->wpList prog ops Q rest (a.put op.dst v') w'):wpList prog ops Q (op::rest) a w :=
 wpList_plain hgd λK hK=>by
  have hw:Region.wanted op (yielded ops a.tmps)=true:=by simp[Region.wanted,hgd]
  have:=Acx (ops:=ops) (Q:=Q) (K:=K) (E:=False) hw s x hop base v xv ys ss hs hown hx hL hlen hbase λv' w' h2 h3=>hK _ _ (h v' w' h2 h3);rw[if_pos hw] at this;exact this
def GJ(ws:List BA):BA:=⟨(Lib.join (ws.map λs=>s.data.toList) [32]).toArray⟩
theorem Ti(ws:List BA)(u:Value)(base:Nat)(w:World)(h1:1<=ws.length)(h2:ws.length<=1000)(hj:(Lib.join (ws.map λs=>s.data.toList) [32]).length<=1000000)(h:F9 w base u ws):
  cU prog 23 #[u,Tz ⟨#[32]⟩] w (Tz (GJ ws)):=by
 obtain⟨g,c,rfl⟩:=AG h h1;have hS:=Lr h rfl
 have a0:ws.length<=c:=by
  rcases h.2 with⟨h0,_⟩|⟨g',cap',cur,h',_,_,hc,_⟩
  .cases h0
  .cases h';exact hc
 refine (Tryz.strings_Join g 0 c ws ⟨#[32]⟩ w hS (h.lt g rfl).2 oM a0 (Nat.le_trans hj oM)).mono ?_;rintro e w' ⟨rfl,hB⟩;exact⟨rfl,hB⟩
def Cn:BA:=⟨#[119,97,105,116,115]⟩
def Em:BA:=⟨#[102,111,114]⟩
theorem Aa2(nm ad:BA)(a1 a2:Option Addr)(n1 n2 c1 c2:Nat)(st:Int)(hv:Value)(has:List BA)(w:World)(hL:Ls w hv has)(hn:has.length<=100)(hj:(Lib.join (([nm,ad,Cn]++has).map λs=>s.data.toList) [32]).length<=1000000):
  cU prog 55 #[.agg #[Tz nm,Vz a1 n1 c1,Vz a2 n2 c2,Tz ad,Iz (-1),Iz st],hv] w (Tz (GJ ([nm,ad,Cn]++has))):=by
 have HL:Hid (Ls w hv has):=hL;have HJ:Hid ((Lib.join (([nm,ad,Cn]++has).map λs=>s.data.toList) [32]).length<=1000000):=hj;obtain⟨ax,cx,rfl,-,-,-⟩:=hL;clear hj;delta cU;go_in;go_upto_region 1 with fail;obtain⟨W1,a6,kA,b1,b2⟩:=cbE1 w [Tz nm,Vz a1 n1 c1,Vz a2 n2 c2,Tz ad,Iz (-1),Iz st] 52;rw[a6];clear a6;obtain⟨d0,d1,d2,d3,d4,d5⟩:=kA.c6;go_upto_region 2 with fail;have a3:F9 (W1.alloc (Kz [Tz nm,Tz ad] 9)) W1.heap.size (Sy W1.heap.size 2 2) [nm,ad]:=C0 (e:=9) (size:=1) (base:=W1.heap.size) W1 #[Tz nm,Tz ad] 2 (A3 _) aS rfl;obtain⟨W2,a7,a8,b3⟩:∃W2,W1.alloc (Kz [Tz nm,Tz ad] 9)=W2/\Up W1 W2/\W2.heap.size=W1.heap.size+1:=⟨_,rfl,(A4 _ _).alloc (A3 _) _,dC⟩;rw[a7] at a3 ⊢
 clear a7;have b4:=kA.up a8 oM;clear d0 d1 d2 d3 d4 d5;obtain⟨d0,d1,d2,d3,d4,d5⟩:=b4.c6;go_upto_region 5 with (go_at_call 88;refine (JE _ _ _ _ _ _ _ _ _ _).mono ?_;rintro e W3 ⟨rfl,a5⟩)
 have a4:=D3 b1 (D3 a8 a5);have a0:F9 W3 W1.heap.size (Sy W1.heap.size 2 2) [nm,ad]:=R8 a3 a5;have b9:=a5.size;clear d0 d1 d2 d3 d4 d5 a3;rw[b2] at a0 b3;have b5:w.heap.size+2<=W3.heap.size:=oM
 go_wp2_with (at_builtin;refine Lo rfl _ _ rfl (w.heap.size+1) _ _ [nm,ad] [Cn] rfl (F9.up a0 ((A4 _ _).alloc (A3 _) _)) rfl (Aa1 W3 Cn _ (by unfold maxLen Cn;decide)) dC gG ?_)
 intro v4 W4 own4 grow4;have a9:Up w W4:=S0 (a4.alloc a4.size _) (F9.up a0 ((A4 _ _).alloc (A3 _) _)) grow4 oM;have b6:=grow4.size;simp at b6;have b0:=HL.out.up a9;clear a0 grow4;go_wp2_with (at_builtin;refine Lo rfl _ _ rfl (w.heap.size+1) _ _ ([nm,ad]++[Cn]) has rfl own4 rfl b0 gG oM ?_)
 intro v5 W5 own5 grow5;have b7:Up w W5:=S0 a9 own4 grow5 oM;clear own4 grow5 b0;go_wp2_with (go_at_call 23;refine (Ti ([nm,ad]++[Cn]++has) v5 _ W5 dC gG HJ.out own5).mono ?_;rintro e W6 ⟨rfl,b8⟩)
 go_ret;exact⟨rfl,D3 b7 b8⟩
def I3(n:Int):BA:=⟨(Lib.itoa n).toArray⟩
theorem Ae9(nm ad:BA)(a1 a2:Option Addr)(n1 n2 c1 c2:Nat)(si st:Int)(hne:¬si=-1)(h0:0<=si)(h1:si<=1000000)(hz:(I3 si).size<=maxLen)(hv:Value)(has:List BA)(w:World)(hT:Lib.TabIs prog w "internal/strconv.uint64pow10" .u64 Lib.pow10Tab)(hL:Ls w hv has)(hn:has.length<=100)(hj:(Lib.join (([nm,ad,Em,I3 si]++has).map λs=>s.data.toList) [32]).length<=1000000):
  cU prog 55 #[.agg #[Tz nm,Vz a1 n1 c1,Vz a2 n2 c2,Tz ad,Iz si,Iz st],hv] w (Tz (GJ ([nm,ad,Em,I3 si]++has))):=by
 have HL:Hid (Ls w hv has):=hL;have HT:Hid (Lib.TabIs prog w "internal/strconv.uint64pow10" .u64 Lib.pow10Tab):=hT;have HN:Hid (¬si=-1):=hne;have HZ:Hid ((I3 si).size<=maxLen):=hz;clear hT hne hz;have HJ:Hid ((Lib.join (([nm,ad,Em,I3 si]++has).map λs=>s.data.toList) [32]).length<=1000000):=hj;obtain⟨ax,cx,rfl,-,-,-⟩:=hL;clear hj;delta cU;go_in;go_upto_region 1 with fail;obtain⟨W1,a9,kA,b4,b5⟩:=cbE1 w [Tz nm,Vz a1 n1 c1,Vz a2 n2 c2,Tz ad,Iz si,Iz st] 52;rw[a9];clear a9;obtain⟨d0,d1,d2,d3,d4,d5⟩:=kA.c6;go_upto_region 2 with fail;have a0:F9 (W1.alloc (Kz [Tz nm,Tz ad] 9)) W1.heap.size (Sy W1.heap.size 2 2) [nm,ad]:=C0 (e:=9) (size:=1) (base:=W1.heap.size) W1 #[Tz nm,Tz ad] 2 (A3 _) aS rfl;obtain⟨W2,b0,b1,b6⟩:∃W2,W1.alloc (Kz [Tz nm,Tz ad] 9)=W2/\Up W1 W2/\W2.heap.size=W1.heap.size+1:=⟨_,rfl,(A4 _ _).alloc (A3 _) _,dC⟩;rw[b0] at a0 ⊢
 clear b0;have b7:=kA.up b1 oM;clear d0 d1 d2 d3 d4 d5;obtain⟨d0,d1,d2,d3,d4,d5⟩:=b7.c6;go_upto_region 4 with (go_at_call 88;refine (Ml _ _ _ _ _ _ _ _ _ _ _ HN.out).mono ?_;rintro e W3 ⟨rfl,a7⟩)
 have a5:=D3 b4 (D3 b1 a7);have a3:F9 W3 W1.heap.size (Sy W1.heap.size 2 2) [nm,ad]:=R8 a0 a7;have c5:=a7.size;clear d0 d1 d2 d3 d4 d5 a0;rw[b5] at a3 b6;have b8:w.heap.size+2<=W3.heap.size:=oM
 have Hit:Hid (∀W,Up w W->Calls prog 50 #[Iz si] W λe w'=>e=.returned (Tz (I3 si))/\Up W w'):=λW hB=>by
  refine (Tryz.strconv_Itoa si oM oM W (Lib.tabBelow_of_tabIs HT.out W hB)).mono ?_;rintro e w' ⟨rfl,k,os,rfl⟩;exact⟨rfl,Lib.below_grow W.heap.size W (A3 _) k os⟩
 go_wp2_with (first
  | (go_at_call 50;refine (Hit.out W3 a5).mono ?_;rintro e W7 ⟨rfl,a8⟩;have a6:=D3 a5 a8;have a4:=a3.up a8;have c7:=a8.size)
  | (at_builtin;refine Lo rfl _ _ rfl (w.heap.size+1) _ _ [nm,ad] [Em,I3 si] rfl (F9.up a4 ((A4 _ _).alloc (A3 _) _)) rfl (Agh W7 Em (I3 si) _ (by unfold maxLen Em;decide) HZ.out) dC gG ?_))
 intro v4 W4 own4 grow4;have b2:Up w W4:=S0 (a6.alloc a6.size _) (F9.up a4 ((A4 _ _).alloc (A3 _) _)) grow4 oM;have b9:=grow4.size;simp at b9;have b3:=HL.out.up b2;clear a3 a4 grow4;go_wp2_with (at_builtin;refine Lo rfl _ _ rfl (w.heap.size+1) _ _ ([nm,ad]++[Em,I3 si]) has rfl own4 rfl b3 gG oM ?_)
 intro v5 W5 own5 grow5;have c3:Up w W5:=S0 b2 own4 grow5 oM;clear own4 grow5 b3;go_wp2_with (go_at_call 23;refine (Ti ([nm,ad]++[Em,I3 si]++has) v5 _ W5 dC gG HJ.out own5).mono ?_;rintro e W6 ⟨rfl,c4⟩)
 go_ret;exact⟨rfl,D3 c3 c4⟩
end
section
open Go.ChangeShapes Go.WideShapes Go.ChangeAt Go.RowKit
theorem Uy{H:Type}{enc:TypeId×Value->H}{d:DataW H}{p:List MemPlace}(hv:∃a l c,v=Vz a l c)
  (h:DataW.Trod enc prog W base sp held 67 v d p):∃ps,Nl W v ps/\Dz ps:=by
 obtain⟨a0,l0,k0,rfl⟩:=hv;obtain⟨a5,hf⟩:=h;rcases DataW.trod_slice underlying67 hf with⟨hcs,_⟩|⟨a,len,cap,elems,rest,n,_,hcs,_,hb,hl,hm,hlen,hel,_,_⟩
 .have:Vz a0 l0 k0=Nz:=by simpa [Value.cells] using hcs
  rw[this];exact⟨[],.inl ⟨_,_,rfl,rfl⟩,λp hp=>by simp at hp⟩
 .have:Vz a0 l0 k0=Vz (some a) len cap:=by simpa [Value.cells] using hcs
  rw[this];clear this hcs hf;rw[Nv] at hel
  have a1:∀i,i<len->∃q:Ph,W.cells? base (a.add (i*8)) 8=some q.cells/\(q.nm.size<=maxLen/\q.a.size<=maxLen/\q.b.size<=maxLen/\q.t.size<=maxLen/\q.e.size<=maxLen):=by
   intro i hi;have h1:=hel i hi;rw[A0 oM] at h1;obtain⟨cs,hc,ht⟩:=Option.bind_eq_some_iff.1 h1;obtain⟨nm,k,a',b',n',wi,t,e,rfl,_,z0,z2,z3,z6,z7⟩:=XT ht;exact⟨⟨nm,k,a',b',n',wi,t,e⟩,hc,z0,z2,z3,z6,z7⟩
  obtain⟨ps,a6,a3⟩:=FA len _ a1;rcases C3 len with h0|h0
  .subst h0;exact⟨[],.inl ⟨_,_,rfl,rfl⟩,λp hp=>by simp at hp⟩
  .obtain⟨b,o,a2⟩:=a
   have hs:a2=none:=by
    obtain⟨q,hq,_⟩:=a1 0 h0;unfold World.cells? at hq;split at hq
    .obtain⟨x,_,hc⟩:=Lib.mapM_at hq 0 0 dC;simpa [Addr.add] using World.cell?_spot hc
    .cases hq
   subst hs
   have a4:G4 W b o ps:=by
    intro i q hq;have:=(a3 i q hq).1;rw[Addr.add_mid] at this;exact Y0 this
   subst a6;refine⟨ps,.inr ⟨b,o,cap,rfl,a4,?_,oM⟩,λq hq=>?_⟩
   .have:=a4 0 ps[0] (by simp[h0]) 0 _ rfl;exact World.block_lt_of_cell? W _ this
   .obtain⟨i,hi,rfl⟩:=B7 hq;exact (a3 i ps[i] (by simp[hi])).2
end
section
open Go.RowKit
def Bo(w:World)(v:Value):Prop:=∀g,v.ownBlock=some g->∀cur e f,w.heap[g]?=some (.cells cur e f)->∀x∈cur,∃s,x=Value.string s
theorem Bo.block(h:Bo w v)(hb:∀g,v.ownBlock=some g->w'.heap[g]?=w.heap[g]?):Bo w' v:=λg hg cur e f hx=>h g hg cur e f (by rw[← hb g hg];exact hx)
theorem Bo.up(h:Bo w v)(ho:F9 w base v ys)(hb:Up w w'):Bo w' v:=h.block λg hg=>hb.block g (ho.lt g hg).2
theorem Ag8(n:Nat):∀x∈Builtin.zeroCells #[Tz ⟨#[]⟩] n,∃s,x=Tz s:=λx hx=>by
 unfold Builtin.zeroCells at hx;obtain⟨i,-,rfl⟩:=Array.mem_map.1 hx;refine⟨⟨#[]⟩,?_⟩;rw[show (#[Tz ⟨#[]⟩]:Array Value).size=1 from rfl,Nat.mod_one];rfl
theorem Aff(hown:F9 w base v ys)(hall:Bo w v)(hpos:0<ys.length){g2 o cx:Nat}(hS:G0 w g2 o ss)(hlen:ys.length+ss.length<=1000000)
  (hr:(Builtin.append_ #[22,22] ty #[v,Sx g2 o ss.length cx]).run prog w=.ok v' w'):Bo w' v':=by
 obtain⟨ii,hi,a4,a1,a5⟩:=info_parts Av;rcases hown.2 with⟨-,h0⟩|⟨g,cap,cur,rfl,hbg,hg,hnc,hcm,hcs,htake⟩
 .omega
 have hc:=hall g rfl cur _ _ hg
 have a2:∀x∈ss.map Value.string,∃s,x=Tz s:=λx hx=>by
  grind
 have a6:∀x∈ys.map Value.string,∃s,x=Tz s:=λx hx=>by
  grind
 by_cases hroom:ys.length+ss.length<=cap
 .have a0:=run_append_room (P:=prog) w 22 ty 9 ii underlying22 hi g ys.length cap cur hg ⟨g2,o,none⟩ ss.length cx (ss.map Value.string) (by simp[a1]) (X6 hS) (GN ss) hroom (by rw[a1,B5,hcs];omega);rw[hr] at a0;simp only[Result.ok.injEq] at a0;obtain⟨rfl,rfl⟩:=a0;intro g' hg' cur' e' f' hx x hxm;obtain rfl:g=g':=by simpa [Value.ownBlock] using hg'
  rw[setRow_heap w g cur _ _ _ hg] at hx;simp only[Option.some.injEq,Obj.cells.injEq] at hx;obtain⟨rfl,-,-⟩:=hx;simp only[List.mem_toArray,C8] at hxm;rcases hxm with (h1|h1)|h1
  .grind
  .exact a2 x h1
  .grind
 .have a0:=run_append_grow (P:=prog) w 22 ty 9 ii _ underlying22 hi a4 ⟨g,0,none⟩ ys.length cap (ys.map Value.string) (by simp[a1]) (hown.cells (g:=g) rfl) ⟨g2,o,none⟩ ss.length cx (ss.map Value.string) (by simp[a1]) (X6 hS) oM oM (growslice_fits oM (by rw[a5];omega));rw[hr] at a0;simp only[Result.ok.injEq] at a0;obtain⟨rfl,rfl⟩:=a0;intro g' hg' cur' e' f' hx x hxm;obtain rfl:w.heap.size=g':=by simpa [Value.ownBlock] using hg'
  have a3:=(heap_alloc_new w.drew _).symm.trans hx;simp only[Option.some.injEq,Obj.cells.injEq] at a3;obtain⟨rfl,-,-⟩:=a3;simp only[Array.mem_append,List.mem_toArray] at hxm;rcases hxm with (h1|h1)|h1
  .exact a6 x h1
  .exact a2 x h1
  .exact Ag8 _ x h1
theorem PI{a:Act}{w:World}{K:Act->World->Prop}{Q:Exit->Act->World->Prop}{E:Prop}
  (hw:Region.wanted op (yielded ops a.tmps)=true) (s x:Operand) (hop:op.op=Op.call {callee:=Callee.builtin Builtin.append,args:=#[s,x],argTypes:=#[22,22]})
  (base:Nat) (v xv:Value) (ys ss:List BA) (hs:a.eval s=v) (hown:F9 w base v ys) (hall:Bo w v) (hpos:0<ys.length) (hx:a.eval x=xv) (hL:Ls w xv ss) (hlen:ys.length+ss.length<=1000000) (hbase:base<=w.heap.size)
  (hK:∀v' w',F9 w' base v' (ys++ss)->Bo w' v'->w.grownBy w' v.ownBlock->K (a.put op.dst v') w') :
  if Region.wanted op (yielded ops a.tmps)=true then Oper.wp prog op a w K Q else E:=by
 rw[if_pos hw];obtain⟨ii,hi,a0,a1,a2⟩:=info_parts Av;obtain⟨ax,cx,rfl,-,-,hp⟩:=hL;rcases C3 ss.length with h0|h0
 .obtain rfl:=C4.1 h0;have hr:=GF (P:=prog) (w:=w) base 22 op.type 9 ii 1 underlying22 hi v ys.length _ hown ax cx;unfold Oper.wp;simp only[List.length_nil] at hx;simp[execOp,hop,resolve,invoke,builtin,hs,hx,hr,Result.andThen];exact hK v w (by simpa using hown) hall (Ax _ _)
 .obtain⟨g,o,rfl,hS,-⟩:=hp h0;obtain⟨v',w',hr,h2,h3,_⟩:=run_append_own (P:=prog) w base 22 op.type 9 ii _ 1 16 underlying22 hi a0 a1 a2 rfl aS v ys.length _ hown ⟨g,o,none⟩ ss.length cx (ss.map Value.string) dC (X6 hS) (GN ss) (by unfold maxLen;omega) oM hbase;have h4:=Aff hown hall hpos hS hlen hr;unfold Oper.wp;simp[execOp,hop,resolve,invoke,builtin,hs,hx,hr,Result.andThen];exact hK v' w' (by unfold F9;simpa using h2) h4 h3
theorem AcO{a:Act}{Q:Exit->Act->World->Prop}(hgd:op.guard=none)(s x:Operand)(hop:op.op=Op.call {callee:=Callee.builtin Builtin.append,args:=#[s,x],argTypes:=#[22,22]})
  (base:Nat) (v xv:Value) (ys ss:List BA) (hs:a.eval s=v) (hown:F9 w base v ys) (hall:Bo w v) (hpos:0<ys.length) (hx:a.eval x=xv) (hL:Ls w xv ss) (hlen:ys.length+ss.length<=1000000) (hbase:base<=w.heap.size)
  (h:∀v' w',F9 w' base v' (ys++ss)->Bo w' v'->w.grownBy w' v.ownBlock->wpList prog ops Q rest (a.put op.dst v') w'):wpList prog ops Q (op::rest) a w :=
 wpList_plain hgd λK hK=>by
  have hw:Region.wanted op (yielded ops a.tmps)=true:=by simp[Region.wanted,hgd]
  have:=PI (ops:=ops) (Q:=Q) (K:=K) (E:=False) hw s x hop base v xv ys ss hs hown hall hpos hx hL hlen hbase λv' w' h2 h3 h4=>hK _ _ (h v' w' h2 h3 h4);rw[if_pos hw] at this;exact this
theorem ZO(w:World)(n:Int)(h0:0<=n)(h1:n<10):
  (convert 77 9 (Sy w.heap.size 1 1)).run prog (w.alloc (Kz [.int .u8 (48+n)] 5))=.ok (Tz ⟨#[UInt8.ofNat (48+n).toNat]⟩) (w.alloc (Kz [.int .u8 (48+n)] 5)):=by
 refine run_convert_bytes_back (P:=prog) (w.alloc (Kz [.int .u8 (48+n)] 5)) 77 9 5 ⟨w.heap.size,0,none⟩ 1 [UInt8.ofNat (48+n).toNat] underlying77 underlying5 underlying9 (λj hj=>?_);obtain rfl:j=0:=by simpa using hj
 have e:((UInt8.ofNat (48+n).toNat).toNat:Int)=48+n:=by
  rw[UInt8.toNat_ofNat'];omega
 simp only[List.getElem_cons_zero,e];simp[go_sem,Addr.add]
theorem JA(W:World)(g:Nat)(x:Int)(h0:0<=x)(h1:x<256)(hc:AS W g 0 (.int .u8 x)):
  (convert 77 9 (Sy g 1 1)).run prog W=.ok (Tz ⟨#[UInt8.ofNat x.toNat]⟩) W:=by
 refine run_convert_bytes_back (P:=prog) W 77 9 5 ⟨g,0,none⟩ 1 [UInt8.ofNat x.toNat] underlying77 underlying5 underlying9 (λj hj=>?_);obtain rfl:j=0:=by simpa using hj
 have e:((UInt8.ofNat x.toNat).toNat:Int)=x:=by
  rw[UInt8.toNat_ofNat'];omega
 simp only[List.getElem_cons_zero,e];exact hc
theorem Aia{t:TypeId}(h:Below (w.alloc (Kz [.int .u8 x] t)).drew.heap.size (w.alloc (Kz [.int .u8 x] t)).drew w1):AS w1 w.heap.size 0 (.int .u8 x) :=
 (h.cell (p:=⟨w.heap.size,0,none⟩) dC).trans (by simp[go_sem])
end
end Go.Proofs.YtaffjphkobhagaaGreatDoor
