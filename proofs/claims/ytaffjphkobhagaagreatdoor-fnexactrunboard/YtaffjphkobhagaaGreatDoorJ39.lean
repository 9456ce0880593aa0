/- Control, and operations that bear on no old memory, computed. -/
import Derived.Test.YtaffjphkobhagaaGreatDoorJ35
import Derived.Test.YtaffjphkobhagaaGreatDoorJ32
import Derived.Test.YtaffjphkobhagaaGreatDoorJ37
set_option maxHeartbeats 2000000
namespace Go.Proofs.YtaffjphkobhagaaGreatDoor
open Proofs.Tryz
variable{xs:Array Operand}{ats:Array TypeId}{buf:Array Value}{held tm:Bool}{s:BA}{fn:Func}{ss:List BA}{k0:List Item}{vs:List Value}{B H b base fuel j m0:Nat}{sp:Nat->Bool}{ob:Obj}{a:Option Addr}{P:Program}{e:TypeId}{v v0:Value}{R:Value->World->Prop}{w1:World}
namespace Bd
open Go.Conc Go.RowKit
def np:Obj->Bool
 | .pending ..=>false
 | _=>true
def sm{α:Type}(P:Program):Nat->Nat->Sem α->Option (α×List Obj)
 | _+1,_,.pure a=>some (a,[])
 | n+1,z,.program k=>sm P n z (k P)
 | n+1,z,.new o k=>match np o,sm P n (z+1) (k z) with
  | true,some (a,l)=>some (a,o::l)
  | _,_=>none
 | _,_,_=>none
def pushes(w:World):List Obj->World
 | []=>w
 | o::l=>pushes (D6 w o) l
theorem NB:∀(os os')(w:World),pushes w (os++os')=pushes (pushes w os) os'
 | [],_,_=>rfl
 | _::os,os',_=>NB os os' _
theorem KG:∀(os:List Obj)(w:World)(d:Nat),pushes (w.at d) os=(pushes w os).at d
 | [],_,_=>rfl
 | o::os,w,d=>KG os (D6 w o) d
theorem Ex:∀(os:List Obj)(w:World),(pushes w os).heap.size=w.heap.size+os.length
 | [],_=>rfl
 | o::os,w=>by
  rw[pushes,Ex os,List.length_cons,D6,Array.size_push];omega
theorem Tn{α:Type}{P:Program}:∀(n z:Nat)(q:Sem α) {a:α} {os:List Obj},sm P n z q=some (a,os)->∀w es,w.heap.size=z->q.runT P w es=(.ok a (pushes w os),es)
 | 0,_,q,_,_,h,_,_,_=>by cases q<;>cases h
 | n+1,z,q,a,os,h,w,es,hz=>by
  cases q<;>simp only[sm] at h<;>first|(cases h;done)|skip
  .obtain⟨rfl,rfl⟩:=Prod.mk.inj (A5 h);rfl
  .rename_i o k;split at h
   .rename_i a' l _ e;obtain⟨rfl,rfl⟩:=Prod.mk.inj (A5 h);subst hz;exact Tn n _ _ e (D6 w o) es (by simp[D6])
   .grind
  .exact Tn n z _ h w es hz
def lk(x:Nat)(e:Value):List (Nat×Value)->Value
 | []=>e
 | (y,v)::l=>match Nat.beq y x with
  | true=>v
  | false=>lk x e l
def ru(l:List (Nat×Value))(u:Nat->Value):Operand->Value
 | .tmp x=>lk x (u x) l
 | .const v=>v
 | .global g=>.pointer (some ⟨g,0,none⟩)
 | .func f=>.func (.func f) #[] #[]
def pt(d:Nat)(v:Value)(l:List (Nat×Value)):List (Nat×Value):=(d,v)::l.filter λp=>!Nat.beq p.1 d
noncomputable def ev1(n:Nat)(r:Option Nat)(u:Nat->Value)(z:Nat):List Item->List (Nat×Value)->Option (List Item×List (Nat×Value)×List Obj)
 | .inRegion ops (i::rest)::k,l=>match ops[i]? with
  | some o=>match o.guard,Nn r o.op,sm prog 60 z (execOp (ru l u) o) with
   | none,true,some (.value v,os)=>match o.dst with
    | some d=>match Nat.ble n d with
     | true=>none
     | false=>some (.inRegion ops rest::k,pt d v l,os)
    | none=>some (.inRegion ops rest::k,l,os)
   | _,_,_=>none
  | none=>none
 | k,l=>match ctl (λx=>match ru l u x with | .bool t=>some t|_=>none) k with
  | some k'=>some (k',l,[])
  | none=>none
noncomputable def evs(n:Nat)(r:Option Nat)(u:Nat->Value):Nat->Nat->List Item->List (Nat×Value)->Option (List Item×List (Nat×Value)×List Obj)
 | 0,_,k,l=>some (k,l,[])
 | N+1,z,k,l=>match ev1 n r u z k l with
  | some (k',l',os)=>match evs n r u N (z+os.length) k' l' with
   | some (a,b,c)=>some (a,b,os++c)
   | none=>none
  | none=>none
section
variable {Shun:Loc->Prop} {Post:Value->World->Prop} {f:FuncId} {n:Nat} {cs:List Frame} {r:Option Nat} {ds:List Deferred} {u:Nat->Value} {T:Array Value} {l:List (Nat×Value)} {k:List Item}
theorem Adu(x:Nat):∀l:List (Nat×Value),(∀p∈l,T.getD p.1 undef=p.2)->lk x (T.getD x undef) l=T.getD x undef
 | [],_=>rfl
 | (y,v)::l,h=>by
  unfold lk;split
  .simp_all
  .exact Adu x l λp hp=>h p (C7 _ hp)
theorem Agr(x d:Nat)(v e e':Value)(he:x≠d->e=e'):∀l:List (Nat×Value),lk x e (pt d v l)=match Nat.beq d x with|true=>v|false=>lk x e' l:=λl=>by
 unfold pt;rw[lk];split
 .rfl
 .rename_i hd;have hx:x≠d:=λc=>by subst c;simp at hd
  rw[he hx];induction l with
  | nil=>rfl
  | cons p l ih =>
   rw[List.filter_cons];cases hb:Nat.beq p.1 d with
   | true =>
    have:=Nat.eq_of_beq_eq_true hb;have h2:Nat.beq p.1 x=false:=by rwa[this]
    simp[lk,h2];exact ih
   | false =>
    simp only[Bool.not_false,if_true,lk];rw[ih]
theorem Adv(hu:∀x,T.getD x undef=lk x (u x) l):(ff f T k r ds).eval=ru l u:=by
 funext x
 cases x<;>first|rfl|exact hu _
theorem Has.pt(h:Has n T l)(d:Nat)(v:Value)(hd:d<n):Has n (T.setIfInBounds d v) (pt d v l) :=
 (h.sub (l':=l.filter λp=>!Nat.beq p.1 d) λp hp=>(List.mem_filter.1 hp).1).put d v hd λp hp e=>by
  simp_all
theorem Ags:∀(N:Nat) {T:Array Value} {l l1:List (Nat×Value)} {k0 k1:List Item} {os:List Obj} {V:World} {gs:Array Goroutine} {t:Trace} {sl:Option (Nat×Nat)},(∀x,T.getD x undef=lk x (u x) l)->Has n T l->F0 prog Shun gs (G (ff f T k0 r ds) cs) t->evs n r u N V.heap.size k0 l=some (k1,l1,os)->
  (∀gs' sl' t' d T',F0 prog Shun gs' (G (ff f T' k1 r ds) cs) t'->Has n T' l1->D9 prog Post (crowd gs' ((pushes V os).at d) sl') t')->D9 prog Post (crowd gs V sl) t
 | 0,T,l,l1,k0,k1,os,V,gs,t,sl,_,hT,hh,e,kk=>by
  cases e
  exact kk gs sl t V.drawn T hh hT
 | N+1,T,l,l1,k0,k1,os,V,gs,t,sl,hu,hT,hh,e,kk=>by
  have next:∀{k' l' os1 T'} {gs':Array Goroutine} {t':Trace} {sl':Option (Nat×Nat)} {d:Nat},ev1 n r u V.heap.size k0 l=some (k',l',os1)->(∀x,T'.getD x undef=lk x (u x) l')->Has n T' l'->F0 prog Shun gs' (G (ff f T' k' r ds) cs) t'->D9 prog Post (crowd gs' ((pushes V os1).at d) sl') t':=λ{k' l' os1 T' gs' t' sl' d} e1 hu' hT' hh'=>by
   unfold evs at e;rw[e1] at e;simp only at e;split at e
   .rename_i a b c e2;obtain⟨rfl,e3⟩:=Prod.mk.inj (A5 e);obtain⟨rfl,rfl⟩:=Prod.mk.inj e3;refine Ags N (V:=(pushes V os1).at d) hu' hT' hh' (by rw[← e2];congr 1;exact Ex ..) λgs'' sl'' t'' d' T'' h1 h2=>?_;rw[KG,← NB];exact kk gs'' sl'' t'' d' T'' h1 h2
   .cases e
  cases e1:ev1 n r u V.heap.size k0 l with
  | none=>unfold evs at e;rw[e1] at e;cases e
  | some q =>
   obtain⟨k',l',os1⟩:=q;have e0:=e1;unfold ev1 at e1;split at e1
   .rename_i l0 ops i rest k;split at e1
    .rename_i o ho;split at e1
     .rename_i v os' hg hn hs
      have hx:∀d,(execOp (ff f T (.inRegion ops (i::rest)::k) r ds).eval o).runT prog (V.at d) #[]=(.ok (.value v) ((pushes V os').at d),#[]):=λd=>by
       rw[Adv hu,← KG];exact Tn _ _ _ hs _ _ rfl
      refine FC (V':=pushes V os') ⟨rfl,hn,rfl,rfl,ho,hg⟩ hh (λd=>⟨#[],0,hx d,dC⟩) λgs' sl' t' d hh'=>?_;rw[P0 ho] at hh';split at e1
      .rename_i s hd;split at e1
       .cases e1
       .rename_i hb;cases e1
        have hs':s<n:=by
         rcases Nat.lt_or_ge s n with h|h
         .exact h
         .rw[Nat.ble_eq_true_of_le h] at hb;cases hb
        rw[hd] at hh';refine next e0 (λx=>?_) (hT.pt s v hs') hh'
        rw[Agr x s v (u x) (u x) (λ_=>rfl)];split
        .rename_i hx';obtain rfl:=Nat.eq_of_beq_eq_true hx';simp[Array.getD,hT.1,hs']
        .rename_i hx';have a0:s≠x:=λc=>by subst c;simp at hx'
         rw[← hu x];simp[Array.getD_eq_getD_getElem?,Array.getElem?_setIfInBounds_ne a0]
      .rename_i hd;cases e1
       rw[hd] at hh';exact next e0 hu hT hh'
     .cases e1
    .cases e1
   .split at e1
    .rename_i k2 hc;cases e1
     refine E8 (Walk.one (g':=G (ff f T k' r ds) cs) rfl λw=>Td (b:=ff f T [] r ds) rfl (λx t h=>?_) hc w) hh λgs' sl' t' d hh'=>next e0 hu hT hh'
     rw[Adv hu];split at h
     .rename_i b hb;obtain rfl:=A5 h;exact hb
     .cases h
    .cases e1
theorem Agt(N:Nat)(k1:List Item)(l1:List (Nat×Value))(os:List Obj){V:World}{gs:Array Goroutine}{t:Trace}{sl:Option (Nat×Nat)}(hh:F0 prog Shun gs (G (ff f T k0 r ds) cs) t)(hT:Has n T l)
  (kk:∀gs' sl' t' d T',F0 prog Shun gs' (G (ff f T' k1 r ds) cs) t'->Has n T' l1->D9 prog Post (crowd gs' ((pushes V os).at d) sl') t') (e:∀u,evs n r u N V.heap.size k0 l=some (k1,l1,os):=by intro u;kernel_rfl):D9 prog Post (crowd gs V sl) t :=
 Ags N (λx=>(Adu x l λp hp=>by simp[hT.2 p hp]).symm) hT hh (e _) kk
end
theorem AcC(T:Array Value)(n:Nat)(h:T.size=n):T=((List.range n).map λi=>T.getD i undef).toArray:=by
 refine Array.ext (by grind) λi h1 h2=>?_;simp[h1]
end Bd
namespace Bd
open Go.Conc Go.ConcN Go.RowKit
theorem AeB{t ty:TypeId}{n c:Nat}(hu:P.underlying t=some (.slice e))(w:World)(es:Array Event):(Builtin.len_ #[t] ty #[Vz a n c]).runT P w es=(.ok (Iz (n)) w,es):=by
 show ((underlying t).bind _).runT P w es=_
 rw[Sem.runT_bind',IE hu];rfl
section
variable (f:Operand->Value) {o:Oper} {x y:Operand} (w:World)
theorem S5(hop:o.op=.assign x):(execOp f o).runT prog w #[]=(.ok (.value (f x)) w,#[]):=by unfold execOp;rw[hop];rfl
theorem Qy{t:TypeId}(hu:prog.underlying t=some (.slice e))(hop:o.op=.call {callee:=.builtin .len,args:=#[x],argTypes:=#[t]}){n c:Nat}(hx:f x=Vz a n c):(execOp f o).runT prog w #[]=(.ok (.value (Iz (n:Int))) w,#[]):=by
 have h:=AeB (ty:=o.type) (a:=a) (n:=n) (c:=c) hu w #[];rw[Sem.runT_eq] at h;obtain⟨h1,h2⟩:=Prod.mk.inj h;unfold execOp;rw[hop];simp[go_sem,invoke,hx,h1,h2]
theorem Nw(hop:o.op=.load 35 x){a:Addr}(hx:f x=.pointer (some a))(hc:w.cell? a=some v):(execOp f o).runT prog w #[]=(.ok (.value v) w,#[⟨.cell a,false,false⟩]):=by
 unfold execOp;rw[hop];simp only[hx];exact I9 (SQ Nr rfl hc #[])
end
theorem Agi(hv:Value):Frame.enter prog 21 #[hv] .normal=sf (#[hv]++Array.replicate 40 undef) [.code SY]:=sI
theorem Agj:(prog.info? 87).map (·.size)=some 1:=sI
section
variable {Shun:Loc->Prop} {Post:Value->World->Prop} {cs:List Frame} {T:Array Value} {k:List Item}
end
noncomputable def L3(W:World)(hc:Array Value)(n:Nat):World:=D6 (laid (D6 (D6 (D6 W (.cells hc 38)) (.chan n #[] false 0 0 false)) (.cells #[.chan none] 87)) (W.heap.size+2) #[.chan (some (W.heap.size+1))] 87) (.cells #[.int .u64 0,.int .u32 0] 97)
section
variable {W:World} {hc:Array Value} {n:Nat}
theorem Co{w}{c:Array Value}{t}:(laid w B c t).heap.size=w.heap.size:=by simp[laid]
theorem E6{w:World}:(D6 w ob).heap.size=w.heap.size+1:=by simp[D6]
theorem Nx:(L3 W hc n).heap.size=W.heap.size+4:=by unfold L3;rw[E6,Co,E6,E6,E6]
theorem PA(h:b<W.heap.size):(L3 W hc n).heap[b]?=W.heap[b]?:=by
 unfold L3;rw[N6 (by rw[Co,E6,E6,E6];omega),BI oM,N6 (by rw[E6,E6];omega),N6 (by rw[E6];omega),N6 h]
theorem Ox:(L3 W hc n).heap[W.heap.size]?=some (.cells hc 38):=by
 unfold L3;rw[N6 (by rw[Co,E6,E6,E6];omega),BI oM,N6 (by rw[E6,E6];omega),N6 (by rw[E6];omega)];exact K9
theorem AeH:(L3 W hc n).heap[W.heap.size+1]?=some (.chan n #[] false 0 0 false):=by
 unfold L3;rw[N6 (by rw[Co,E6,E6,E6];omega),BI oM,N6 (by rw[E6,E6];omega)];have:=K9 (w:=D6 W (.cells hc 38)) (ob:=.chan n #[] false 0 0 false);rwa [E6] at this
theorem VZ:(L3 W hc n).heap[W.heap.size+2]?=some (Kz [.chan (some (W.heap.size+1))] 87):=by
 unfold L3;rw[N6 (by rw[Co,E6,E6,E6];omega)];exact El (by rw[E6,E6,E6];omega)
theorem AeI:(L3 W hc n).heap[W.heap.size+3]?=some (Kz [.int .u64 0,.int .u32 0] 97):=by
 unfold L3;have:=K9 (w:=laid (D6 (D6 (D6 W (.cells hc 38)) (.chan n #[] false 0 0 false)) (Kz [.chan none] 87)) (W.heap.size+2) #[.chan (some (W.heap.size+1))] 87) (ob:=.cells #[.int .u64 0,.int .u32 0] 97);rwa [Co,E6,E6,E6] at this
end
section
variable {Shun:Loc->Prop} {Post:Value->World->Prop} {cs:List Frame} {gs:Array Goroutine} {t:Trace} {sl:Option (Nat×Nat)} {W:World} {now last:Int} {a1 a2 a3 a4:Option Addr} {n1 c1 n2 c2 n3 c3 n4 c4:Nat}
theorem ahead(hS:∀a:Addr,W.heap.size<=a.block->¬Shun (.cell a))(hn:n3<=1048576)(hh:F0 prog Shun gs (G (Frame.enter prog 21 #[.agg #[Iz now,Iz last,Vz a1 n1 c1,Vz a2 n2 c2,Vz a3 n3 c3,Vz a4 n4 c4]] .normal) cs) t)
  (kk:∀gs' sl' t' d T,F0 prog Shun gs' (G (sf T [.code S3,.inLoop S3,.inBlock 0,.code BW]) cs) t'->Has 41 T [(16,Iz 0),(15,Iz (n3:Int)),(14,Vz a3 n3 c3),(4,Pz (W.heap.size+3) 0),(3,Pz (W.heap.size+2) 0),(1,Pz W.heap.size 0)]->D9 prog Post (crowd gs' ((L3 W #[Iz now,Iz last,Vz a1 n1 c1,Vz a2 n2 c2,Vz a3 n3 c3,Vz a4 n4 c4] n3).at d) sl') t'):D9 prog Post (crowd gs W sl) t:=by
 rw[Agi] at hh;have hT:Has 41 (#[Value.agg #[Iz now,Iz last,Vz a1 n1 c1,Vz a2 n2 c2,Vz a3 n3 c3,Vz a4 n4 c4]]++Array.replicate 40 undef) [(0,.agg #[Iz now,Iz last,Vz a1 n1 c1,Vz a2 n2 c2,Vz a3 n3 c3,Vz a4 n4 c4])]:=⟨dC,λp hp=>by simp at hp;subst hp;simp⟩;refine Agt 8 [.inRegion (rg 1) [1,2,3,4,5],.code (.seq (.region 2 (rg 2) false) (.seq (.seq (.region 3 (rg 3) false) (.block 0 (.loop S3))) BW))] [(9,Pz W.heap.size 4),(2,Nz),(1,Pz W.heap.size 0),(0,.agg #[Iz now,Iz last,Vz a1 n1 c1,Vz a2 n2 c2,Vz a3 n3 c3,Vz a4 n4 c4])] [.cells #[Iz now,Iz last,Vz a1 n1 c1,Vz a2 n2 c2,Vz a3 n3 c3,Vz a4 n4 c4] 38] hh hT λgs sl t d4 T hh hT=>?_;have q4:(D6 W (Kz [Iz now,Iz last,Vz a1 n1 c1,Vz a2 n2 c2,Vz a3 n3 c3,Vz a4 n4 c4] 38)).cell? ⟨W.heap.size,4,none⟩=some (Vz a3 n3 c3):=by simp[World.cell?,K9]
 refine N9 (.load 35 (.tmp 9)) 10 (V':=D6 (W.at d4) (Kz [Iz now,Iz last,Vz a1 n1 c1,Vz a2 n2 c2,Vz a3 n3 c3,Vz a4 n4 c4] 38)) (v:=Vz a3 n3 c3) hh hT (λ_ hop x=>⟨_,_,Nw _ _ hop (hT.ei 9) q4,by intro e he;simp at he;subst he;exact N7 (hS _ (A3 _))⟩) λgs sl t d5 T hh hT=>?_;refine F4 (.call {callee:=.builtin .len,args:=#[.tmp 10],argTypes:=#[35]}) 11 hh hT (λ_ e x=>Qy _ _ Nr e (hT.ei 10)) λgs sl t d6 T hh hT=>?_;refine N9 (.makeChan 87 (.tmp 11)) 12 (V':=D6 (D6 (W.at d6) (Kz [Iz now,Iz last,Vz a1 n1 c1,Vz a2 n2 c2,Vz a3 n3 c3,Vz a4 n4 c4] 38)) (.chan n3 #[] false 0 0 false)) (v:=.chan (some (W.heap.size+1))) hh hT (λ_ e x=>⟨#[],0,by have:=Age (sf T (.inRegion (rg 1) [3,4,5]::[.code (.seq (.region 2 (rg 2) false) (.seq (.seq (.region 3 (rg 3) false) (.block 0 (.loop S3))) BW))])).eval ((D6 W (Kz [Iz now,Iz last,Vz a1 n1 c1,Vz a2 n2 c2,Vz a3 n3 c3,Vz a4 n4 c4] 38)).at x) e (hT.ei 11) hn;rw[show ((D6 W (Kz [Iz now,Iz last,Vz a1 n1 c1,Vz a2 n2 c2,Vz a3 n3 c3,Vz a4 n4 c4] 38)).at x).heap.size=W.heap.size+1 from E6] at this;exact this,dC⟩) λgs sl t d7 T hh hT=>?_;have z2:(D6 (D6 W (Kz [Iz now,Iz last,Vz a1 n1 c1,Vz a2 n2 c2,Vz a3 n3 c3,Vz a4 n4 c4] 38)) (.chan n3 #[] false 0 0 false)).heap.size=W.heap.size+2:=by rw[E6,E6]
 refine N9 (.alloc 87) 3 (V':=D6 (D6 (D6 (W.at d7) (Kz [Iz now,Iz last,Vz a1 n1 c1,Vz a2 n2 c2,Vz a3 n3 c3,Vz a4 n4 c4] 38)) (.chan n3 #[] false 0 0 false)) (Kz [.chan none] 87)) (v:=Pz (W.heap.size+2) 0) hh hT (λ_ e x=>⟨#[],0,by rw[← z2];exact Agf _ _ e,dC⟩) λgs sl t d8 T hh hT=>?_;obtain⟨a5,hi,hz⟩:=B6.1 Agj;have hB:(D6 (D6 (D6 W (Kz [Iz now,Iz last,Vz a1 n1 c1,Vz a2 n2 c2,Vz a3 n3 c3,Vz a4 n4 c4] 38)) (.chan n3 #[] false 0 0 false)) (Kz [.chan none] 87)).heap[W.heap.size+2]?=some (.cells #[.chan none] 87 (0,0)):=by rw[← z2];exact K9
 refine FD (.store 87 (.tmp 3) (.tmp 12)) (V':=laid (D6 (D6 (D6 (W.at d8) (Kz [Iz now,Iz last,Vz a1 n1 c1,Vz a2 n2 c2,Vz a3 n3 c3,Vz a4 n4 c4] 38)) (.chan n3 #[] false 0 0 false)) (Kz [.chan none] 87)) (W.heap.size+2) #[.chan (some (W.heap.size+1))] 87) hh (λo hop x=>?_) λgs sl t d9 hh=>?_
 .obtain⟨a0,e1,e2⟩:=Np (P:=prog) (t:=87) (v:=.chan (some (W.heap.size+1))) (vs:=[.chan (some (W.heap.size+1))]) (w:=(D6 (D6 (D6 W (Kz [Iz now,Iz last,Vz a1 n1 c1,Vz a2 n2 c2,Vz a3 n3 c3,Vz a4 n4 c4] 38)) (.chan n3 #[] false 0 0 false)) (Kz [.chan none] 87)).at x) rfl (by simp[Value.oneCell']) hi (by rw[hz];rfl) hB rfl #[];refine⟨a0,W.heap.size+2+1,?_,λe he=>?_⟩
  .have e:∀f,execOp f o=(do Instr.storeAt 87 (f (.tmp 3)) (f (.tmp 12));pure .skip:Sem Next):=λf=>by unfold execOp;rw[hop]
   rw[e,hT.ei 3,hT.ei 12];exact Ek e1
  .rcases e2 e he with h|⟨j,rfl⟩
   .simp at h
   .exact N7 (hS _ (Nat.le_add_right _ 2))
 refine E8 (G6 (l':=[.inRegion (rg 2) [0],.code (.seq (.seq (.region 3 (rg 3) false) (.block 0 (.loop S3))) BW)]) 3 sI) hh λgs sl t d10 hh=>?_;have z3:(laid (D6 (D6 (D6 W (Kz [Iz now,Iz last,Vz a1 n1 c1,Vz a2 n2 c2,Vz a3 n3 c3,Vz a4 n4 c4] 38)) (.chan n3 #[] false 0 0 false)) (Kz [.chan none] 87)) (W.heap.size+2) #[.chan (some (W.heap.size+1))] 87).heap.size=W.heap.size+3:=by rw[Co,E6,z2]
 refine N9 (.alloc 97) 4 (V':=(L3 W #[Iz now,Iz last,Vz a1 n1 c1,Vz a2 n2 c2,Vz a3 n3 c3,Vz a4 n4 c4] n3).at d10) (v:=Pz (W.heap.size+3) 0) hh hT (λ_ e x=>⟨#[],0,by rw[← z3];exact Agg _ _ e,dC⟩) λgs sl t d11 T hh hT=>?_;refine E8 (G6 (l':=[.inRegion (rg 3) [0,1,2,3],.code (.block 0 (.loop S3)),.code BW]) 4 sI) hh λgs sl t d12 hh=>?_;refine F4 (.fieldAddr 38 (.tmp 1) 3) 13 hh hT (λ_ e x=>Qw _ _ e (hT.ei 1)) λgs sl t d13 T hh hT=>?_;have q5:(L3 W #[Iz now,Iz last,Vz a1 n1 c1,Vz a2 n2 c2,Vz a3 n3 c3,Vz a4 n4 c4] n3).cell? ⟨W.heap.size,4,none⟩=some (Vz a3 n3 c3):=by simp[World.cell?,Ox]
 refine N9 (.load 35 (.tmp 13)) 14 (V':=(L3 W #[Iz now,Iz last,Vz a1 n1 c1,Vz a2 n2 c2,Vz a3 n3 c3,Vz a4 n4 c4] n3).at d13) (v:=Vz a3 n3 c3) hh hT (λ_ hop x=>⟨_,_,Nw _ _ hop (hT.ei 13) q5,by intro e he;simp at he;subst he;exact N7 (hS _ (A3 _))⟩) λgs sl t d14 T hh hT=>?_;refine F4 (.call {callee:=.builtin .len,args:=#[.tmp 14],argTypes:=#[35]}) 15 hh hT (λ_ e x=>Qy _ _ Nr e (hT.ei 14)) λgs sl t d15 T hh hT=>?_;refine F4 (.move (.const (Iz 0))) 16 (v:=.int .i64 0) hh hT (λ_ e x=>by rw[Y2 e];rfl) λgs sl t d16 T hh hT=>?_;refine E8 (G6 (l':=[.code S3,.inLoop S3,.inBlock 0,.code BW]) 3 sI) hh λgs sl t d17 hh=>?_;exact kk gs sl t d17 T hh (hT.sub dC)
end
end Bd
namespace Bd
open Go.Conc Go.ConcN Go.RowKit
open Go.ConcR (DC0)
def JF(V:Nat->Prop)(W x:World):Prop:=∀b,V b->∃c e f f',W.heap[b]?=some (.cells c e f)/\x.heap[b]?=some (.cells c e f')
structure Qz (Shun:Loc->Prop) (W:World) (V:Nat->Prop) (hc:List Value) (n:Nat) (bcs:Nat->List Value) (line:Nat->BA) (bb oo:Nat):Prop where
 low:∀b,V b->b<W.heap.size
 gl:prog.globals.size<=W.heap.size
 vis:∀n,gB n=true->V n
 only:∀n,n<prog.globals.size->gB n=false->¬V n
 sh:∀a:Addr,V a.block->¬Shun (.cell a)
 shl:∀l,Shun l->∃a,l=.cell a/\a.block<W.heap.size
 cells:∀b,V b->∃c e f,W.heap[b]?=some (.cells c e f)/\(∀L,F1 (Y1 V L) c c)/\∀(i:Nat)(n:Int),c[i]?≠some (.int .u8 n)
 hv:∀L,VR (Y1 V L) (.agg hc.toArray) (.agg hc.toArray)
 hl:hc.length=6
 bl:∀i,i<n->(bcs i).length=6
 one:∀i,i<n->∀u∈bcs i,u.oneCell'=true
 bv:∀i,i<n->∀L,VR (Y1 V L) (.agg (bcs i).toArray) (.agg (bcs i).toArray)
 bat:0<n->V bb
 bats:∀i,i<n->∀(j:Nat) v,(bcs i)[j]?=some v->W.cell? ⟨bb,oo+i*6+j,none⟩=some v
 c1:∀i,i<n->∀x:World,JF V W x->Calls prog 56 #[.agg hc.toArray,.agg (bcs i).toArray] x λe u'=>∃v,e=.returned v/\∃a b c,v=.agg #[a,b,c]/\∀x:World,x.heap=u'.heap->Calls prog 55 #[.agg (bcs i).toArray,b] x λe _=>∃v,e=.returned v/\v=.string (line i)
 nm:n<=1048576
 nv:NV W
section
variable {Shun:Loc->Prop} {W:World} {V:Nat->Prop} {hc:List Value} {n:Nat} {bcs:Nat->List Value} {line:Nat->BA} {bb oo:Nat}
noncomputable def S6(Shun:Loc->Prop)(W:World)(n:Nat)(line:Nat->BA)(m0:Nat)(t0:Trace):F5:={P:=prog,ty:=97,Wg:=W.heap.size+3,Ch:=W.heap.size+1,Low:=W.heap.size+4,m0,n,val:=λi=>.agg #[.int .i64 (i:Int),.string (line i)],Shun,t0}
noncomputable def IL(W:World)(V:Nat->Prop)(hc:List Value)(bcs:Nat->List Value)(line:Nat->BA)(bb oo:Nat):Ie:=⟨V,W.heap.size+2,W.heap.size,hc,bcs,line,bb,oo⟩
theorem NV.push{w:World}(h:NV w)(np:∀c t,ob≠.pending c t):NV (D6 w ob):=λb c t hx=>by
 have hx:(w.heap.push ob)[b]?=_:=hx;rw[Array.getElem?_push] at hx;split at hx
 .simp_all
 .exact h b c t hx
theorem NV.laid{w:World}{c:Array Value}{t:TypeId}(h:NV w):NV (laid w B c t):=λb c' t' hx=>by
 have hx:(w.heap.setIfInBounds B _)[b]?=_:=hx;rw[Array.getElem?_setIfInBounds] at hx;split at hx
 .grind
 .exact h b c' t' hx
theorem Ac1{hc:Array Value}(h:NV W):NV (L3 W hc n):=by
 unfold L3;exact (((h.push dC).push dC).push dC).laid.push dC
theorem AeJ(h:Qz Shun W V hc n bcs line bb oo)(hm:1<=m0)(t0:Trace)(d:Nat):Ns (S6 Shun W n line m0 t0) ((L3 W hc.toArray n).at d) (IL W V hc bcs line bb oo):=by
 have hO:(S6 Shun W n line m0 t0).Ok:=⟨by simp[S6],by simp[S6],by simp[S6],hm,λl hl=>by
  obtain⟨a,e,ha⟩:=h.shl l hl;exact⟨a,e,by simp only[S6];omega,by simp only[S6];omega⟩,by have:=h.nm;simp only[S6];omega⟩
 have a0:∀b,b<W.heap.size+3->b≠W.heap.size+1->(∀a:Addr,a.block=b->¬Shun (.cell a))->XK (S6 Shun W n line m0 t0) b:=λb h1 h2 h3=>by
  refine⟨by simp only[S6];omega,by simp only[S6];omega,by simp only[S6];omega,λa ha hs=>?_⟩;rcases hs with hs|⟨a',e,ha'⟩
  .exact h3 a ha hs
  .cases e
   simp only[S6] at ha';omega
 have a2:∀b,W.heap.size<=b->∀a:Addr,a.block=b->¬Shun (.cell a):=λb hb a ha hs=>by
  obtain⟨a',e,h1⟩:=h.shl _ hs;cases e
  omega
 have a1:∀b,b<W.heap.size->((L3 W hc.toArray n).at d).heap[b]?=W.heap[b]?:=λb hb=>PA hb;have a3:((L3 W hc.toArray n).at d).heap.size=W.heap.size+4:=Nx;refine⟨rfl,hO,rfl,a0 _ (by simp[IL]) (by simp[IL]) (a2 _ (by simp[IL])),a0 _ (by simp[IL]) (by simp[IL]) (a2 _ (by simp[IL])),h.hl,h.hv _,h.bl,h.one,λi hi=>h.bv i hi _,λi hi x hx=>h.c1 i hi x λb hb=>?_,λ_ _=>rfl,⟨?_,h.vis,h.only,?_,?_,h.sh⟩,⟨λb hb=>?_,?_,λb hb=>?_⟩,λhn=>?_,λi hi j v hv=>?_,⟨_,_,VZ⟩,⟨_,_,Ox⟩⟩
 .obtain⟨c,e,f,h1,_⟩:=h.cells b hb;refine⟨c,e,f,(0,c.size),h1,?_⟩;rw[hx,Gf (by have:=h.low b hb;simp only[S6];omega)];unfold Bf;rw[if_pos (show (IL W V hc bcs line bb oo).V b from hb),a1 b (h.low b hb),h1]
 .have:=h.gl;simp only[S6];omega
 iterate 2 .intro b hb;have:=h.low b hb;simp only[S6];omega
 .have:=h.low b hb;simp only[S6];omega
 .rw[a3];exact A3 _
 .obtain⟨c,e,f,h1,h2,h3⟩:=h.cells b hb;exact⟨c,e,f,(a1 b (h.low b hb)).trans h1,h2 _,h3⟩
 .have hb:=h.bat hn;have hl:=h.low _ hb;exact a0 _ (by show bb<_;omega) (by show bb≠_;omega) λa ha hs=>h.sh a (by rw[ha];exact hb) hs
 .have hn:0<n:=by simp only[S6] at hi;omega
  rw[C2 (w:=W) (a1 bb (h.low _ (h.bat hn)))];exact h.bats i hi j v hv
theorem AeK{now last:Int}{a1 a2 a3 a4:Option Addr}{n1 c1 n2 c2 c3 n4 c4:Nat}(hhc:hc.toArray=#[Iz now,Iz last,Vz a1 n1 c1,Vz a2 n2 c2,Vz a3 n c3,Vz a4 n4 c4])(h:Qz Shun W V hc n bcs line bb oo)(ha3:0<n->a3=some ⟨bb,oo,none⟩){Post:Value->World->Prop}{gs sl}{t:Trace}{cs}
  (hh:F0 prog Shun gs (G (Frame.enter prog 21 #[.agg hc.toArray] .normal) cs) t)
  (kk:∀gs' w' sl' t' T d (L:List Nat),F0 prog (λl=>Shun l\/ShN (W.heap.size+3) l) gs' (G (sf T [.inRegion (rg 9) [],.code Bl]) cs) t'->BX (S6 Shun W n line 0 #[]) (IL W V hc bcs line bb oo) c3 n T->Sk (S6 Shun W n line 0 #[]) ((L3 W hc.toArray n).at d) w'->WgLive 97 (W.heap.size+3) w'->w'.heap[W.heap.size+1]?=some (.chan n (L.map λi:Nat=>Value.agg #[Iz (i:Int),Tz (line i)]).toArray false L.length 0 false)->L.Nodup->(∀i,i∈L↔i<n)->D9 prog Post (crowd gs' w' sl') t'):D9 prog Post (crowd gs W sl) t:=by
 rw[hhc] at hh;refine ahead (λa ha hs=>?_) h.nm hh λgs1 sl1 t1 d1 T hh1 hT=>?_
 .obtain⟨a',e,h1⟩:=h.shl _ hs;cases e
  omega
 rw[← hhc];obtain⟨q1,b1⟩:=hh1.leave;obtain⟨B1,b2⟩:=hh1.fr;have a9:=(D1.1 hh1.zero).1;have g:=AeJ h a9 t1 d1;have hS:BX (S6 Shun W n line gs1.size t1) (IL W V hc bcs line bb oo) c3 0 T:=⟨hT.1,hT.get 16 _ dC,hT.get 15 _ (by simp[S6]),λhn=>by rw[hT.get 14 (Vz a3 n c3) dC,ha3 hn];rfl,hT.get 4 _ (by simp[S6]),hT.get 3 _ (by simp[IL]),hT.get 1 _ (by simp[IL])⟩;have c7:Sk (S6 Shun W n line gs1.size t1) _ ((L3 W hc.toArray n).at d1):=⟨rfl,rfl,rfl,Ac1 h.nv,A3 _,λ_ _ _ _=>rfl⟩;have b0:Go.ConcR.WgAt (S6 Shun W n line gs1.size t1).ty (S6 Shun W n line gs1.size t1).Wg ((L3 W hc.toArray n).at d1) 0 0:=AeI;have c8:=Aga (cs:=cs) g hS c7 ⟨_,_,b0⟩;obtain⟨N,m',t',hr,b3,a2,w2,d0,q2,B2,L,rfl,b4,b5,a6,b6,b7,a7,b8,b9⟩:=AgS g.ok (λ_ _ h=>Ae4 h) (λg' w' h=>Aaz g.P g' w' h) b2 rfl hh1.zero b1 g.seen.le b0 (AeH) c8;refine D9.of_run hr ?_;have c9:F0 prog (S6 Shun W n line gs1.size t1).Sh b3 a2 t':=⟨b5,⟨q2,b8⟩,⟨B2,b9⟩⟩;obtain⟨m2,c5⟩:=a6 _ b6;refine OZ (B0:=0) (λ_ _ _ h e he=>by rw[h.2] at he;simp at he) c9 c5 λgs3 a3 w3 sl3 t3 hh3 hst3=>?_;obtain⟨T3,rfl,a5,a0,c6,a8⟩:=hst3;exact kk gs3 w3 sl3 t3 T3 d1 L hh3 ⟨a5.size,a5.s16,a5.s15,a5.s14,a5.s4,a5.s3,a5.s1⟩ ⟨a0.tape,a0.os,a0.output,a0.nv,a0.size,a0.low⟩ c6 a8 b7 a7
end
end Bd
namespace Bd
open Go.Conc Go.ConcN Go.RowKit
theorem Adp:Oq (rg 13) (og 13 0) 0 (.recv 87 (.tmp 30) true) (some 31):=oq sI
theorem Tk:prog.underlying 22=some (.slice 9):=sI
theorem Ahr:prog.underlying 9=some .string:=sI
theorem Adq:prog.underlying 3=some (.int .i64):=sI
theorem XZ:(prog.info? 9).map (λi=>(i.zero,i.size,i.bytes))=some (some (Ez),1,16):=sI
theorem Ait:(prog.info? 102).map (λi=>(i.zero,i.size))=some (some (.agg #[Iz 0,Ez]),2):=sI
section
variable (f:Operand->Value) {o:Oper} {x y:Operand} (w:World)
theorem JG{t:TypeId}{ds:TypeDesc}(hu:prog.underlying t=some ds)(hd:Bh ds=false)(hop:o.op=.load t x){a:Addr}(hx:f x=.pointer (some a))(hc:w.cell? a=some v):(execOp f o).runT prog w #[]=(.ok (.value v) w,#[⟨.cell a,false,false⟩]):=by
 unfold execOp;rw[hop];simp only[hx];exact I9 (SQ hu hd hc #[])
theorem AeL{t:TypeId}(hop:o.op=.call {callee:=.builtin .close,args:=#[x],argTypes:=#[t]}){r cap s rc:Nat}(hx:f x=.chan (some r))(hc:w.heap[r]?=some (.chan cap buf false s rc tm)):(execOp f o).runT prog w #[]=(.ok (.value (.tuple #[])) {w with heap:=w.heap.setIfInBounds r (.chan cap buf true s rc tm)},#[⟨.obj r,false,true⟩,⟨.obj r,true,true⟩]):=by
 have h1:=run_close_open (P:=prog) #[t] o.type hc;have h2:=events_close_open (P:=prog) (es:=#[]) #[t] o.type hc;unfold execOp;rw[hop];simp[go_sem,hx,h1,h2]
theorem Ahs(hop:o.op=.makeSlice 22 x x){n:Nat}(hx:f x=.int .i64 (n:Int))(hn:n<=1048576):(execOp f o).runT prog w #[]=(.ok (.value (Sy w.heap.size n n)) (D6 w (.cells (madeCells (Value.string ⟨#[]⟩).cells n) 9)),#[]):=by
 obtain⟨i,hi,hz⟩:=B6.1 XZ;simp at hz;obtain⟨hz,hs,hb⟩:=hz;unfold execOp;rw[hop];simp only[hx];refine I9 ?_;have h1:=run_make w 22 9 i _ Tk hi hz .i64 .i64 n n oM oM (by grind) oM;have h2:=events_make w 22 9 i _ Tk hi hz .i64 .i64 n n oM oM (by grind) oM (by grind) #[];simp[hs] at h1;rw[Sem.runT_eq,h1,h2];rfl
theorem Ya{n:Nat}(hop:o.op=.extract x n){c:Array Value}(hx:f x=.tuple c)(hv:c[n]?=some v):(execOp f o).runT prog w #[]=(.ok (.value v) w,#[]):=by
 unfold execOp;rw[hop];simp only[hx,Instr.extract,hv];rfl
theorem Agk(hop:o.op=.alloc 102):(execOp f o).runT prog w #[]=(.ok (.value (Pz w.heap.size 0)) (D6 w (Kz [Iz 0,Ez] 102)),#[]):=by
 unfold execOp;rw[hop];exact I9 sI
theorem Aht(hop:o.op=.fieldAddr 102 x 0)(hx:f x=Pz H 0):(execOp f o).runT prog w #[]=(.ok (.value (Pz H 0)) w,#[]):=by
 unfold execOp;rw[hop];simp only[hx];exact I9 sI
theorem Ahu(hop:o.op=.fieldAddr 102 x 1)(hx:f x=Pz H 0):(execOp f o).runT prog w #[]=(.ok (.value (Pz H 1)) w,#[]):=by
 unfold execOp;rw[hop];simp only[hx];exact I9 sI
theorem Ahv(hop:o.op=.indexAddr 22 x y){n c i:Nat}(hx:f x=Sy B n c)(hy:f y=.int .i64 (i:Int))(hi:i<n):(execOp f o).runT prog w #[]=(.ok (.value (Pz B i)) w,#[]):=by
 obtain⟨a1,a0,hz⟩:=B6.1 XZ;simp[Prod.mk.injEq] at hz;obtain⟨-,hs,-⟩:=hz;unfold execOp;rw[hop];simp only[hx,hy];have:=Ou Tk a0 hi (a:=⟨B,0,none⟩) (c:=c) w #[];rw[hs,IJ,Nat.zero_add,Nat.mul_one] at this;exact I9 this
theorem Ahw(hop:o.op=.store 9 x y){a:Addr}(hx:f x=.pointer (some a))(hy:f y=Tz s)(hc:w.cell? a=some v0)(hf:w.frozen? a=false):(execOp f o).runT prog w #[]=(.ok .skip (w.setCell a (Tz s)),#[⟨.cell a,true,false⟩]):=by
 obtain⟨a0,a1,hz⟩:=B6.1 XZ;simp at hz;obtain⟨-,hs,-⟩:=hz;have e:execOp f o=(do Instr.storeAt 9 (f x) (f y);pure .skip):=by unfold execOp;rw[hop]
 rw[e,hx,hy];refine Ek ?_;show ((sizeOf 9).bind _).runT prog w #[]=_
 rw[Sem.runT_bind',Gg a1];show (if (Value.string s).cells.size≠a0.size then _ else storeCells a (Value.string s).cells.toList).runT prog w #[]=_
 rw[if_neg (by rw[hs];simp[Value.cells])];show ((store _ _).bind _).runT prog w #[]=_
 rw[show a.add 0=a from rfl,Sem.runT_bind',show (store a _).runT prog w #[]=_ by simp only[store,Sem.runT,hc,hf];rfl];rfl
end
noncomputable def Ev:Code:=.seq (.region 16 (rg 16) false) .ret
noncomputable def Aa3:Code:=.seq (.region 11 (rg 11) false) (.seq (.seq (.region 12 (rg 12) false) (.block 2 (.loop An))) Ev)
noncomputable def inC:Code:=.seq (.cond (.tmp 32) .skip (.exit 2)) (.block 3 (.seq (.region 14 (rg 14) false) (.region 15 (rg 15) false)))
section
variable {cs:List Frame} {T:Array Value} {k:List Item}
theorem Adr:Walk prog true 2 (G (sf T (.code An::k)) cs) (G (sf T (.inRegion (rg 13) [0,1]::.code inC::k)) cs):=G6 2 sI
theorem Ah1(e32:T[32]?=some (.bool true)):Walk prog true 7 (G (sf T (.inRegion (rg 13) []::.code inC::k)) cs) (G (sf T (.inRegion (rg 14) [0,1,2]::.code (.region 15 (rg 15) false)::.inBlock 3::k)) cs):=CA e32 7 sI
theorem Ah2:Walk prog true 2 (G (sf T (.inRegion (rg 14) []::.code (.region 15 (rg 15) false)::k)) cs) (G (sf T (.inRegion (rg 15) [0,1,2,3,4,5,6]::k)) cs):=G6 2 sI
theorem Ah3:Walk prog true 3 (G (sf T (.inRegion (rg 15) []::.inBlock 3::.inLoop An::k)) cs) (G (sf T (.code An::.inLoop An::k)) cs):=G6 3 sI
end
structure Ny (W V:World) (n:Nat) (line:Nat->BA) (Lb:Nat) (rem:List Nat):Prop where
 tape:V.tape=W.tape
 os:V.os=W.os
 output:V.output=W.output
 nv:NV V
 low:∀b,b<W.heap.size->V.heap[b]?=W.heap[b]?
 lb:W.heap.size+4<=Lb
 ch:∃s r,V.heap[W.heap.size+1]?=some (.chan n (rem.map λi:Nat=>Value.agg #[.int .i64 (i:Int),.string (line i)]).toArray true s r false)
 ln:∃c:Array Value,V.heap[Lb]?=some (.cells c 9)/\c.size=n/\∀i,i<n->i∉rem->c[i]?=some (.string (line i))
 wg:WgLive 97 (W.heap.size+3) V
section
variable {Shun:Loc->Prop} {Post:Value->World->Prop} {gs:Array Goroutine} {t:Trace} {V V':World} {sl:Option (Nat×Nat)} {T:Array Value} {cs:List Frame} {ops:Array Oper} {i:Nat} {rest:List Nat} {k:List Item} {o:Oper} {l:List (Nat×Value)}
variable {W:World} {n:Nat} {line:Nat->BA} {Lb:Nat} {rem:List Nat}
theorem Ny.at(h:Ny W V n line Lb rem)(d:Nat):Ny W (V.at d) n line Lb rem:=⟨h.tape,h.os,h.output,h.nv,h.low,h.lb,h.ch,h.ln,h.wg⟩
theorem Tl(e30:T[30]?=some (.chan (some (W.heap.size+1)))):∃z,∀w,stepG prog true (G (sf T (.inRegion (rg 13) [0,1]::k)) cs) w=.comm (G (sf T (.inRegion (rg 13) [0,1]::k)) cs) #[rcase (W.heap.size+1) z] true (.recv true) w #[]:=by
 obtain⟨a1,a2,a3,a4⟩:=Adp;refine⟨.agg #[Iz 0,Ez],λw=>?_⟩;have a0:Bg (sf T _) _ 0 [1] k _:=⟨rfl,rfl,rfl,rfl,a1,a4⟩;rw[a0.step]
 have e:(execOp (sf T (.inRegion (rg 13) [0,1]::k)).eval (og 13 0)).runT prog w #[]=(.ok (.comm #[rcase (W.heap.size+1) (.agg #[Iz 0,Ez])] true (.recv true)) w,#[]):=by
  unfold execOp;rw[a2];simp only[S4 e30];show ((underlying 87).bind _).runT prog w #[]=_
  rw[Sem.runT_bind',IE KD];show ((zeroValue 102).bind _).runT prog w #[]=_
  rw[Sem.runT_bind',show (zeroValue 102).runT prog w #[]=(.ok _ w,#[]) by kernel_rfl];rfl
 unfold stepG.apply;simp only[e,a0.early,if_true,Bool.false_eq_true,if_false,seen_none];rfl
theorem PB:Go.Conc.served (G (sf T (.inRegion (rg 13) [0,1]::k)) cs) v=G (sf (T.setIfInBounds 31 v) (.inRegion (rg 13) [1]::k)) cs:=by
 obtain⟨a1,a2,a3,a4⟩:=Adp;show G ((sf T _).finish v) cs=_
 rw[P0 a1,a3]
theorem Aa5(hS:∀a:Addr,W.heap.size<=a.block->a.block≠W.heap.size+3->¬Shun (.cell a))
  (kk:∀gs' V' sl' t' T,F0 prog Shun gs' (G (sf T [.inRegion (rg 16) [0,1],.code .ret]) cs) t'->Has 41 T [(7,Sy Lb n n)]->Ny W V' n line Lb []->D9 prog Post (crowd gs' V' sl') t') :
  ∀(rem:List Nat)(V:World)(gs:Array Goroutine)(sl:Option (Nat×Nat)) (t:Trace) (T:Array Value),(∀i∈rem,i<n)->Ny W V n line Lb rem->Has 41 T [(30,.chan (some (W.heap.size+1))),(7,Sy Lb n n)]->
   F0 prog Shun gs (G (sf T [.code An,.inLoop An,.inBlock 2,.code Ev]) cs) t->D9 prog Post (crowd gs V sl) t:=by
 intro rem;induction rem with
 | nil =>
  intro V gs sl t T hr hB hT hh;refine E8 Adr hh λgs sl t d0 hh=>?_;obtain⟨z,hz⟩:=Tl (W:=W) (k:=[.code inC,.inLoop An,.inBlock 2,.code Ev]) (cs:=cs) (hT.gi 30);obtain⟨s,r,a7⟩:=hB.ch;refine Ae6 hh rfl (λd=>hz _) (show (V.at d0).heap[W.heap.size+1]?=some (.chan n #[] true s r false) from a7) λgs sl t d1 hh=>?_;rw[finishComm_recv,PB] at hh;have a2:=(hT.put 31 (recvd true z false) aS dC).sub (l':=[(31,.tuple #[z,.bool false]),(7,Sy Lb n n)]) (by simp[recvd]);refine F4 (.extract (.tmp 31) 1) 32 (v:=.bool false) hh a2 (λ_ e x=>Ya _ _ e (a2.ei 31) rfl) λgs sl t d2 T hh hT=>?_;refine E8 (CA (l':=[.inRegion (rg 16) [0,1],.code .ret]) (hT.gi 32) 6 sI) hh λgs sl t d3 hh=>?_;exact kk gs _ sl t T hh (hT.sub dC) (hB.at _)
 | cons a rem ih =>
  intro V gs sl t T hr hB hT hh;have ha:a<n:=hr a dC;refine E8 Adr hh λgs sl t d0 hh=>?_;obtain⟨z,hz⟩:=Tl (W:=W) (k:=[.code inC,.inLoop An,.inBlock 2,.code Ev]) (cs:=cs) (hT.gi 30);obtain⟨s,r,a7⟩:=hB.ch;refine Agb hh rfl (λd=>hz _) (show (V.at d0).heap[W.heap.size+1]?=_ from a7) dC λgs sl t d1 hh=>?_;rw[finishComm_recv,PB] at hh;have a2:=(hT.put 31 (.tuple #[.agg #[Iz (a:Int),Tz (line a)],.bool true]) aS dC);have a8:(((a::rem).map λi:Nat=>Value.agg #[Iz (i:Int),Tz (line i)]).toArray).getD 0 undef=.agg #[Iz (a:Int),Tz (line a)]:=dC
  have a3:(((a::rem).map λi:Nat=>Value.agg #[Iz (i:Int),Tz (line i)]).toArray).extract 1 (((a::rem).map λi:Nat=>Value.agg #[Iz (i:Int),Tz (line i)]).toArray).size=(rem.map λi:Nat=>Value.agg #[Iz (i:Int),Tz (line i)]).toArray:=by
   grind
  rw[a8] at hh;rw[a3];obtain⟨V1,a0⟩:∃V1,((V.at d0).at d1).setChan (W.heap.size+1) n (rem.map λi:Nat=>Value.agg #[Iz (i:Int),Tz (line i)]).toArray true s (r+1) false=V1:=⟨_,rfl⟩;rw[a0];have b7:W.heap.size+1<V.heap.size:=(D1.1 a7).1
  have far:∀b,b≠W.heap.size+1->V1.heap[b]?=V.heap[b]?:=λb hb=>by
   rw[← a0];show (V.heap.setIfInBounds _ _)[b]?=_
   rw[Array.getElem?_setIfInBounds_ne (λe=>hb e.symm)]
  have c8:=hB.lb
  have b8:V1.heap[W.heap.size+1]?=some (.chan n (rem.map λi:Nat=>Value.agg #[Iz (i:Int),Tz (line i)]).toArray true s (r+1) false):=by
   rw[← a0];show (V.heap.setIfInBounds _ _)[W.heap.size+1]?=_
   rw[Array.getElem?_setIfInBounds_self_of_lt b7]
  have b9:NV V1:=hB.nv.one (C:=W.heap.size+1) far b8 dC;have f1:V1.tape=W.tape/\V1.os=W.os/\V1.output=W.output:=by rw[← a0];exact⟨hB.tape,hB.os,hB.output⟩
  have c9:V1.heap.size=V.heap.size:=by rw[← a0];show (V.heap.setIfInBounds _ _).size=_;simp
  obtain⟨c,b4,b5,c6⟩:=hB.ln;have b2:V1.heap[Lb]?=some (.cells c 9):=(far Lb oM).trans b4;have c1:Lb<V1.heap.size:=(D1.1 b2).1;have c2:WgLive 97 (W.heap.size+3) V1:=by obtain⟨st,sm,h⟩:=hB.wg;exact⟨st,sm,by unfold Go.ConcR.WgAt at *;rw[far _ oM];exact h⟩
  have c3:∀b,b<W.heap.size->V1.heap[b]?=W.heap[b]?:=λb hb=>(far b oM).trans (hB.low b hb);clear a0;refine F4 (.extract (.tmp 31) 1) 32 (v:=.bool true) hh a2 (λ_ e x=>Ya _ _ e (a2.ei 31) rfl) λgs sl t d2 T hh hT=>?_;refine E8 (Ah1 (hT.gi 32)) hh λgs sl t d3 hh=>?_;refine F4 (.extract (.tmp 31) 0) 33 (v:=.agg #[Iz (a:Int),Tz (line a)]) hh hT (λ_ e x=>Ya _ _ e (hT.ei 31) rfl) λgs sl t d4 T hh hT=>?_;refine N9 (.alloc 102) 8 (V':=D6 V1 (Kz [Iz 0,Ez] 102)) (v:=Pz V1.heap.size 0) hh hT (λ_ e x=>⟨#[],0,Agk _ _ e,dC⟩) λgs sl t d5 T hh hT=>?_;obtain⟨c7,hi,b1⟩:=B6.1 Ait;simp only[Prod.mk.injEq] at b1;have a4:(D6 V1 (Kz [Iz 0,Ez] 102)).heap[V1.heap.size]?=some (.cells #[Iz 0,Ez] 102 (0,0)):=K9;refine FD (.store 102 (.tmp 8) (.tmp 33)) (V':=laid (D6 V1 (Kz [Iz 0,Ez] 102)) V1.heap.size #[Iz (a:Int),Tz (line a)] 102) hh (λo hop x=>?_) λgs sl t d6 hh=>?_
  .obtain⟨b6,e1,e2⟩:=Np (P:=prog) (t:=102) (v:=.agg #[Iz (a:Int),Tz (line a)]) (vs:=[Iz (a:Int),Tz (line a)]) (w:=(D6 V1 (Kz [Iz 0,Ez] 102)).at x) rfl (by simp[Value.oneCell']) hi (by rw[b1.2];rfl) a4 rfl #[];refine⟨b6,V1.heap.size+1,?_,λe he=>?_⟩
   .have e:∀f,execOp f o=(do Instr.storeAt 102 (f (.tmp 8)) (f (.tmp 33));pure .skip:Sem Next):=λf=>by unfold execOp;rw[hop]
    rw[e,hT.ei 8,hT.ei 33];exact Ek e1
   .rcases e2 e he with h|⟨j,rfl⟩
    .simp at h
    .exact N7 (hS _ (by show W.heap.size<=V1.heap.size;omega) (by show V1.heap.size≠_;omega))
  obtain⟨V2,a1⟩:∃V2,laid (D6 V1 (Kz [Iz 0,Ez] 102)) V1.heap.size #[Iz (a:Int),Tz (line a)] 102=V2:=⟨_,rfl⟩;rw[a1];have a5:∀b,b<V1.heap.size->V2.heap[b]?=V1.heap[b]?:=λb hb=>by rw[← a1,BI oM,N6 hb]
  have FH:V2.heap[V1.heap.size]?=some (Kz [Iz (a:Int),Tz (line a)] 102):=by rw[← a1];exact El (by rw[E6];omega)
  have c4:NV V2:=by rw[← a1];exact (b9.push dC).laid
  have f2:V2.tape=W.tape/\V2.os=W.os/\V2.output=W.output:=by rw[← a1];exact f1
  clear a1 a4;have q0:AS V2 V1.heap.size 0 (Iz (a:Int)):=by simp[World.cell?,FH]
  have q1:AS V2 V1.heap.size 1 (Tz (line a)):=by simp[World.cell?,FH]
  have ns:∀j,¬Shun (.cell ⟨V1.heap.size,j,none⟩):=λj=>hS _ (by show W.heap.size<=V1.heap.size;omega) (by show V1.heap.size≠_;omega);refine E8 Ah2 hh λgs sl t d7 hh=>?_;refine F4 (.move (.tmp 7)) 34 (v:=Sy Lb n n) hh hT (λ_ e x=>by rw[Y2 e,hT.ei 7]) λgs sl t d8 T hh hT=>?_;refine F4 (.fieldAddr 102 (.tmp 8) 0) 35 hh hT (λ_ e x=>Aht _ _ e (hT.ei 8)) λgs sl t d9 T hh hT=>?_;refine N9 (.load 3 (.tmp 35)) 36 (V':=V2) (v:=.int .i64 (a:Int)) hh hT (λ_ hop x=>⟨_,_,JG _ _ Adq rfl hop (hT.ei 35) q0,by intro e he;simp at he;subst he;exact N7 (ns 0)⟩) λgs sl t d10 T hh hT=>?_;refine F4 (.fieldAddr 102 (.tmp 8) 1) 37 hh hT (λ_ e x=>Ahu _ _ e (hT.ei 8)) λgs sl t d11 T hh hT=>?_;refine N9 (.load 9 (.tmp 37)) 38 (V':=V2) (v:=Tz (line a)) hh hT (λ_ hop x=>⟨_,_,JG _ _ Ahr rfl hop (hT.ei 37) q1,by intro e he;simp at he;subst he;exact N7 (ns 1)⟩) λgs sl t d12 T hh hT=>?_;refine F4 (.indexAddr 22 (.tmp 34) (.tmp 36)) 39 (v:=Pz Lb a) hh hT (λ_ e x=>Ahv _ _ e (hT.ei 34) (hT.ei 36) ha) λgs sl t d13 T hh hT=>?_;have a9:V2.heap[Lb]?=some (.cells c 9 (0,0)):=(a5 Lb c1).trans b2;have b0:a<c.size:=oM
  have qa:AS V2 Lb a c[a]:=by simp[World.cell?,a9,b0]
  have qf:V2.frozen? ⟨Lb,a,none⟩=false:=by simp[World.frozen?,a9]
  refine FD (.store 9 (.tmp 39) (.tmp 38)) (V':=V2.setCell ⟨Lb,a,none⟩ (Tz (line a))) hh (λ_ hop x=>⟨_,_,Ahw _ _ hop (hT.ei 39) (hT.ei 38) (show (V2.at x).cell? _=_ from qa) qf,by intro e he;simp at he;subst he;exact N7 (hS _ (by show W.heap.size<=Lb;omega) (by show Lb≠_;omega))⟩) λgs sl t d14 hh=>?_;refine E8 Ah3 hh λgs sl t d15 hh=>?_;have a6:∀b,b≠Lb->(V2.setCell ⟨Lb,a,none⟩ (Tz (line a))).heap[b]?=V2.heap[b]?:=λb hb=>Ll hb
  have b3:(V2.setCell ⟨Lb,a,none⟩ (Tz (line a))).heap[Lb]?=some (.cells (c.setIfInBounds a (Tz (line a))) 9):=by
   show (V2.heap.modify Lb _)[Lb]?=_
   rw[Array.getElem?_modify,if_pos rfl,a9];rfl
  have c5:Ny W (V2.setCell ⟨Lb,a,none⟩ (Tz (line a))) n line Lb rem:=by
   refine⟨f2.1,f2.2.1,f2.2.2,c4.one (C:=Lb) a6 b3 dC,λb hb=>?_,hB.lb,⟨s,r+1,?_⟩,⟨_,b3,by simp[b5],λi hi hn=>?_⟩,?_⟩
   iterate 3 .grind
   .obtain⟨st,sm,h⟩:=c2;refine⟨st,sm,?_⟩;unfold Go.ConcR.WgAt at *;rw[a6 _ oM,a5 _ oM];exact h
  exact ih _ gs sl t T (λi hi=>hr i (by simp[hi])) ((c5.at _).at _) (hT.sub dC) hh
end
theorem AeM{Shun:Loc->Prop}(hS:∀r,¬Shun (.obj r))(r:Nat)(wr:Bool):EvL Shun (r+1) ⟨.obj r,wr,true⟩:=by
 refine⟨λx hx h=>?_,dC,dC,?_⟩
 .cases wr<;>simp[MemAct.ofEvent,MemAct.touch?] at hx
  all_goals (subst hx;exact absurd h (hS _))
 .cases wr<;>exact Nat.lt_succ_self _
theorem Agm{T:Array Value}{c:Frame}{cs:List Frame}(e2:T[2]?=some v):Walk prog true 3 (G (sf T [.inRegion (rg 16) [],.code .ret]) (c::cs)) (G (c.finish v) cs):=Dv func21 results21 e2
section
variable {Shun:Loc->Prop} {W:World} {V:Nat->Prop} {hc:List Value} {n:Nat} {bcs:Nat->List Value} {line:Nat->BA} {bb oo:Nat} {Post:Value->World->Prop} {gs:Array Goroutine} {sl:Option (Nat×Nat)} {t:Trace} {c:Frame} {cs:List Frame} {now last:Int} {a1 a2 a3 a4:Option Addr} {n1 c1 n2 c2 c3 n4 c4:Nat}
theorem Ac2(hhc:hc.toArray=#[Iz now,Iz last,Vz a1 n1 c1,Vz a2 n2 c2,Vz a3 n c3,Vz a4 n4 c4])(h:Qz Shun W V hc n bcs line bb oo)(ha3:0<n->a3=some ⟨bb,oo,none⟩)
  (hh:F0 prog Shun gs (G (Frame.enter prog 21 #[.agg hc.toArray] .normal) (c::cs)) t)
  (kk:∀gs' V' sl' t' Lb,F0 prog (λl=>Shun l\/ShN (W.heap.size+3) l) gs' (G (c.finish (Sy Lb n n)) cs) t'->Ny W V' n line Lb []->D9 prog Post (crowd gs' V' sl') t'):D9 prog Post (crowd gs W sl) t:=by
 refine AeK hhc h ha3 hh λgs w sl t T d L hh hT hsk hwg hch hnd hmem=>?_
 have hS:∀a:Addr,W.heap.size<=a.block->a.block≠W.heap.size+3->¬(Shun (.cell a)\/ShN (W.heap.size+3) (.cell a)):=λa h1 h2 hs=>by
  rcases hs with hs|⟨a',e,a6⟩
  .obtain⟨a',e,a6⟩:=h.shl _ hs;cases e;omega
  .cases e;exact h2 a6
 have a9:∀r,¬(Shun (.obj r)\/ShN (W.heap.size+3) (.obj r)):=λr hs=>by
  rcases hs with hs|⟨a',e,a6⟩
  .obtain⟨a',e,a6⟩:=h.shl _ hs;cases e
  .cases e
 have a8:Has 41 T [(1,Pz W.heap.size 0),(3,Pz (W.heap.size+2) 0)]:=⟨hT.size,λp hp=>by
  rcases List.mem_cons.1 hp with rfl|hp
  .exact hT.s1
  .rcases List.mem_cons.1 hp with rfl|hp
   .exact hT.s3
   .cases hp⟩
 have wB:w.heap[W.heap.size+2]?=some (Kz [.chan (some (W.heap.size+1))] 87):=(hsk.low _ (by simp[S6]) (by simp[S6]) (by simp[S6])).trans VZ;have wH:w.heap[W.heap.size]?=some (.cells hc.toArray 38):=(hsk.low _ (by simp[S6]) (by simp[S6]) (by simp[S6])).trans Ox;have b0:∀b,b<W.heap.size->w.heap[b]?=W.heap[b]?:=λb hb=>(hsk.low b (by simp only[S6];omega) (by simp only[S6];omega) (by simp only[S6];omega)).trans (PA hb);have b3:W.heap.size+4<=w.heap.size:=by have:=hsk.size;rwa [show ((L3 W hc.toArray n).at d).heap.size=W.heap.size+4 from Nx] at this
 have wf:w.tape=W.tape/\w.os=W.os/\w.output=W.output:=⟨hsk.tape,hsk.os,hsk.output⟩;have wn:=hsk.nv;clear hsk;refine E8 (G6 (l':=[.inRegion (rg 10) [0,1],.code Aa3]) 3 sI) hh λgs sl t d0 hh=>?_;have qB:AS w (W.heap.size+2) 0 (.chan (some (W.heap.size+1))):=by simp[World.cell?,wB]
 refine N9 (.load 87 (.tmp 3)) 25 (V':=w.at d0) (v:=.chan (some (W.heap.size+1))) hh a8 (λ_ hop x=>⟨_,_,JG _ _ KD rfl hop (a8.ei 3) qB,by intro e he;simp at he;subst he;exact N7 (hS _ dC dC)⟩) λgs sl t d1 T hh hT=>?_;obtain⟨V1,a7⟩:∃V1:World,({w with heap:=w.heap.setIfInBounds (W.heap.size+1) (.chan n (L.map λi:Nat=>Value.agg #[Iz (i:Int),Tz (line i)]).toArray true L.length 0 false)}:World)=V1:=⟨_,rfl⟩;refine Agd (.call {callee:=.builtin .close,args:=#[.tmp 25],argTypes:=#[87]}) (V':=V1) (v:=.tuple #[]) hh (λ_ hop x=>⟨_,W.heap.size+1+1,by rw[← a7];exact AeL _ _ hop (hT.ei 25) hch,by intro e he;simp at he;rcases he with rfl|rfl<;>exact AeM a9 _ _⟩) λgs sl t d2 hh=>?_
 have far:∀b,b≠W.heap.size+1->V1.heap[b]?=w.heap[b]?:=λb hb=>by
  grind
 have b1:V1.heap[W.heap.size+1]?=some (.chan n (L.map λi:Nat=>Value.agg #[Iz (i:Int),Tz (line i)]).toArray true L.length 0 false):=by
  grind
 have b2:NV V1:=wn.one (C:=W.heap.size+1) far b1 dC;have b4:V1.heap.size=w.heap.size:=by rw[← a7];simp
 have f1:V1.tape=W.tape/\V1.os=W.os/\V1.output=W.output:=by rw[← a7];exact wf
 clear a7;refine E8 (G6 (l':=[.inRegion (rg 11) [0,1,2,3,4],.code (.seq (.seq (.region 12 (rg 12) false) (.block 2 (.loop An))) Ev)]) 3 sI) hh λgs sl t d3 hh=>?_;refine F4 (.fieldAddr 38 (.tmp 1) 3) 26 hh hT (λ_ e x=>Qw _ _ e (hT.ei 1)) λgs sl t d4 T hh hT=>?_;have qH:AS V1 W.heap.size 4 (Vz a3 n c3):=by simp[World.cell?,far W.heap.size oM,wH,hhc]
 refine N9 (.load 35 (.tmp 26)) 27 (V':=V1) (v:=Vz a3 n c3) hh hT (λ_ hop x=>⟨_,_,Nw _ _ hop (hT.ei 26) qH,by intro e he;simp at he;subst he;exact N7 (hS _ dC dC)⟩) λgs sl t d5 T hh hT=>?_;refine F4 (.call {callee:=.builtin .len,args:=#[.tmp 27],argTypes:=#[35]}) 28 hh hT (λ_ e x=>Qy _ _ Nr e (hT.ei 27)) λgs sl t d6 T hh hT=>?_;refine N9 (.makeSlice 22 (.tmp 28) (.tmp 28)) 29 (V':=D6 V1 (.cells (madeCells (Value.string ⟨#[]⟩).cells n) 9)) (v:=Sy V1.heap.size n n) hh hT (λ_ e x=>⟨#[],0,Ahs _ _ e (hT.ei 28) h.nm,dC⟩) λgs sl t d7 T hh hT=>?_;refine F4 (.assign (.tmp 29)) 7 (v:=Sy V1.heap.size n n) hh hT (λ_ e x=>by rw[S5 _ _ e,hT.ei 29]) λgs sl t d8 T hh hT=>?_;refine E8 (G6 (l':=[.inRegion (rg 12) [0],.code (.block 2 (.loop An)),.code Ev]) 4 sI) hh λgs sl t d9 hh=>?_;obtain⟨V2,a0⟩:∃V2,D6 V1 (.cells (madeCells (Value.string ⟨#[]⟩).cells n) 9)=V2:=⟨_,rfl⟩;have a5:∀b,b<V1.heap.size->V2.heap[b]?=V1.heap[b]?:=λb hb=>by rw[← a0];exact N6 hb
 have q2:AS V2 (W.heap.size+2) 0 (.chan (some (W.heap.size+1))):=by simp[World.cell?,a5 _ (show W.heap.size+2<V1.heap.size by omega),far (W.heap.size+2) oM,wB]
 rw[a0];refine N9 (.load 87 (.tmp 3)) 30 (V':=V2) (v:=.chan (some (W.heap.size+1))) hh hT (λ_ hop x=>⟨_,_,JG _ _ KD rfl hop (hT.ei 3) q2,by intro e he;simp at he;subst he;exact N7 (hS _ dC dC)⟩) λgs sl t d10 T hh hT=>?_;refine E8 (G6 (l':=[.code An,.inLoop An,.inBlock 2,.code Ev]) 3 sI) hh λgs sl t d11 hh=>?_
 have hB:Ny W V2 n line V1.heap.size L:=by
  refine⟨by rw[← a0];exact f1.1,by rw[← a0];exact f1.2.1,by rw[← a0];exact f1.2.2,by rw[← a0];exact b2.push dC,λb hb=>?_,oM,⟨L.length,0,?_⟩,⟨madeCells (Value.string ⟨#[]⟩).cells n,by rw[← a0];exact K9,size_madeCells _ _,λi hi hn=>absurd ((hmem i).2 hi) hn⟩,?_⟩
  .grind
  .grind
  .obtain⟨st,sm,hq⟩:=hwg;refine⟨st,sm,?_⟩;unfold Go.ConcR.WgAt at *;rw[a5 _ oM,far _ oM];exact hq
 refine Aa5 hS (λgs V3 sl t T hh hT hB=>?_) L _ gs sl t T (λi hi=>(hmem i).1 hi) ((hB.at _).at _) (hT.sub dC) hh;refine F4 (.move (.tmp 7)) 40 (v:=Sy V1.heap.size n n) hh hT (λ_ e x=>by rw[Y2 e,hT.ei 7]) λgs sl t d12 T hh hT=>?_;refine F4 (.assign (.tmp 40)) 2 (v:=Sy V1.heap.size n n) hh hT (λ_ e x=>by rw[S5 _ _ e,hT.ei 40]) λgs sl t d13 T hh hT=>?_;refine E8 (Agm (hT.gi 2)) hh λgs sl t d14 hh=>?_;exact kk gs _ sl t _ hh (((hB.at _).at _).at _)
end
end Bd
namespace Bd
open Go.Conc Go.ConcN Go.RowKit Go.Conc.Lib Go.ConcR.Gen Go.ConcN.Gen
open Ld (I8 none_ tp l_of setL sL)
theorem Dw(f:Operand->Value){o:Oper}{g:FuncId}{args:Array Value}(hop:o.op=.call {callee:=.value (.func g),args:=xs,argTypes:=ats})(hρ:f (.func g)=.func (.func g) #[] #[])(hv:xs.map f=args)(hf:prog.funcs[g]?=some fn)(hb:fn.body.isNone=false)(hn:(fn.name == "runtime.NumGoroutine")=false)(w):(execOp f o).runT prog w #[]=(.ok (.enter g args) w,#[]):=by
 have e2:execOp f o=callFunc g (xs.map f):=by
  unfold execOp;rw[hop]
  simp[resolve,hρ];show callFunc g _=_
  simp
 rw[e2,hv];exact Lj hf hb hn args w #[]
section
variable {Shun:Loc->Prop} {Post:Value->World->Prop} {gs:Array Goroutine} {t:Trace} {V:World} {sl:Option (Nat×Nat)} {f:FuncId} {n:Nat} {T:Array Value} {cs:List Frame} {ops:Array Oper} {i:Nat} {rest:List Nat} {k:List Item} {l:List (Nat×Value)} {g:FuncId} {args:Array Value}
theorem NA(p:Op){d:Option Tmp}(hh:F0 prog Shun gs (G (ff f T (.inRegion ops (i::rest)::k)) cs) t)(hx:∀o:Oper,o.op=p->∀w,(execOp (ff f T (.inRegion ops (i::rest)::k)).eval o).runT prog w #[]=(.ok (.enter g args) w,#[]))
  (kk:∀gs' sl' t' x,(∀v,(ff f T (.inRegion ops (i::rest)::k)).finish v=ff f (match d with|some s=>T.setIfInBounds s v|none=>T) (.inRegion ops rest::k))->F0 prog Shun gs' (G (Frame.enter prog g args .normal) (ff f T (.inRegion ops (i::rest)::k)::cs)) t'->D9 prog Post (crowd gs' (V.at x) sl') t') (hq:(ops[i]?.map λo=>(o.op,o.dst,o.guard))=some (p,d,none):=by kernel_rfl):D9 prog Post (crowd gs V sl) t:=by
 obtain⟨o,h,h2,h3⟩:=XS (r:=none) rfl hq;exact E8 (Walk.enter h (hx o h2)) hh λgs' sl' t' x=>kk gs' sl' t' x λv=>by rw[P0 h.at_,h3];rfl
def z(w:World):World:=tp w (λ_ _=>0) 0
theorem Tm(p:Op)(d:Nat)(hh:F0 prog none_ gs (G (ff f T (.inRegion ops (i::rest)::k)) cs) t)(hT:Has n T l)(hx:∀o:Oper,o.op=p->∀w,(execOp (ff f T (.inRegion ops (i::rest)::k)).eval o).runT prog w #[]=(.ok (.enter g args) w,#[]))(hc:∀x,I8 prog g args (V.at x) R)
  (kk:∀gs' w' sl' t' v T',F0 prog none_ gs' (G (ff f T' (.inRegion ops rest::k)) cs) t'->Has n T' ((d,v)::l)->NV w'->R v (z w')->Below V.heap.size (z V) (z w')->D9 prog Post (crowd gs' w' sl') t') (hn:∀p∈l,p.1≠d:=by simp) (hd:d<n:=by decide) (hq:(ops[i]?.map λo=>(o.op,o.dst,o.guard))=some (p,some d,none):=by kernel_rfl):D9 prog Post (crowd gs V sl) t:=by
 refine NA p hh hx (λgs1 sl1 t1 x hf hh1=>?_) hq;refine hc x Post _ cs gs1 sl1 t1 hh1 λgs' w' sl' t' v hh' hn' hR=>?_;rw[hf] at hh';exact kk gs' w' sl' t' v _ hh' (hT.put d v hd hn) hn' (hR _ _).1 (hR _ _).2
theorem Wa(hT:Has n T l):∀(ns:List Nat)(vs:List Value),ns.length=vs.length->(∀p∈ns.zip vs,p∈l)->(ns.map Operand.tmp).map (ff f T k).eval=vs
 | [],[],_,_=>rfl
 | x::ns,v::vs,h,hm=>by
  rw[List.map_cons,List.map_cons,Wa hT ns vs (by simp_all) λp hp=>hm p (C7 _ hp),hT.ei x (hm _ (List.mem_cons_self ..))]
theorem CC(g:FuncId)(ns:List Nat)(ats:Array TypeId)(d:Nat)(hh:F0 prog none_ gs (G (ff f T (.inRegion ops (i::rest)::k)) cs) t)(hT:Has n T l)(hc:∀x,I8 prog g vs.toArray (V.at x) R)
  (kk:∀gs' w' sl' t' v T',F0 prog none_ gs' (G (ff f T' (.inRegion ops rest::k)) cs) t'->Has n T' ((d,v)::l)->NV w'->R v (z w')->Below V.heap.size (z V) (z w')->D9 prog Post (crowd gs' w' sl') t') (hl:ns.length=vs.length:=by rfl) (hm:∀p∈ns.zip vs,p∈l:=by simp) (hn:∀p∈l,p.1≠d:=by simp) (hd:d<n:=by decide) (hf:(prog.funcs[g]?.map λfn=>(fn.body.isNone,fn.name == "runtime.NumGoroutine"))=some (false,false):=by kernel_rfl) (hq:(ops[i]?.map λo=>(o.op,o.dst,o.guard))=some (.call {callee:=.value (.func g),args:=(ns.map Operand.tmp).toArray,argTypes:=ats},some d,none):=by kernel_rfl):D9 prog Post (crowd gs V sl) t:=by
 obtain⟨fn,h1,h2⟩:=B6.1 hf;exact Tm _ d hh hT (λo e w=>Dw _ e rfl (by rw[List.map_toArray,Wa hT ns vs hl hm]) h1 (Prod.mk.inj h2).1 (Prod.mk.inj h2).2 w) hc kk hn hd hq
end
end Bd
namespace Bd
open Go.Conc Go.ConcN Go.RowKit
noncomputable def E0(c:Code)(n:Nat):Array Oper:=((Gl c)[n]?).getD #[]
noncomputable def U9(c:Code)(n i:Nat):Oper:=((E0 c n)[i]?).getD {dst:=none,op:=.move (.const undef),type:=0,pos:= "",after:=#[],guard:=none}
noncomputable def PC:Code:=Tryz.f45.body.getD .skip
noncomputable def P9:Code:=Tryz.f19.body.getD .skip
noncomputable def DV:Code:=Tryz.f51.body.getD .skip
noncomputable def J8:Code:=Tryz.f20.body.getD .skip
noncomputable def X5:Code:=Tryz.f7.body.getD .skip
noncomputable def Gp:Code:=.seq (.region 3 (E0 P9 3) false) (.seq (.cond (.tmp 10) .skip (.exit 0)) (.seq (.block 1 (.seq (.region 4 (E0 P9 4) false) (.seq (.region 5 (E0 P9 5) false) (.cond (.tmp 16) (.seq (.region 6 (E0 P9 6) false) .ret) .skip)))) (.region 7 (E0 P9 7) false)))
noncomputable def lpB:Code:=.seq (.region 6 (E0 X5 6) false) (.seq (.cond (.tmp 20) .skip (.exit 0)) (.seq (.block 1 (.seq (.region 7 (E0 X5 7) false) (.region 8 (E0 X5 8) false))) (.region 9 (E0 X5 9) false)))
end Bd
section
open Go.RowKit
theorem GF{w:World}(base:Nat)(t ty e:TypeId)(i:TypeInfo)(size:Nat)(ht:P.underlying t=some (.slice e))(hi:P.info? e=some i)
  (v:Value) (n:Nat) (xs:List Value) (hown:w.ownsRow base e size v n xs) (a:Option Addr) (c:Nat):(Builtin.append_ #[t,t] ty #[v,.slice a 0 c]).run P w=.ok v w:=by
 rcases hown.2 with⟨rfl,rfl⟩|⟨g,cap,cur,rfl,_,_,hnc,_⟩
 .cases a<;>simp[Builtin.append_,run_underlying ht,sizeOf,typeInfo,hi,Builtin.lenOf,Builtin.firstCells,loadCells,loadCellsFrom,Result.andThen]
 .cases a<;>simp[Builtin.append_,run_underlying ht,sizeOf,typeInfo,hi,Builtin.lenOf,Builtin.firstCells,hnc,storeCells,loadCells,loadCellsFrom,Result.andThen]
theorem Pk(w:World):F9 (w.alloc (Kz [] 9)) w.heap.size (Sy w.heap.size 0 0) []:=C0 w #[] 0 (A3 _) dC rfl
end
section
open Go.ChangeShapes Go.WideShapes Go.ChangeAt Go.RowKit
theorem NK:prog.cellsOf 117=3:=sI
theorem PK:prog.cellsOf 25=2:=sI
theorem UQ:prog.cellsOf 23=1:=sI
theorem Yt{H:Type}{enc:TypeId×Value->H}{w:World}{cs:List Value}{x:DataW H×List MemPlace}
  (h:DataW.trod enc prog w base sp held fuel 117 cs=some x):∃(y:Ba)(hv nv:Value),cs=[Tz y.nm,hv,nv]/\Ls w hv y.has/\Ls w nv y.nj/\y.nm.size<=maxLen:=by
 obtain⟨xs,m,_,rfl,hl,a0,hf⟩:=DataW.trod_struct underlying117 h;rw[NK] at hl;obtain⟨c0,c1,c2,rfl⟩:=Qm hl;obtain⟨y0,y1,y2,rfl⟩:=Qm (a0.trans rfl);have h0:=hf 0 {name:= "Name",type:=9,offset:=0,embedded:=false,tag:= "",pkgPath:= "",byteOffset:=0} rfl;have h1:=hf 1 {name:= "Has",type:=22,offset:=1,embedded:=false,tag:= "",pkgPath:= "",byteOffset:=16} rfl;have h2:=hf 2 {name:= "Needs",type:=22,offset:=2,embedded:=false,tag:= "",pkgPath:= "",byteOffset:=40} rfl;rw[AM] at h0;rw[PH] at h1 h2;obtain⟨nm,rfl,rfl,z0⟩:=L8 h0;obtain⟨a1,l1⟩:=JK h1;obtain⟨nj,l2⟩:=JK h2;exact⟨⟨nm,a1,nj⟩,c1,c2,rfl,l1,l2,z0⟩
theorem Yu{H:Type}{enc:TypeId×Value->H}{W:World}{x:DataW H×List MemPlace}
  (h:DataW.trod enc prog W base sp held fuel 23 [v]=some x):∃bs,Bs W v bs:=by
 rcases DataW.trod_slice underlying23 h with⟨hcs,_⟩|⟨a,len,cap,elems,rest,n,_,hcs,_,hb,hl,hm,hlen,hel,_,_⟩
 .obtain rfl:v=Nz:=by simpa using hcs
  exact⟨[],_,_,rfl,dC,λh=>by simp at h⟩
 .obtain rfl:v=Vz (some a) len cap:=by simpa using hcs
  clear hcs h;rw[NK] at hel
  have a0:∀i,i<len->∃y:Ba,∃hv nv:Value,W.cells? base (a.add (i*3)) 3=some [Tz y.nm,hv,nv]/\Ls W hv y.has/\Ls W nv y.nj/\y.nm.size<=maxLen:=by
   intro i hi;have h1:=hel i hi;rw[A0 oM] at h1;obtain⟨cs,hc,ht⟩:=Option.bind_eq_some_iff.1 h1;obtain⟨y,hv,nv,rfl,r⟩:=Yt ht;exact⟨y,hv,nv,hc,r⟩
  obtain⟨bs,a3,a4⟩:=FA len _ a0;rcases C3 len with h0|h0
  .subst h0;exact⟨[],_,_,rfl,dC,λh=>by simp at h⟩
  .obtain⟨b,o,a1⟩:=a
   have hs:a1=none:=by
    obtain⟨q,hv,nv,hq,_⟩:=a0 0 h0;simpa [Addr.add] using GL oM hq
   subst hs
   have a2:ER W b o bs:=by
    intro i q hq;obtain⟨hv,nv,this,r⟩:=a4 i q hq;rw[Addr.add_mid] at this;exact⟨hv,nv,Y0 this,r⟩
   subst a3;refine⟨bs,_,cap,rfl,oM,λ_=>⟨b,o,rfl,a2,?_⟩⟩;obtain⟨hv,nv,hr,-⟩:=a2 0 bs[0] (by simp[h0]);exact World.block_lt_of_cell? W _ (hr 0 _ rfl)
theorem Yv{H:Type}{enc:TypeId×Value->H}{w:World}{cs:List Value}{x:DataW H×List MemPlace}
  (h:DataW.trod enc prog w base sp held fuel 25 cs=some x):∃(b:Bk),Z5 w (.agg cs.toArray) b:=by
 obtain⟨xs,m,_,rfl,hl,a0,hf⟩:=DataW.trod_struct underlying25 h;rw[PK] at hl;obtain⟨c0,c1,rfl⟩:=Qn hl;obtain⟨y0,y1,rfl⟩:=Qn (a0.trans rfl:xs.length=2);have h0:DataW.trod enc prog w base sp held m 22 (([c0,c1].drop 0).take (prog.cellsOf 22))=some y0:=hf 0 {name:= "Things",type:=22,offset:=0,embedded:=false,tag:= "",pkgPath:= "",byteOffset:=0} rfl;have h1:DataW.trod enc prog w base sp held m 23 (([c0,c1].drop 1).take (prog.cellsOf 23))=some y1:=hf 1 {name:= "Batches",type:=23,offset:=1,embedded:=false,tag:= "",pkgPath:= "",byteOffset:=24} rfl;clear hf h;rw[PH] at h0;rw[UQ] at h1;simp only[List.drop_succ_cons,List.drop_zero,List.take_succ_cons,List.take_zero] at h0 h1;obtain⟨ts,l0⟩:=JK h0;obtain⟨bs,l1⟩:=Yu h1;exact⟨⟨ts,bs⟩,c0,c1,rfl,l0,l1⟩
end
section
open Go.RowKit
def Done.cellsL(x:Done):List Value:=[.string x.nm,.int .i64 x.e,.int .i64 x.t]
theorem DU.cells{w:World}{o:Nat}{l:List Done}(h:DU w b o l)(i:Nat)(hi:i<l.length):AS w b (o+i*3) (Tz (l[i]).nm)/\AS w b (o+i*3+1) (Iz (l[i]).e)/\AS w b (o+i*3+2) (Iz (l[i]).t):=by
 have hr:=(h i l[i] dC).1;exact⟨hr 0 _ rfl,hr 1 _ rfl,hr 2 _ rfl⟩
theorem Yg(x:Done)(l:Int)(w:World)(hl:0<=l)(hl':l<=1048576)(hs:x.nm.size<=maxLen):
  Calls prog 30 #[.agg #[Tz x.nm,Iz x.e,Iz x.t],Iz l] w λe' w'=>(∃y:Int,e'=.returned (Iz y)/\y<=l/\-1<=y)/\Up w w':=by
 unfold maxLen at *;go_in;go_wp2
 all_goals
  go_ret;exact⟨⟨_,rfl,oM,oM⟩,(A4 _ _).alloc (A3 _) _⟩
theorem UJ(ls:List Done)(v:Value)(l:Int)(w:World)(hl:0<=l)(hl':l<=1048576)(h:EO w v ls):
  Calls prog 11 #[v,Iz l] w
   λe' w'=>(∃x:Int,e'=.returned (Iz x)/\(0<=x->(ls.length:Int)<=l)/\x<=1048576)/\Up w w':=by
 obtain⟨a,c,rfl,hn,a0⟩:=h;unfold maxLen at hn;by_cases h0:l-ls.length<0
 .go_in;go_wp2;go_ret;exact⟨⟨_,rfl,oM,oM⟩,A4 _ _⟩
 have H0:Hid ((ls.length:Int)<=l):=by show _<=_;omega
 go_in;go_wp2;(try dsimp only[Iz,Sy,Sx,Nz,Vz,Tz,Ez,Pz]);go_loopw [1,5] (λx i w'=>∃(k:Nat)(y:Int),k<=ls.length/\i=.int .i64 k/\x=.int .i64 y/\0<=y/\y<=1048576/\Up w w') (λ_ i _=>ls.length-(intOf i).toNat)
 case atStart=>exact⟨0,_,oM,rfl,rfl,oM,oM,A4 _ _⟩
 case round =>
  obtain⟨k,y,hk,rfl,rfl,hy,a1,hB⟩:=hrel;by_cases hp:k<ls.length
  .obtain⟨b,o,ha,hr,hb⟩:=a0 oM;subst ha;obtain⟨c0,c1,c2⟩:=hr.cells k hp;have z0:=(hr k _ (A0 hp)).2;obtain⟨hc,hf⟩:=E2 hB;generalize ls[k]=s0 at *;go_wp2_with fail;refine (Yg s0 _ _ hy a1 z0).mono ?_;rintro e' w1 ⟨⟨x,rfl,a4,-⟩,a3⟩;have a2:=D3 hB a3;by_cases hx:x<0
   .go_wp2_with fail;go_ret;exact⟨⟨_,rfl,oM,oM⟩,a2⟩
   .go_wp2_with fail;go_roundw
    case rel=>exact⟨k+1,x,oM,mO,rfl,oM,oM,a2⟩
    case measure=>simp[intOf];omega
  .go_wp2_with fail;go_ret;exact⟨⟨_,rfl,λ_=>H0.out,a1⟩,hB⟩
theorem Yh(x:Done)(w:World):Calls prog 42 #[.agg #[Tz x.nm,Iz x.e,Iz x.t]] w λe' w'=>e'=.returned (.agg #[Tz x.nm,Iz x.e,Iz x.t])/\Up w w':=by
 go_in;go_wp2;go_returns
 exact⟨rfl,by go_grown⟩
theorem Yi(x:Done)(w:World):cU prog 64 #[.agg #[Tz x.nm,Iz x.e,Iz x.t],.agg #[Tz x.nm,Iz x.e,Iz x.t]] w (.bool true):=by
 delta cU;go_in;go_wp2;go_ret;exact⟨rfl,by go_grown⟩
theorem KB(ss:List BA)(v:Value)(l:Int)(w:World)(h:Ls w v ss)(hl:0<=l)(hl':l<=1048576):
  Calls prog 27 #[v,Iz l] w λe w'=>(∃x:Int,e=.returned (Iz x)/\x<=l/\(0<=x->(ss.length:Int)<=l))/\w'=w:=by
 obtain⟨a,c,rfl,hn,hz,a0⟩:=h;unfold maxLen at hn hz;by_cases h0:l-ss.length<0
 .go_in;go_wp2;go_ret;exact⟨⟨_,rfl,oM,oM⟩,rfl⟩
 have H0:Hid ((ss.length:Int)<=l):=by show _<=_;omega
 go_in;go_wp2;go_loop [1,5] (λx i=>∃(k:Nat)(y:Int),k<=ss.length/\i=.int .i64 k/\x=.int .i64 y/\0<=y/\y<=l) (λ_ i=>ss.length-(intOf i).toNat)
 case atStart=>exact⟨0,_,oM,rfl,rfl,oM,oM⟩
 case round =>
  obtain⟨k,y,hk,rfl,rfl,hy,a1⟩:=hrel;by_cases hp:k<ss.length
  .obtain⟨b,o,rfl,hS,hb⟩:=a0 oM;have c0:=hS.cell hp;have z0:=hz ss[k] dC;generalize ss[k]=s0 at *;by_cases hq:y-s0.size<0
   .go_wp2;go_ret;exact⟨⟨_,rfl,oM,oM⟩,rfl⟩
   .go_wp2;go_round
    case rel=>exact⟨k+1,_,oM,mO,rfl,oM,oM⟩
    case measure=>simp[intOf];omega
  .go_wp2;go_ret;exact⟨⟨_,rfl,oM,λ_=>H0.out⟩,rfl⟩
theorem Tf(n:Nat)(hn:n<=1048576):∃C:Array Value,C.size=n/\∀w,(Instr.makeSlice 22 (Iz (n:Int)) (Iz (n:Int))).run prog w=.ok (Sy w.heap.size n n) (w.alloc (.cells C 9)):=by
 obtain⟨i,hi,hz⟩:=B6.1 Av;simp only[Prod.mk.injEq] at hz;obtain⟨hz,hs,hb⟩:=hz;refine⟨madeCells (Value.string ⟨#[]⟩).cells (n*1),by rw[size_madeCells,Nat.mul_one],λw=>?_⟩;have:=run_make (P:=prog) w 22 9 i _ underlying22 hi hz .i64 .i64 (n:Int) (n:Int) oM oM (by rw[hb];omega) oM;simp only[Int.toNat_natCast,hs] at this;exact this
theorem XR{k:Nat}(hk:k<ss.length)(h:G0 w1 b 0 (ss.take k))(ht:P7 w1 b 0 ss.length):G0 (w1.setCell ⟨b,k,none⟩ (Tz ss[k])) b 0 (ss.take (k+1)):=by
 intro i s hs;rw[Nat.zero_add];by_cases hi:i=k
 .subst hi;rw[List.getElem?_take,if_pos oM,A0 hk] at hs;obtain rfl:=A5 hs;have h1:=(ht.1 i hk).1;rw[Nat.zero_add] at h1;obtain⟨x,hx⟩:=Option.isSome_iff_exists.1 h1;exact World.cell?_setCell_same _ _ _ hx
 .rw[C1 _ _ _ _ (by simp<;>omega)]
  have:=h i s (by
   rw[List.getElem?_take] at hs ⊢
   split at hs
   .rw[if_pos oM];exact hs
   .cases hs)
  rwa [Nat.zero_add] at this
theorem J4{a w:World}(h:Below B a w)(hb:B<=b)(u:Value):Below B a (w.setCell ⟨b,j,none⟩ u):=h.setCell (p:=⟨b,j,none⟩) hb u
theorem KC(ss:List BA)(v:Value)(w:World)(h:Ls w v ss)(hn:ss.length<=1048576):
  Calls prog 39 #[v] w λe w'=>(∃u,e=.returned u/\Y8 w' w.heap.size u ss)/\Up w w':=by
 obtain⟨a,c,rfl,hm,hz,a1⟩:=h;have Hz:Hid (ss.length<=maxLen/\∀s∈ss,s.size<=maxLen):=⟨hm,hz⟩;clear hm hz;obtain⟨C,hC,a4⟩:=Tf ss.length hn;have HC:Hid (C.size=ss.length):=hC;clear hC;go_in;go_wp2;(try dsimp only[Iz,Sy,Sx,Nz,Vz,Tz,Ez,Pz]);go_loopw [4] (λi w'=>∃k:Nat,k<=ss.length/\i=.int .i64 k/\G0 w' w.heap.size 0 (ss.take k)/\P7 w' w.heap.size 0 ss.length/\w.heap.size<w'.heap.size/\Up w w') (λi _=>ss.length-(intOf i).toNat)
 case atStart=>exact⟨0,oM,rfl,λi p hp=>by simp at hp,by rw[← HC.out];exact Bt _ _ _,dC,by go_grown⟩
 case round =>
  obtain⟨k,hk,rfl,a2,a0,a3,hB⟩:=hrel;by_cases hp:k<ss.length
  .obtain⟨b,o,rfl,hS,hb⟩:=a1 oM;have c0:=(hB.cell (p:=⟨b,o+k,none⟩) hb).trans (hS.cell hp);have Hst:Hid (G0 (wr.setCell ⟨w.heap.size,k,none⟩ (Tz ss[k])) w.heap.size 0 (ss.take (k+1))/\P7 (wr.setCell ⟨w.heap.size,k,none⟩ (Tz ss[k])) w.heap.size 0 ss.length/\Up w (wr.setCell ⟨w.heap.size,k,none⟩ (Tz ss[k]))):=⟨XR hp a2 a0,Ab8 a0,J4 hB (A3 _) _⟩
   obtain⟨⟨x0,d0⟩,f0⟩:(∃x,AS wr w.heap.size k x)/\wr.frozen? ⟨w.heap.size,k,none⟩=false:=by
    have:=a0.1 k hp;rw[Nat.zero_add] at this;exact⟨Option.isSome_iff_exists.1 this.1,this.2⟩
   clear a2 a0;generalize ss[k]=s0 at *;go_wp2_with fail;go_roundw
   case rel=>exact⟨k+1,oM,mO,Hst.out.1,Hst.out.2.1,by simpa using a3,Hst.out.2.2⟩
   case measure=>simp[intOf];omega
  .go_wp2_with fail;go_ret;exact⟨⟨_,rfl,w.heap.size,rfl,by rwa [D0 oM] at a2,a0,A3 _,a3,Hz.out⟩,hB⟩
theorem Y8.set{w:World}{r:Nat}{u:Value}(h:Y8 w base v ss)(hr:r<base):Y8 (w.setCell ⟨r,j,none⟩ u) base v ss:=h.kept (Au (Ax _ _) _) hr
theorem Y8.shape{w:World}(h:Y8 w base v ss):∃b,v=Sy b ss.length ss.length:=by
 obtain⟨b,rfl,-⟩:=h;exact⟨b,rfl⟩
theorem Mm(ss:List BA)(va vb:Value)(w:World)(ha:Ls w va ss)(hb:Ls w vb ss):
  cU prog 61 #[va,vb] w (.bool true):=by
 obtain⟨a1,c1,rfl,hn,-,a0⟩:=ha;obtain⟨a2,c2,rfl,-,-,a3⟩:=hb;unfold maxLen at hn;delta cU;go_in;go_wp2;(try dsimp only[Iz,Sy,Sx,Nz,Vz,Tz,Ez,Pz]);go_loopw [5] (λi w'=>∃k:Nat,k<=ss.length/\i=.int .i64 k/\Up w w') (λi _=>ss.length-(intOf i).toNat)
 case atStart=>exact⟨0,oM,rfl,A4 _ _⟩
 case round =>
  obtain⟨k,hk,rfl,hB⟩:=hrel;by_cases hp:k<ss.length
  .obtain⟨g1,o1,rfl,a4,a5⟩:=a0 oM;obtain⟨g2,o2,rfl,a6,a7⟩:=a3 oM;have c1:=(a4.up hB a5).cell hp;have c2:=(a6.up hB a7).cell hp;go_wp2_with fail;go_quiet (fail);go_wp2_with fail;go_roundw
   case rel=>exact⟨k+1,oM,mO,E5 hB nq⟩
   case measure=>simp[intOf];omega
  .go_wp2_with fail;go_ret;exact⟨rfl,hB⟩
theorem XG(b:Bk)(v gv:Value)(gone:List BA)(w:World)(h:Z5 w v b)(hg:Ls w gv gone):
  Calls prog 122 #[v,gv] w λe w'=>(∃n:Int,e=.returned (Iz n)/\Z6 b.bs gone n)/\Up w w':=by
 obtain⟨a1,c1,a2,c2,rfl,h1,h2⟩:=h.parts;obtain⟨ag,cg,rfl,-⟩:=id hg;have hC:CB (w.alloc (Kz [Vz a1 (b).tg.length c1,Vz a2 (b).bs.length c2] 34)) w.heap.size [Vz a1 b.tg.length c1,Vz a2 b.bs.length c2]:=E9 w _ _;have a0:=(A4 w.heap.size w).alloc (A3 _) (Kz [Vz a1 (b).tg.length c1,Vz a2 (b).bs.length c2] 34);have g2:=h2.at.1;unfold maxLen at g2;go_in;go_upto_region 1 with fail;generalize w.alloc (Kz [Vz a1 (b).tg.length c1,Vz a2 (b).bs.length c2] 34)=W1 at *;have l2:=h2.up a0;have hk:=h.up a0;have lg:=hg.up a0;clear h h1 h2 hg;obtain⟨e0,e1⟩:=hC.c2';have a7:=hC.2.2;obtain⟨-,a5⟩:=l2.at;have hB:Up W1 W1:=A4 _ _;go_wp2_with fail;(try dsimp only[Iz,Sy,Sx,Nz,Vz,Tz,Ez,Pz]);go_loopw [5] (λi w'=>∃k:Nat,k<=b.bs.length/\i=.int .i64 k/\(∀j,j<k->¬Good b.bs gone j)/\Up W1 w') (λi _=>b.bs.length-(intOf i).toNat)
 case atStart=>exact⟨0,oM,rfl,λj hj=>oM,hB⟩
 case round =>
  clear hB;obtain⟨k,b0,rfl,a6,hB⟩:=hrel;have Hal:Hid (∀j,j<k->¬Good b.bs gone j):=a6;clear a6;have f0:=(hB.cell (p:=⟨w.heap.size,0,none⟩) a7).trans e0;have f1:=(hB.cell (p:=⟨w.heap.size,1,none⟩) a7).trans e1;by_cases hp:k<b.bs.length
  .obtain⟨bb,o,rfl,hS,hb⟩:=a5 oM;obtain⟨a3,d3,a4,d4,c3,c4,c5,-,-,-⟩:=((hS.at hp).up hB hb).cells;have HI:Hid (Good b.bs gone k↔E1 gone (b.bs[k]).nm=false/\JR b.bs k gone):=AbM hp;generalize b.bs[k]=x0 at *;clear hS;go_wp2_with fail;refine Swz (Ab gone _ x0.nm _ (lg.up hB)) ?_;cases hm:E1 gone x0.nm
   case true =>
    have Hs:Hid (∀j,j<k+1->¬Good b.bs gone j):=Hi Hal.out λh=>by rw[(HI.out.1 h).1] at hm;cases hm
    clear HI;go_wp2_with fail;go_roundw
    case rel=>exact⟨k+1,oM,mO,Hs.out,hB⟩
    case measure=>simp[intOf];omega
   go_wp2_with fail;refine (ZL b _ _ k gone _ (hk.up hB) (lg.up hB) hp).mono ?_;rintro e w2 ⟨rfl,a9⟩;have a8:=D3 hB a9;clear f0 f1 hB a9 c3 c4 c5;cases hcn:pB (JR b.bs k gone)
   .have Hs:Hid (∀j,j<k+1->¬Good b.bs gone j):=Hi Hal.out λh=>N8.1 hcn (HI.out.1 h).2;clear HI;go_wp2_with fail;go_roundw
    case rel=>exact⟨k+1,oM,mO,Hs.out,a8⟩
    case measure=>simp[intOf];omega
   .have Hs:Hid (Z6 b.bs gone (k:Int)):=.inr ⟨k,rfl,hp,HI.out.2 ⟨hm,G7.1 hcn⟩,Hal.out⟩;clear HI;go_wp2_with fail;go_ret;exact⟨⟨_,rfl,Hs.out⟩,D3 a0 a8⟩
  .have Hs:Hid (Z6 b.bs gone (-1)):=.inl ⟨rfl,λj hj=>Hal.out j oM⟩;go_wp2_with fail;go_ret;exact⟨⟨_,rfl,Hs.out⟩,D3 a0 hB⟩
def AfZ:Value->Nat
 | .slice _ n _=>n
 | _=>0
theorem Qb(b:Bk)(v:Value)(w:World)(h:Z5 w v b):
  Calls prog 68 #[v] w λe w'=>(∃u ss ok,e=.returned (.tuple #[u,.bool ok])/\Ac b ss ok/\F9 w' w.heap.size u ss/\∀s∈ss,s.size<=maxLen)/\Up w w':=by
 obtain⟨a1,c1,a2,c2,rfl,h1,h2⟩:=h.parts;obtain⟨W1,c7,kA,b0,d1⟩:=cbE1 w [Vz a1 (b).tg.length c1,Vz a2 (b).bs.length c2] 34;have e3:=b0.size;clear d1;obtain⟨ii,hi,d2,d5,d6⟩:=info_parts Av;go_in;go_upto_region 1 with fail;try rw[c7]
 clear c7;have hk:=h.up b0;have l2:=h2.up b0;obtain⟨e0,e1⟩:=kA.c2';have b1:=kA.2.2;obtain⟨-,b4⟩:=l2.at;clear h h1 h2;have c8:=Pk W1;have b2:=(A4 W1.heap.size W1).alloc (A3 _) (Kz [] 9);go_upto_region 2 with fail;generalize W1.alloc (Kz [] 9)=W2 at *;have f0:=(b2.cell (p:=⟨w.heap.size,0,none⟩) b1).trans e0;have f1:=(b2.cell (p:=⟨w.heap.size,1,none⟩) b1).trans e1;go_wp2_with fail;refine (Ss b _ _ (hk.up b2)).mono ?_;rintro e w3 ⟨rfl,c4⟩;have b7:=D3 b2 c4;have b8:=c8.up c4;clear f0 f1 c4 c8 b2;cases hq:Z1 b
 .have Hq:Hid (Ac b [] false):=.inr ⟨rfl,rfl,.inl (N8.1 hq)⟩;go_wp2_with fail;go_returns
  exact⟨⟨_,[],false,rfl,Hq.out,Dj b8 oM,λs hs=>by simp at hs⟩,D3 b0 b7⟩
 have Hok:Hid (J3 b):=G7.1 hq;have h5:b.bs.length<=5:=Hok.out.2.1;clear hq;go_wp2_with fail;(try dsimp only[Iz,Sy,Sx,Nz,Vz,Tz,Ez,Pz]);go_loopw [4,5] (λu _ w'=>∃(n:Nat)(a0:List BA),n<=b.bs.length/\Aa b.bs n a0/\F9 w' W1.heap.size u a0/\(∀s∈a0,s.size<=maxLen)/\Up W1 w') (λu _ _=>b.bs.length-AfZ u)
 case atStart=>exact⟨0,[],oM,.none,b8,λs hs=>by simp at hs,b7⟩
 case round =>
  clear b7 b8;obtain⟨n,a0,d7,b5,a6,b6,hB⟩:=hrel;have Hgo:Hid (Aa b.bs n a0):=b5;have Hlen:Hid (a0.length=n):=b5.length;have c9:=a6.lst.ls b6;obtain⟨ag,cg,rfl⟩:=a6.lst.shape;have Hsz:Hid (∀s∈a0,s.size<=maxLen):=b6;clear b5 b6;have e4:a0.length<=b.bs.length:=by rw[Hlen.out];exact d7
  have f0:=(hB.cell (p:=⟨w.heap.size,0,none⟩) b1).trans e0;have f1:=(hB.cell (p:=⟨w.heap.size,1,none⟩) b1).trans e1;by_cases hp:a0.length<b.bs.length
  .go_wp2_with fail;refine (XG b _ _ a0 _ (hk.up hB) c9).mono ?_;rintro e w4 ⟨⟨nx,rfl,d0⟩,c6⟩;have a9:=D3 hB c6;have a8:=a6.up c6;have Hnx:Hid (Z6 b.bs a0 nx):=d0;clear f0 f1 hB c6 a6 c9;rcases d0 with⟨rfl,-⟩|⟨k,rfl,hkl,-,-⟩
   .have Hs:Hid (Ac b [] false):=.inr ⟨rfl,rfl,.inr ⟨n,a0,by have:=Hlen.out;omega,Hgo.out,Hnx.out⟩⟩;have b3:=Pk w4;have d8:=(A4 w4.heap.size w4).alloc (A3 _) (Kz [] 9);have e5:=a9.size;go_wp2_with fail;go_returns
    exact⟨⟨_,[],false,rfl,Hs.out,Dj b3 oM,λs hs=>by simp at hs⟩,D3 b0 (D3 a9 d8)⟩
   .obtain⟨bb,o,rfl,hS,hb⟩:=b4 oM;have f1:=(a9.cell (p:=⟨w.heap.size,1,none⟩) b1).trans e1;obtain⟨a3,d3,a4,d4,c3,-,-,-,-,z0⟩:=((hS.at hkl).up a9 hb).cells;have Hs:Hid (Aa b.bs (n+1) (a0++[(b.bs[k]).nm])):=.more Hgo.out Hnx.out (A0 hkl);generalize b.bs[k]=x0 at *;have e6:decide ((k:Int)<0)=false:=dC
    have a7:=R8 a8 ((A4 w4.heap.size w4).alloc (A3 _) (Kz [Tz x0.nm] 9));have b9:=a9.alloc a9.size (Kz [Tz x0.nm] 9);clear hS;go_wp2_with (at_builtin;refine wpList_append_own _ rfl _ _ 22 rfl W1.heap.size 9 ii _ 1 16 underlying22 hi d2 d5 d6 rfl aS _ _ _ rfl a7 ⟨w4.heap.size,0,none⟩ 1 1 [Tz x0.nm] rfl rfl (Eb _ _ _) (LL _) (by unfold maxLen;omega) oM b9.size ?_)
    intro v1 w5 hown5 hgr5 _;have d9:=S0 b9 a7 hgr5 (A3 _);have b3:F9 w5 W1.heap.size v1 (a0++[x0.nm]):=by unfold F9;rw[A9,List.map_append];exact hown5
    have e2:∃a c,v1=Vz a (a0.length+1) c:=by
     have:=b3.lst.shape;simpa using this
    obtain⟨a5,c5,rfl⟩:=e2;clear a7 b9 hown5 hgr5 a8 a9 f1 c3;go_wp2_with fail;go_roundw
    case rel =>
     refine⟨n+1,_,by have:=Hlen.out;omega,Hs.out,b3,λs hs=>?_,d9⟩;rcases C8.1 hs with h|h
     .exact Hsz.out s h
     .obtain rfl:s=x0.nm:=by simpa using h
      exact z0
    case measure=>simp[AfZ];omega
  .have Hs:Hid (Ac b a0 true):=.inl ⟨rfl,Hok.out,by
    have e:b.bs.length=n:=by have:=Hlen.out;omega
    rw[e];exact Hgo.out⟩
   go_wp2_with fail;go_returns
   exact⟨⟨_,a0,true,rfl,Hs.out,Dj a6 oM,Hsz.out⟩,D3 b0 hB⟩
theorem SZ(b:Bk)(v:Value)(w:World)(h:Z5 w v b):
  Calls prog 32 #[v] w λe w'=>(∃ss ok,e=.returned (.bool ok)/\Ac b ss ok)/\Up w w':=by
 obtain⟨a1,c1,a2,c2,rfl,-,-⟩:=h.parts;have hC:CB (w.alloc (Kz [Vz a1 (b).tg.length c1,Vz a2 (b).bs.length c2] 34)) w.heap.size [Vz a1 b.tg.length c1,Vz a2 b.bs.length c2]:=E9 w _ _;have a3:=(A4 w.heap.size w).alloc (A3 _) (Kz [Vz a1 (b).tg.length c1,Vz a2 (b).bs.length c2] 34);go_in;go_upto_region 1 with fail;generalize w.alloc (Kz [Vz a1 (b).tg.length c1,Vz a2 (b).bs.length c2] 34)=W1 at *;have hk:=h.up a3;obtain⟨e0,e1⟩:=hC.c2';go_wp2_with fail;refine (Qb b _ _ hk).mono ?_;rintro e w2 ⟨⟨u,ss,ok,rfl,a0,-,-⟩,a4⟩;clear e0 e1;go_wp2_with fail;go_ret;exact⟨⟨ss,ok,rfl,a0⟩,D3 a3 a4⟩
end
end Go.Proofs.YtaffjphkobhagaaGreatDoor
