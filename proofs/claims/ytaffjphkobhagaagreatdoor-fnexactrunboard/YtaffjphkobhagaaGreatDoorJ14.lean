/- Runs carried over, 19: a run to the place where a frame is cut off. -/
import Derived.Test.YtaffjphkobhagaaGreatDoorJ10
import Derived.Test.YtaffjphkobhagaaGreatDoorJ9
set_option maxRecDepth 20000
set_option maxHeartbeats 4000000
namespace Go.Proofs.YtaffjphkobhagaaGreatDoor
open Proofs.Tryz
variable{b:Bk}{fr:Frame}{x:Int}{bs:List Ba}{gone l tg:List BA}{bw seg:List Frame}{k0:List Item}{xs xs':List Value}{a base e i j k n tb:Nat}{r:Option Nat}{v v':Value}{w w':World}
section
open Go.Conc
def Afn(k:List Item):List Frame->List Frame
 | []=>[]
 | [r]=>[ext k r]
 | a::b::t=>a::Afn k (b::t)
def gx(k:List Item)(fr:Frame)(seg bw:List Frame):Goroutine :=
 match seg with
 | []=>G (ext k fr) bw
 | c::t=>G fr (Afn k (c::t)++bw)
section
variable {P:Program} {X:Nat->Prop} {s:FZs} {F:Frame->World->Prop}
theorem AdB(S:I6 P s)(k:List Item)(h:M8 P s fr)(hg:GA fr seg)(hne:seg=[]->fr.todo≠[])(hne':∀c∈seg,c.todo≠[])(hw:M4 (λ_=>False) w w)
  {fr':Frame} {seg':List Frame} {w':World} {es:Array Event} (hst:stepG P true (G fr (seg++bw)) w=.go (G fr' (seg'++bw)) w' es) :
  stepG P true (gx k fr seg bw) w=.go (gx k fr' seg' bw) w' es/\∀c∈seg',c.todo≠[]:=by
 have gi:∀{a b:Frame} {l l':List Frame},G a l=G b l'->a=b/\l=l':=λe=>⟨congrArg (·.frame) e,congrArg (·.callers) e⟩;cases hm:fr.mode with
 | run =>
  rcases Abr S h hm hw hst with⟨f1,a1,a2,a3⟩|⟨f1,a1,a2,a3,a4⟩
  .obtain⟨rfl,e⟩:=gi a1;have e:=List.append_cancel_right e;subst e;refine⟨?_,hne'⟩;cases seg' with
   | nil=>exact a3 (hne rfl) k bw
   | cons c t=>exact a2 _
  .obtain⟨rfl,e⟩:=gi a1;rw[show fr::(seg++bw)=(fr::seg)++bw from rfl] at e;have e:=List.append_cancel_right e;subst e;refine⟨?_,λc hc=>(List.mem_cons.1 hc).elim (λe=>e ▸ a2) (hne' c)⟩;cases seg with
   | nil=>exact a4 k bw
   | cons c t=>exact a3 _
 | returning =>
  cases seg with
  | nil=>exact (hg.elim (λhg=>by rw[hm] at hg;cases hg) λhg=>absurd rfl hg)
  | cons c t =>
   obtain⟨fn,hf⟩:=h.fn;generalize hu:(results fn fr.tmps).runT P w #[]=ru
   have a0:∀(c:Frame)(cs:List Frame),stepG P true (G fr (c::cs)) w=GStep.after (seen P fr.fn ru.2) (match ru.1 with
     | .ok v w=>doReturn P true fr (c::cs) none v w
     | .halt k w=>(match k with | .stuck x=>.ended (.stuck x (fr.pos P)) w | .unsupported x=>.ended (.unsupported x (fr.pos P)) w|_=>.ended (.stuck "" (fr.pos P)) w))\/∃o x es,stepG P true (G fr (c::cs)) w=.ended o x es:=λc cs=>by
    match ru,hu with
    | (.ok v u1,eu),hu=>exact .inl (by simp only[stepG,G,hm,unwind,h.defers,hf,hu])
    | (.halt k u1,eu),hu=>exact .inr (by cases k<;>exact⟨_,_,_,by simp only[stepG,G,hm,unwind,h.defers,hf,hu,GStep.after];rfl⟩)
   match ru,hu,a0 with
   | (.halt k u1,eu),hu,a0 =>
    exfalso
    rcases a0 c (t++bw) with e|⟨o,x,es1,e⟩
    .rw[List.cons_append,e] at hst;cases k<;>(simp only[GStep.after] at hst;cases hst)
    .simp_all
   | (.ok v u1,eu),hu,a0 =>
    have go:∀(c:Frame)(cs:List Frame),stepG P true (G fr (c::cs)) w=.go (G (c.finish v) cs) u1 (seen P fr.fn eu ++ #[]):=λc cs=>by
     simp only[stepG,G,hm,unwind,h.defers,hf,hu,doReturn,h.kind,GStep.after]
    rw[List.cons_append,go] at hst;rw[GStep.go.injEq] at hst;obtain⟨e1,rfl,rfl⟩:=hst;obtain⟨rfl,e2⟩:=gi e1;have e3:=List.append_cancel_right e2;subst e3;refine⟨?_,λx hx=>hne' x (by simp[hx])⟩;cases t with
    | nil =>
     have:=go (ext k c) bw;rw[DD k (hne' c dC)] at this;exact this
    | cons d t=>exact go c _
 | panicking ch =>
  cases seg with
  | nil=>exact (hg.elim (λhg=>by rw[hm] at hg;cases hg) λhg=>absurd rfl hg)
  | cons c t =>
   obtain⟨fn,hf⟩:=h.fn;have a5:fr.catches P=false:=by unfold Frame.catches;rw[hf]
   have go:∀(c:Frame)(cs:List Frame),stepG P true (G fr (c::cs)) w=.go (G (c.raise ch) cs) w #[]:=λc cs=>by
    simp only[stepG,G,hm,unwind,h.defers,a5,Bool.false_eq_true,if_false]
   rw[List.cons_append,go] at hst;rw[GStep.go.injEq] at hst;obtain⟨e1,rfl,rfl⟩:=hst;obtain⟨rfl,e2⟩:=gi e1;have e3:=List.append_cancel_right e2;subst e3;refine⟨?_,λx hx=>hne' x (by simp[hx])⟩;cases t with
   | nil =>
    have:=go (ext k c) bw;rw[OY] at this;exact this
   | cons d t=>exact go c _
abbrev GT (fr:Frame):Prop:=fr.mode=.run/\fr.todo=[]
def WH(P:Program)(X:Nat->Prop)(s:FZs)(F:Frame->World->Prop)(k:List Item)(bw:List Frame)(g:Goroutine)(w:World):Prop :=
 ∃fe,g=G (ext k fe) bw/\M8 P s fe/\Aq X w/\GT fe/\∀τ d,F fe (F7 X w τ d)
theorem Afo(S:I6 P s)(h:St P X s GT F fr [] w)(hc:fr.mode≠.run\/fr.todo=[])(k:List Item)(bw:List Frame)(d:Nat):WH P X s F k bw (gx k fr [] bw) (w.at d):=by
 have a2:∀τ d,GT fr/\F fr (F7 X w τ d):=λτ d=>by
  obtain⟨N,fe,ue,hr,a0,hF⟩:=h.ends τ d
  have rest:∀{f:Frame} {N:Nat},M8 P s f->f.mode≠.run->runN P N (lone f [c0 P] (F7 X w τ d))=.next (lone fe [c0 P] ue)->f=fe:=λ{f N} hf hm hr=>by
   have hN:=Kh S hf (λhh=>hh.elim hm (λh=>h rfl)) hr;subst hN;simp only[runN,Stepped.next.injEq] at hr;exact (Cg hr).1
  simp only[List.nil_append] at hr;by_cases hm:fr.mode=.run
  .have ht:fr.todo=[]:=hc.resolve_left λh=>h hm;have a1:step P (lone fr [c0 P] (F7 X w τ d))=.next (lone {fr with mode:=.returning} [c0 P] (F7 X w τ d)):=Dp (es:=#[]) (by simp[stepG,stepG.exec,G,hm,ht,h.top.round]);cases N with
   | zero =>
    simp only[runN,Stepped.next.injEq] at hr;obtain⟨e1,_,e3⟩:=Cg hr;subst e1 e3;exact⟨a0,hF⟩
   | succ N =>
    simp only[runN,a1] at hr;have e:=rest (NY h.top .returning) dC hr;rw[← e] at a0;exact absurd a0.1 dC
  .have e:=rest h.top hm hr;rw[← e] at a0;exact absurd a0.1 hm
 exact⟨fr,rfl,h.top,h.base.at d,(a2 (λ_ _=>0) 0).1,λτ d=>(a2 τ d).2⟩
def Abs(P:Program)(X:Nat->Prop)(s:FZs)(F:Frame->World->Prop)(k:List Item)(bw:List Frame)(x:Frame×List Frame×World):Prop :=
 St P X s GT F x.1 x.2.1 x.2.2/\(∀c∈x.2.1,c.todo≠[])/\¬Run P X (WH P X s F k bw) (gx k x.1 x.2.1 bw) x.2.2
theorem Zf[UX s X](S:I6 P s)(hF:∀fe u v,M4 (λ_=>False) u v->F fe u->F fe v){x:Frame×List Frame×World}(h:Abs P X s F k0 bw x):
  (x.2.1=[]->¬GT x.1)/\∃(d k:Nat)(y:Frame×List Frame×World),Abs P X s F k0 bw y/\y.2.2.tape=x.2.2.tape/\
   ∀τ d0,(∀i q,i<k->τ (d0+i) q=x.2.2.tape (d+i) q)->step P (lone x.1 (x.2.1++[c0 P]) (F7 X x.2.2 τ d0))=.next (lone y.1 (y.2.1++[c0 P]) (F7 X y.2.2 τ (d0+k))):=by
 obtain⟨a0,a1,hn⟩:=h
 have hcut:x.2.1=[]->x.1.mode=.run/\x.1.todo≠[]:=λe=>by
  refine Classical.byContradiction λhno=>hn (.stop λd=>?_);obtain⟨fr,a5,w⟩:=x;simp only at e;subst e;exact Afo S a0 (Classical.byContradiction λhh=>hno ⟨Classical.byContradiction λh1=>hh (.inl h1),λh1=>hh (.inr h1)⟩) k0 bw d
 have hg:GA x.1 x.2.1:=by
  by_cases e:x.2.1=[]
  .exact .inl (hcut e).1
  .exact .inr e
 have hE:x.2.1=[]->¬GT x.1:=λe h=>(hcut e).2 h.2;refine⟨hE,Classical.byContradiction λhno=>hn ?_⟩;have hs:=λd=>Vh S hF a0 hg hE bw d;let fr':=λd=>Classical.choose (hs d)
 let seg':=λd=>Classical.choose (Classical.choose_spec (hs d))
 let w':=λd=>Classical.choose (Classical.choose_spec (Classical.choose_spec (hs d)))
 let es:=λd=>Classical.choose (Classical.choose_spec (Classical.choose_spec (Classical.choose_spec (hs d))))
 have sp:∀d,∃k,stepG P true (G x.1 (x.2.1++bw)) (x.2.2.at d)=.go (G (fr' d) (seg' d++bw)) (w' d) (es d)/\(∀e∈es d,V7 X e)/\St P X s GT F (fr' d) (seg' d) (w' d)/\(w' d).tape=x.2.2.tape/\(w' d).drawn=d+k/\
   ∀τ d0,_->step P (lone x.1 (x.2.1++[c0 P]) (F7 X x.2.2 τ d0))=.next _ :=
  λd=>Classical.choose_spec (Classical.choose_spec (Classical.choose_spec (Classical.choose_spec (hs d))))
 have a2:∀d,M4 (λ_=>False) (x.2.2.at d) (x.2.2.at d):=λd n=>⟨rfl,λ_ h=>h.elim,λ_ _=>rfl,λ_ h=>h.elim,a0.base.pend,rfl,rfl,λ_ _ _=>rfl⟩;have gs:=λd=>AdB S k0 a0.top hg (λe=>(hcut e).2) a1 (a2 d) (sp d).choose_spec.1;refine .step (by unfold gx;split<;>rfl) (λd=>gx k0 (fr' d) (seg' d) bw) w' es (λd=>(gs d).1) (λd=>(sp d).choose_spec.2.1) (λd=>?_);refine Classical.byContradiction λhr=>hno ?_;obtain⟨k,_,_,a3,a4,_,a6⟩:=sp d;exact⟨d,k,(fr' d,seg' d,w' d),⟨a3,(gs d).2,hr⟩,a4,a6⟩
theorem ML[UX s X](S:I6 P s)(hF:∀fe u v,M4 (λ_=>False) u v->F fe u->F fe v)(k:List Item)(bw:List Frame)(h:St P X s GT F fr [] w):Run P X (WH P X s F k bw) (G (ext k fr) bw) w :=
 Classical.byContradiction λhn=>Rg (B0:=Abs P X s F k bw) (λ_ hx=>Zf S hF hx) ⟨h,dC,hn⟩ h.ends
end
end
section
open Go.RowKit
theorem Xh(ss:List BA)(v:Value)(s:BA)(w:World)(h:Ls w v ss):
  cE prog 232 #[v,Tz s] w (Iz (Ar ss s)):=by
 obtain⟨a,c,rfl,hn,-,a0⟩:=h;unfold maxLen at hn;delta cE;go_in;go_wp2;go_loop [8] (λi=>∃k:Nat,k<=ss.length/\i=.int .i64 k/\E1 (ss.take k) s=false) (λi=>ss.length-(intOf i).toNat)
 case atStart=>exact⟨0,oM,rfl,rfl⟩
 case round =>
  obtain⟨k,hk,rfl,a1⟩:=hrel;have Hal:Hid (E1 (ss.take k) s=false):=a1;clear a1;by_cases hp:k<ss.length
  .obtain⟨b,o,rfl,hS,hb⟩:=a0 oM;have c0:=hS.cell hp;cases hq:(s.toList==(ss[k]).toList)
   .have Hq:Hid (((ss[k]).toList==s.toList)=false):=by show _=_;rw[Jk];exact hq
    go_wp2;go_round
    case rel=>exact⟨k+1,oM,mO,ED hp Hal.out Hq.out⟩
    case measure=>simp[intOf];omega
   .have Hq:Hid (((ss[k]).toList==s.toList)=true):=by show _=_;rw[Jk];exact hq
    go_wp2;go_ret;exact⟨K8 (Bz hp Hal.out Hq.out).symm,rfl⟩
  .go_wp2;go_ret;exact⟨K8 (Dq (FO hp Hal.out)).symm,rfl⟩
theorem JS(ss:List BA)(v:Value)(s:BA)(w:World)(h:Ls w v ss):
  cE prog 231 #[v,Tz s] w (.bool (E1 ss s)):=by
 obtain⟨a,c,rfl,-⟩:=id h;delta cE;go_in;go_wp2_with (go_at_call 232;refine Swz (Xh ss _ _ _ h) ?_)
 all_goals
  go_ret;refine⟨D4 ?_,rfl⟩;rw[← Ro];try simp_all
theorem DL(h0:0<=x)(h1:x<18446744073709551616):IntKind.u64.wrap x=x:=by
 rw[IntKind.wrap_u64];omega
theorem AdT(_:k<=7):(2:Int) ^ k=((2 ^ k:Nat):Int):=dC
theorem Xi(h:k<=7):2 ^ k<=128:=Nat.pow_le_pow_right (n:=2) oM h
theorem AbA(hn:n<256)(hk:k<=7):IntKind.u64.wrap ((n:Int)+IntKind.u64.wrap (2 ^ k))=((n+2 ^ k:Nat):Int):=by
 have h:=Xi hk;rw[AdT hk];generalize 2 ^ k=m at *;rw[DL (x:=(m:Int)) oM oM,DL oM oM];omega
theorem Xj{P:BA->Bool}(hk:k<l.length):E3 (l.take (k+1)) P=E3 (l.take k) P+(if P l[k]=true then 2 ^ k else 0):=by
 rw[A7 hk,MZ,B8,Nat.min_eq_left oM]
theorem Jx(tg picked:List BA)(u v:Value)(w:World)(h:Ls w u tg)(h2:Ls w v picked)(h8:tg.length<=8):
  cE prog 223 #[u,v] w (.int .u64 (E3 tg (E1 picked):Nat)):=by
 obtain⟨a,c,rfl,-,-,a0⟩:=h;obtain⟨a2,c2,rfl,-⟩:=id h2;delta cE;go_in;go_wp2;go_loop [5,6,7,10] (λx _ _ i=>∃k:Nat,k<=tg.length/\i=.int .i64 k/\x=.int .u64 (E3 (tg.take k) (E1 picked):Nat)) (λ_ _ _ i=>tg.length-(intOf i).toNat)
 case atStart=>exact⟨0,oM,rfl,rfl⟩
 case round =>
  obtain⟨k,hk,rfl,rfl⟩:=hrel;by_cases hp:k<tg.length
  .obtain⟨b,o,rfl,hS,hb⟩:=a0 oM;have c0:=hS.cell hp;have Hb:=Xj (P:=E1 picked) hp;have a1:E3 (tg.take k) (E1 picked)<256:=S8 (by rw[B8];omega) _;cases hq:E1 picked tg[k]
   .have HB:Hid (E3 (tg.take (k+1)) (E1 picked)=E3 (tg.take k) (E1 picked)):=by show _=_;rw[Hb,hq];simp
    clear Hb;go_wp2_with (go_at_call 231;refine Swz (JS picked _ _ _ h2) ?_)
    go_round
    case rel=>exact⟨k+1,oM,mO,by rw[HB.out]⟩
    case measure=>simp[intOf];omega
   .have HB:Hid (E3 (tg.take (k+1)) (E1 picked)=E3 (tg.take k) (E1 picked)+2 ^ k):=by show _=_;rw[Hb,if_pos hq]
    clear Hb;go_wp2_with (go_at_call 231;refine Swz (JS picked _ _ _ h2) ?_)
    go_round
    case rel =>
     refine⟨k+1,oM,mO,?_⟩;rw[HB.out,AbA a1 oM]
    case measure=>simp[intOf];omega
  .have HB:Hid (E3 (tg.take k) (E1 picked)=E3 tg (E1 picked)):=by show _=_;rw[D0 oM]
   go_wp2;go_ret;exact⟨congrArg (λn:Nat=>Ending.returned (.int .u64 (n:Int))) HB.out,rfl⟩
end
section
abbrev Tr:=Ba×Bool
def Ei(tg:List BA)(p:Tr):List Value:=[.string p.1.nm,.int .u64 (E3 tg (E1 p.1.has):Nat),.int .u64 (E3 tg (E1 p.1.nj):Nat),.bool p.2]
def R7(tg:List BA):List Tr->List Value
 | []=>[]
 | p::r=>Ei tg p++R7 tg r
theorem Sg(tg:List BA):∀ts:List Tr,(R7 tg ts).length=ts.length*4
 | []=>rfl
 | p::r=>by rw[R7,A9,Sg tg r,List.length_cons];simp[Ei];omega
theorem Na(tg:List BA)(p:Tr):∀ts:List Tr,R7 tg (ts++[p])=R7 tg ts++Ei tg p
 | []=>by simp[R7]
 | q::r=>by rw[List.cons_append,R7,R7,Na tg p r,List.append_assoc]
theorem EK(tg:List BA):∀(ts:List Tr)(i j:Nat)(p:Tr),ts[i]?=some p->j<4->(R7 tg ts)[i*4+j]?=(Ei tg p)[j]?
 | [],i,j,p,h,_=>by simp at h
 | q::r,0,j,p,h,hj=>by
  simp at h;subst h
  rw[R7,List.getElem?_append_left (by simp[Ei];omega)];simp
 | q::r,i+1,j,p,h,hj=>by
  rw[R7,List.getElem?_append_right (by simp[Ei];omega)];have e:(i+1)*4+j-(Ei tg q).length=i*4+j:=by simp[Ei];omega
  rw[e];exact EK tg r i j p (by simpa using h) hj
theorem Pl(tg:List BA):∀(ts:List Tr)(i:Nat)(p:Tr),ts[i]?=some p->(R7 tg ts).set (i*4+3) (.bool true)=R7 tg (ts.set i (p.1,true))
 | [],i,p,h=>by simp at h
 | q::r,0,p,h=>by
  simp at h;subst h
  simp[R7,Ei]
 | q::r,i+1,p,h=>by
  rw[R7,List.set_append_right _ _ (by simp[Ei];omega)];have e:(i+1)*4+3-(Ei tg q).length=i*4+3:=by simp[Ei];omega
  rw[e,Pl tg r i p (by simpa using h)];simp[R7]
def K7(ts:List Tr)(t:BA):Bool:=ts.all λp=>p.2 || !E1 p.1.has t
theorem Ds(ts:List Tr)(t:BA):K7 ts t=true↔∀(i:Nat)(p:Tr),ts[i]?=some p->p.2=false->E1 p.1.has t=false:=by
 simp only[K7,List.all_eq_true,Bool.or_eq_true,Bool.not_eq_true'];constructor
 .grind
 .intro h p hp;obtain⟨i,hi,rfl⟩:=B7 hp;cases h2:ts[i].2
  .exact .inr (h i _ (A0 hi) h2)
  .exact .inl rfl
theorem Si{ts:List Tr}(h:ts.map (·.1)=bs)(t:BA):K7 ts t=Qo bs (λi=>(ts[i]?.map (·.2)).getD false) bs.length t:=by
 rw[Bool.eq_iff_iff,Ds,Kp];subst h;constructor
 .grind
 .grind
theorem Xk(ts:List Tr)(p:Tr)(t:BA):K7 (ts++[p]) t=(K7 ts t&&(p.2 || !E1 p.1.has t)):=by simp[K7]
theorem DM{ts:List Tr}(h:ts.map (·.1)=bs){p:Tr}(hp:ts[i]?=some p):bs[i]?=some p.1:=by subst h;rw[B3,hp];rfl
theorem ZD(ha:BT bs){ts:List Tr}(hk:k<bs.length)(h:ts.map (·.1)=bs.take k)(tg:List BA):
  E3 tg (K7 ts)=E3 tg (E1 (bs[k]).has)+E3 tg (K7 (ts++[(bs[k],false)])):=by
 rw[ZB (P:=K7 ts) (Q:=E1 (bs[k]).has)]
 .congr 1
  refine CT λt _=>?_;rw[Xk];simp
 .intro t _ hm;rw[Ds];intro i p hp _;have h1:=DM h hp;rw[List.getElem?_take] at h1;split at h1
  .rename_i hi;rw[A0 oM] at h1;obtain h1:=A5 h1;have:=ha.at hk hi;rw[Az] at this;rw[Cr,← h1];exact this t ((Ag _ _).1 hm)
  .cases h1
theorem Xl(ha:BT bs){ts:List Tr}{p:Tr}(h:ts.map (·.1)=bs)(hp:ts[i]?=some p)(hg:p.2=false)(tg:List BA):
  E3 tg (K7 ts)+E3 tg (E1 p.1.has)=E3 tg (K7 (ts.set i (p.1,true))):=by
 have hi:=(A2.1 hp).1;have hb:=DM h hp;have a1:i<bs.length:=by rw[← h];simpa using hi
 rw[GG]
 .refine CT λt _=>?_;rw[Bool.eq_iff_iff,Bool.or_eq_true,Ds,Ds];constructor
  .rintro (h1|h1) j q hq hg2
   .grind
   .rw[List.getElem?_set] at hq;split at hq
    .grind
    .rename_i hne;have a0:=DM h hq;have a2:=(A2.1 a0).1;rw[Cr];intro h5;have h6:=(Ag _ _).1 h1;rw[A0 a2] at a0;rw[A0 a1] at hb;have a3:=A5 a0;have a4:=A5 hb;rcases Nat.lt_or_gt_of_ne hne with h7|h7
     .have:=ha.at a2 h7;rw[Az,a3,a4] at this;exact this t h5 h6
     .have:=ha.at a1 h7;rw[Az,a3,a4] at this;exact this t h6 h5
  .intro h1;cases hm:E1 p.1.has t
   .refine .inl λj q hq hg2=>?_;by_cases e:i=j
    .simp_all
    .exact h1 j q (by rw[List.getElem?_set,if_neg e];exact hq) hg2
   .exact .inr rfl
 .intro t _ h1;exact (Ds _ _).1 h1 i p hp hg
theorem VD(hok:J3 b){ts:List Tr}(h:ts.map (·.1)=b.bs)(hG:∀(i:Nat)(p:Tr),ts[i]?=some p->p.2=E1 gone p.1.nm){p:Tr}(hp:ts[a]?=some p)(hg:p.2=false):
  (E3 b.tg (E1 p.1.nj) &&& (18446744073709551615-(E3 b.tg (K7 ts)+E3 b.tg (E1 p.1.has)))=0)↔JR b.bs a gone:=by
 have hb:=DM h hp;have a0:a<b.bs.length:=(A2.1 hb).1;have a1:b.bs[a]=p.1:=by rw[A0 a0] at hb;exact A5 hb
 rw[GG (λt _ h1=>(Ds _ _).1 h1 a p hp hg),ZC hok.1.1,
  ← Ab9 hok a0 (gone:=gone) (G:=λi=>(ts[i]?.map (·.2)).getD false) (λi hi=>?_) (by simp[hp,hg]),a1]
 .constructor
  .intro h1 t ht hn;rw[← Si h];exact h1 t ht hn
  .intro h1 t ht hn;have:=h1 t ht hn;rwa [← Si h] at this
 .grind
end
section
open Go.RowKit
def Bu(w:World)(tb:Nat)(tg:List BA)(ts:List Tr):Prop :=
 ∃rv,CB w tb [rv,.int .u64 (E3 tg (K7 ts):Nat)]/\w.ownsRow (tb+1) 260 4 rv ts.length (R7 tg ts)
theorem Bu.up{ts:List Tr}(h:Bu w tb tg ts)(hb:Up w w'):Bu w' tb tg ts:=by
 obtain⟨rv,h1,h2⟩:=h;exact⟨rv,h1.up hb h1.2.2,R8 h2 hb⟩
theorem Bu.lt{ts:List Tr}(h:Bu w tb tg ts):tb<w.heap.size:=by
 obtain⟨rv,h1,-⟩:=h;exact h1.2.2
theorem GH{g cap:Nat}{ts:List Tr}(h:w.ownsRow base 260 4 (Sy g ts.length cap) ts.length (R7 tg ts)){p:Tr}(hp:ts[i]?=some p):
  w.cell? ⟨g,i*4,none⟩=some (Tz p.1.nm)/\w.cell? ⟨g,i*4+1,none⟩=some (.int .u64 (E3 tg (E1 p.1.has):Nat))/\w.cell? ⟨g,i*4+2,none⟩=some (.int .u64 (E3 tg (E1 p.1.nj):Nat))/\w.cell? ⟨g,i*4+3,none⟩=some (.bool p.2):=by
 have hi:=(A2.1 hp).1;refine⟨?_,?_,?_,?_⟩
 .rw[show i*4=i*4+0 by omega,h.cellAt (i*4+0) oM,EK tg ts i 0 p hp oM];rfl
 .rw[h.cellAt (i*4+1) oM,EK tg ts i 1 p hp oM];rfl
 .rw[h.cellAt (i*4+2) oM,EK tg ts i 2 p hp oM];rfl
 .rw[h.cellAt (i*4+3) oM,EK tg ts i 3 p hp oM];rfl
theorem Sj(a b:Nat)(ha:a<256)(hb:b<512):bits .andNot .u64 (a:Int) (b:Int)=((a &&& (18446744073709551615-b):Nat):Int):=by
 have:=u64_andNot (a:Int) (b:Int) oM oM oM oM;simpa using this
theorem AdU(tb at':Nat)(tg:List BA)(ts:List Tr)(p:Tr)(w:World)(h:Bu w tb tg ts)(h8:tg.length<=8)(hp:ts[at']?=some p)(h5:ts.length<=5):
  cU prog 224 #[Pz tb 0,Iz at'] w (.bool (!p.2&&decide (E3 tg (E1 p.1.nj) &&& (18446744073709551615-(E3 tg (K7 ts)+E3 tg (E1 p.1.has)))=0))):=by
 obtain⟨rv,hC,a0⟩:=h;have hi:=(A2.1 hp).1;obtain⟨g,a5,rfl⟩:=AG a0 oM;obtain⟨r0,r1,r2,r3⟩:=GH a0 hp;obtain⟨t0,t1⟩:=hC.c2';have a3:=hC.2.2;have n1:=S8 h8 (E1 p.1.has);have n2:=S8 h8 (E1 p.1.nj);have n3:=S8 h8 (K7 ts);generalize E3 tg (E1 p.1.has)=hb at *;generalize E3 tg (E1 p.1.nj)=nb at *;generalize E3 tg (K7 ts)=fb at *;clear a0 hC;obtain⟨W1,a2,kX,a1,a6⟩:=cbE1 w [Tz p.1.nm,.int .u64 (hb:Nat),.int .u64 (nb:Nat),.bool p.2] 260;delta cU;go_in;go_upto_region 2 with fail;try rw[a2]
 clear a2 r0 r1 r2 r3;have x1:=kX.1 1 _ rfl;have x2:=kX.1 2 _ rfl;have x3:=kX.1 3 _ rfl;have f1:=(a1.cell (p:=⟨tb,1,none⟩) a3).trans t1;simp only[Nat.zero_add] at x1 x2 x3;have a4:IntKind.u64.wrap ((fb:Int)+(hb:Int))=((fb+hb:Nat):Int):=by rw[DL oM oM];omega
 have LY:=Sj nb (fb+hb) n2 oM;cases hgone:p.2
 .rw[hgone] at x3;go_wp2_with fail;go_quiet (fail);go_wp2_with fail;go_ret;refine⟨D4 ?_,E5 a1 _⟩;rw[hgone,← Int.natCast_add,LY];rw[Bool.eq_iff_iff,beq_iff_eq];simp
 .rw[hgone] at x3;go_wp2_with fail;go_quiet (fail);go_wp2_with fail;go_ret;exact⟨D4 (by rw[hgone];rfl),E5 a1 _⟩
theorem Pm{base' e' s s' n':Nat}(h:w.ownsRow base e s v n xs)(h':w.ownsRow base' e' s' v' n' xs')(hne:e≠e'):∀g,v.ownBlock=some g->some g≠v'.ownBlock:=λg hg hg'=>by
 rcases h.2 with⟨rfl,_⟩|⟨g1,cap,cur,rfl,_,hh,_⟩
 .simp[Value.ownBlock] at hg
 .rcases h'.2 with⟨rfl,_⟩|⟨g2,cap',cur',rfl,_,hh',_⟩
  .simp[Value.ownBlock] at hg'
  .simp[Value.ownBlock] at hg hg';subst hg hg';rw[hh] at hh';simp at hh';exact hne hh'.2
theorem Sm{s:Nat}(h:w.ownsRow base e s v n xs)(hg:w.grownBy w' r)(hne:∀g,v.ownBlock=some g->some g≠r):w'.ownsRow base e s v n xs:=by
 refine⟨h.1,?_⟩;rcases h.2 with h0|⟨g,cap,cur,hv,hb,hh,q⟩
 .exact .inl h0
 .refine .inr ⟨g,cap,cur,hv,hb,?_,q⟩;rw[hg.block g (D1.1 hh).1 (hne g (by rw[hv];rfl))];exact hh
theorem AdW:(prog.info? 260).map (λi=>(i.zero,i.size,i.bytes))=some (some (.agg #[Ez,.int .u64 0,.int .u64 0,.bool false]),4,40):=sI
def X3(bs:List Ba)(k:Nat):List Tr:=(bs.take k).map λx=>(x,false)
theorem VF(bs:List Ba)(k:Nat):(X3 bs k).map (·.1)=bs.take k:=by rw[X3,List.map_map];exact List.map_id _
theorem Nd(h:k<=bs.length):(X3 bs k).length=k:=by simp[X3];omega
theorem Sr(h:k<bs.length):X3 bs (k+1)=X3 bs k++[(bs[k],false)]:=by
 rw[X3,A7 h,List.map_append];rfl
theorem AdX(h:¬k<bs.length):X3 bs k=X3 bs bs.length:=by
 rw[X3,X3,D0 oM,List.take_length]
theorem ZF(tg:List BA)(bs:List Ba):E3 tg (E1 tg)=E3 tg (K7 (X3 bs 0)):=CT λt ht=>by
 rw[(Ag _ _).2 ht];rfl
theorem AgT(w:World)(x y z u:Value)(ty:TypeId)(h:[x,y,z,u][j]?=some v):(w.alloc (Kz [x,y,z,u] ty)).cell? ((⟨w.heap.size,0,none⟩:Addr).add j)=some v:=by
 have:=(E9 w [x,y,z,u] ty).1 j v h;rw[Addr.add_mid];exact this
theorem Un(b:Bk)(v:Value)(w:World)(h:Z5 w v b)(hok:J3 b):
  Calls prog 206 #[v] w λe w'=>(∃tb,e=.returned (.pointer (some ⟨tb,0,none⟩))/\Bu w' tb b.tg (X3 b.bs b.bs.length)/\w.heap.size<=tb)/\Up w w':=by
 obtain⟨a1,c1,a2,c2,rfl,h1,h2⟩:=h.parts;have h8:=hok.1.1;have h5:=hok.2.1;have Ha:Hid (BT b.bs):=hok.2.2.2.2.2;obtain⟨W1,c9,kA,b2,e8⟩:=cbE1 w [.slice a1 (b).tg.length c1,.slice a2 (b).bs.length c2] 34;have f7:=b2.size;clear e8;obtain⟨ii,hi,e9,f1,f2⟩:=info_parts AdW;have Hf0:Hid (E3 b.tg (E1 b.tg)=E3 b.tg (K7 (X3 b.bs 0))):=ZF _ _;clear hok;go_in;go_upto_region 1 with fail;try rw[c9]
 clear c9;have l1:=h1.up b2;have l2:=h2.up b2;obtain⟨e0,e1⟩:=kA.c2';have b7:=kA.2.2;obtain⟨-,b4⟩:=l2.at;clear h h1 h2;go_wp2_with fail;refine (Jx b.tg b.tg _ _ _ l1 l1 h8).mono ?_;rintro e w' ⟨rfl,hw⟩;obtain rfl:=hw.symm;clear hw;rw[Hf0.out];obtain⟨W2,d0,kT,b5,f3⟩:=cbE1 W1 [.slice none 0 0,.int .u64 (E3 b.tg (K7 (X3 b.bs 0)):Nat)] 263;go_upto_region 2 with fail;try rw[d0]
 clear d0;have d7:Bu W2 W1.heap.size b.tg (X3 b.bs 0):=⟨_,kT,by simp[R7,X3],.inl ⟨rfl,rfl⟩⟩;have g1:=(b5.cell (p:=⟨w.heap.size,1,none⟩) b7).trans e1;clear kT;go_wp2_with fail;clear g1;(try dsimp only[Iz,Sy,Sx,Nz,Vz,Tz,Ez,Pz]);go_loopw [5,6,17] (λ_ _ i w'=>∃k:Nat,k<=b.bs.length/\i=.int .i64 k/\Bu w' W1.heap.size b.tg (X3 b.bs k)/\Up W1 w') (λ_ _ i _=>b.bs.length-(intOf i).toNat)
 case atStart=>exact⟨0,by omega,rfl,d7,b5⟩
 case round =>
  clear d7 b5 f3;obtain⟨k,hk,rfl,hT,hB⟩:=hrel;by_cases hp:k<b.bs.length
  .obtain⟨bb,o,rfl,hS,hb⟩:=b4 (by omega);obtain⟨a3,d3,a4,d4,c3,c4,c5,l3,l4,-⟩:=(hS.at hp).cells;have c3:=(hB.cell (p:=⟨bb,o+k*3,none⟩) hb).trans c3;have c4:=(hB.cell (p:=⟨bb,o+k*3+1,none⟩) hb).trans c4;have c5:=(hB.cell (p:=⟨bb,o+k*3+2,none⟩) hb).trans c5
   have HF:Hid (E3 b.tg (K7 (X3 b.bs k))=E3 b.tg (E1 (b.bs[k]).has)+E3 b.tg (K7 (X3 b.bs (k+1)))):=by
    show _=_
    rw[Sr hp];exact ZD Ha.out hp (VF _ _) _
   have HR:Hid (R7 b.tg (X3 b.bs (k+1))=R7 b.tg (X3 b.bs k)++Ei b.tg (b.bs[k],false)):=by
    show _=_
    rw[Sr hp,Na]
   have d8:(X3 b.bs k).length=k:=Nd (by omega);have a9:(X3 b.bs (k+1)).length=k+1:=Nd (by omega);generalize b.bs[k]=x0 at *;obtain⟨W3,d1,kX,b6,f4⟩:=cbE1 wr [.string (x0).nm,.slice a3 (x0).has.length d3,.slice a4 (x0).nj.length d4] 80;go_upto_region 5 with fail;try rw[d1]
   have a8:=D3 hB b6;have d9:=hT.up b6;have f8:=hT.lt;obtain⟨⟨d2,d5,d6⟩,-⟩:=kX.c3;have f0:=(a8.cell (p:=⟨w.heap.size,0,none⟩) b7).trans e0;clear d1 c3 c4 c5 b6 hT hB hS;generalize wr.heap.size=xb at *;clear f4;have b8:=kX.2.2;have mk:∀w',Up W3 w'->Up W1 w'/\w'.cell? ⟨w.heap.size,0,none⟩=some (.slice a1 b.tg.length c1)/\w'.cell? ⟨xb,0,none⟩=some (.string x0.nm)/\w'.cell? ⟨xb,1,none⟩=some (.slice a3 x0.has.length d3)/\w'.cell? ⟨xb,2,none⟩=some (.slice a4 x0.nj.length d4):=λw' hb=>⟨D3 a8 hb,(hb.cell (p:=⟨w.heap.size,0,none⟩) (A1 b7 a8.size)).trans f0,(hb.cell (p:=⟨xb,0,none⟩) b8).trans d2,(hb.cell (p:=⟨xb,1,none⟩) b8).trans d5,(hb.cell (p:=⟨xb,2,none⟩) b8).trans d6⟩;go_wp2_with fail
   go_region_held (λw'=>Up W1 w'/\w'.cell? ⟨w.heap.size,0,none⟩=some (.slice a1 b.tg.length c1)/\w'.cell? ⟨xb,0,none⟩=some (.string x0.nm)/\w'.cell? ⟨xb,1,none⟩=some (.slice a3 x0.has.length d3)/\w'.cell? ⟨xb,2,none⟩=some (.slice a4 x0.nj.length d4)) (first|exact mk _ (A4 _ _).drew|exact mk _ (((A4 _ _).alloc (A3 _) _).drew)|exact mk _ (by go_grown))
    (first
     | (go_at_call_of 223 (Value.slice a3 x0.has.length d3);refine (Jx b.tg x0.has _ _ _ (l1.up (And.left (by assumption))) (l3.up (And.left (by assumption))) h8).mono ?_;rintro e w' ⟨rfl,hw⟩;obtain rfl:=hw.symm;clear hw)
     | (go_at_call_of 223 (Value.slice a4 x0.nj.length d4);refine (Jx b.tg x0.nj _ _ _ (l1.up (And.left (by assumption))) (l4.up (And.left (by assumption))) h8).mono ?_;rintro e w' ⟨rfl,hw⟩;obtain rfl:=hw.symm;clear hw))
   all_goals
    have b9:=((A4 W3.heap.size W3).alloc (A3 _) (.cells #[.string x0.nm,.int .u64 (E3 b.tg (E1 x0.has):Nat),.int .u64 (E3 b.tg (E1 x0.nj):Nat),.bool false] 260)).drew;have kR:CB (W3.alloc (.cells #[.string x0.nm,.int .u64 (E3 b.tg (E1 x0.has):Nat),.int .u64 (E3 b.tg (E1 x0.nj):Nat),.bool false] 260)).drew W3.heap.size [.string x0.nm,.int .u64 (E3 b.tg (E1 x0.has):Nat),.int .u64 (E3 b.tg (E1 x0.nj):Nat),.bool false]:=E9 W3 _ _;generalize (W3.alloc (.cells #[.string x0.nm,.int .u64 (E3 b.tg (E1 x0.has):Nat),.int .u64 (E3 b.tg (E1 x0.nj):Nat),.bool false] 260)).drew=W4 at *;have e2:=D3 a8 b9;obtain⟨rv,kT,a7⟩:=d9.up b9;rw[d8] at a7;have f9:=a8.size;have n1:=S8 h8 (E1 x0.has);have n2:=S8 h8 (E1 x0.nj);have n3:=S8 h8 (K7 (X3 b.bs k));have hF:=HF.out;have HE:Hid (∀W v1,CB W W1.heap.size [v1,.int .u64 (E3 b.tg (K7 (X3 b.bs (k+1))):Nat)]->W.ownsRow (W1.heap.size+1) 260 4 v1 (k+1) (R7 b.tg (X3 b.bs k)++[.string x0.nm,.int .u64 (E3 b.tg (E1 x0.has):Nat),.int .u64 (E3 b.tg (E1 x0.nj):Nat),.bool false])->Bu W W1.heap.size b.tg (X3 b.bs (k+1))):=λW v1 q1 q2=>⟨v1,q1,by rw[a9,HR.out];exact q2⟩;clear d9 mk f0 d2 d5 d6 kX HR HF a8 b9 d8 a9;generalize E3 b.tg (E1 x0.has)=hbn at *;generalize E3 b.tg (E1 x0.nj)=nbn at *;generalize E3 b.tg (K7 (X3 b.bs k))=fb at *;generalize E3 b.tg (K7 (X3 b.bs (k+1)))=fb2 at *;generalize R7 b.tg (X3 b.bs k)=rws at *;have c6:IntKind.u64.wrap ((fb:Int)-(hbn:Int))=(fb2:Int):=by rw[DL (by omega) (by omega)];omega
    have b0:(fb:Int)-(hbn:Int)=(fb2:Int):=by omega
    clear hF;obtain⟨⟨t0,t1⟩,u0,u1⟩:=kT.c2;have r0:=kR.1 0 _ rfl;have r1:=kR.1 1 _ rfl;have r2:=kR.1 2 _ rfl;have r3:=kR.1 3 _ rfl;simp only[Nat.zero_add] at r0 r1 r2 r3;have g0:=kR.2.2;generalize W3.heap.size=rb at *;have f5:rb≠W1.heap.size:=by omega
    go_wp2_with fail;go_region
    have b3:CB (W4.setCell ⟨W1.heap.size,1,none⟩ (.int .u64 (fb2:Nat))).drew W1.heap.size [rv,.int .u64 (fb2:Nat)]:=kT.set (j:=1) (by simp);have a5:(W4.setCell ⟨W1.heap.size,1,none⟩ (.int .u64 (fb2:Nat))).drew.ownsRow (W1.heap.size+1) 260 4 rv k rws:=Gu a7 (IX (Au (Ax _ _) _)) (by omega);have b1:CB (W4.setCell ⟨W1.heap.size,1,none⟩ (.int .u64 (fb2:Nat))).drew rb [.string x0.nm,.int .u64 (hbn:Nat),.int .u64 (nbn:Nat),.bool false]:=kR.other (by omega);have e3:Up W1 (W4.setCell ⟨W1.heap.size,1,none⟩ (.int .u64 (fb2:Nat))).drew:=(e2.setCell (p:=⟨W1.heap.size,1,none⟩) (A3 _) _).drew;clear t0 t1 u0 u1 r0 r1 r2 r3 kT kR a7 e2 c6 b0;generalize (W4.setCell ⟨W1.heap.size,1,none⟩ (.int .u64 (fb2:Nat))).drew=W5 at *;obtain⟨⟨t0,t1⟩,u0,u1⟩:=b3.c2;have r0:=b1.1 0 _ rfl;have r1:=b1.1 1 _ rfl;have r2:=b1.1 2 _ rfl;have r3:=b1.1 3 _ rfl;simp only[Nat.zero_add] at r0 r1 r2 r3;have c7:=b3.2.2;have a0:=R8 (W:=W5.drew) a5 ((A4 W5.heap.size W5.drew).alloc (A3 _) (.cells #[.string x0.nm,.int .u64 (hbn:Nat),.int .u64 (nbn:Nat),.bool false] 260));have e4:=(e3.drew).alloc e3.drew.size (.cells #[.string x0.nm,.int .u64 (hbn:Nat),.int .u64 (nbn:Nat),.bool false] 260);have e5:CB (W5.drew.alloc (.cells #[.string x0.nm,.int .u64 (hbn:Nat),.int .u64 (nbn:Nat),.bool false] 260)) W1.heap.size [rv,.int .u64 (fb2:Nat)]:=CB.up (w:=W5.drew) b3 ((A4 W5.heap.size W5.drew).alloc (A3 _) _) c7;go_wp2_with fail;go_region_law (refine S9 rfl _ _ 261 rfl (W1.heap.size+1) 260 ii _ 4 40 underlying261 hi e9 f1 f2 rfl (by decide) _ _ _ rfl a0 ⟨W5.heap.size,0,none⟩ 1 1 [.string x0.nm,.int .u64 (hbn:Nat),.int .u64 (nbn:Nat),.bool false] rfl rfl (λj u hj=>AgT W5.drew _ _ _ _ _ hj) (by simp[Value.oneCell']) (by unfold maxLen;omega) (by omega) (by simp;omega) ?_;intro v1 w1 hown1 hgr1;obtain⟨gg,cc,rfl⟩:=AG hown1 (by omega);have c8:=e5.kept hgr1 (JZ a0 (by omega));obtain⟨⟨z0,z1⟩,y0,y1⟩:=c8.c2)
    all_goals
     have e6:=S0 e4 a0 hgr1 (by omega);have e7:CB (w1.setCell ⟨W1.heap.size,0,none⟩ (.slice (some ⟨gg,0,none⟩) (k+1) cc)) W1.heap.size [.slice (some ⟨gg,0,none⟩) (k+1) cc,.int .u64 (fb2:Nat)]:=c8.set (j:=0) (by simp);have a6:=Gu hown1 (Au (off:=0) (Ax w1 (some W1.heap.size)) (.slice (some ⟨gg,0,none⟩) (k+1) cc)) (by omega);have f6:=e6.setCell (p:=⟨W1.heap.size,0,none⟩) (A3 _) (.slice (some ⟨gg,0,none⟩) (k+1) cc);have HT7:Hid (Bu (w1.setCell ⟨W1.heap.size,0,none⟩ (.slice (some ⟨gg,0,none⟩) (k+1) cc)) W1.heap.size b.tg (X3 b.bs (k+1))):=HE.out _ _ e7 a6;clear e7 a6 hown1 hgr1 c8 z0 z1 y0 y1 a0 e4 e5 r0 r1 r2 r3 t0 t1 u0 u1 e6 b3 a5 b1 HE;go_wp2_with fail;go_roundw
     case rel=>exact⟨k+1,by omega,by go_num,HT7.out,f6⟩
     case measure=>simp[intOf];omega
  .have Hs:Hid (X3 b.bs k=X3 b.bs b.bs.length):=AdX hp;go_wp2_with fail;go_ret;exact⟨⟨_,rfl,by rw[← Hs.out];exact hT,by omega⟩,D3 b2 hB⟩
theorem So(a b:List BA)(va vb:Value)(w:World)(ha:R9 w va a)(hb:R9 w vb b)(hn:a.length+b.length<=900):
  Calls prog 165 #[va,vb] w λe w'=>(∃u,e=.returned u/\R9 w' u (T1 a b))/\Up w w':=by
 have a4:=hb;obtain⟨g,c,rfl,hS,hg,hc,a3⟩:=hb;go_in;go_wp2_with fail;(try dsimp only[Iz,Sy,Sx,Nz,Vz,Tz,Ez,Pz]);go_loopw [0,5] (λu i w'=>∃k:Nat,k<=b.length/\i=.int .i64 k/\R9 w' u (T1 a (b.take k))/\Up w w') (λ_ i _=>b.length-(intOf i).toNat)
 case atStart=>exact⟨0,oM,rfl,by simpa [T1] using ha,A4 _ _⟩
 case round =>
  obtain⟨k,hk,rfl,hT,hB⟩:=hrel;by_cases hp:k<b.length
  .have c0:=(hB.cell (p:=⟨g,0+k,none⟩) hg).trans (hS k b[k] (by simp[hp]));simp only[Nat.zero_add] at c0;have hl:=Gv a (b.take k);rw[B8] at hl;go_wp2_with fail;refine (Js (T1 a (b.take k)) _ b[k] _ hT oM).mono ?_;rintro e w1 ⟨⟨u,rfl,a0⟩,a1⟩;have a2:=D3 hB a1;rw[← Wu a b k hp] at a0;clear hB a1 hT c0;go_wp2_with fail;go_roundw
   case rel=>exact⟨k+1,oM,mO,a0,a2⟩
   case measure=>simp[intOf];omega
  .go_wp2_with fail;go_ret;exact⟨⟨_,rfl,by rw[D0 oM] at hT;exact hT⟩,hB⟩
theorem AdV(w:World)(s:BA):R9 (w.alloc (Kz [Tz s] 9)) (Sy w.heap.size 1 1) [s] :=
 ⟨w.heap.size,1,rfl,DB w [s] 9,dC,dC,by unfold maxLen;omega⟩
theorem VE(p:Ph)(w:World):
  Calls prog 128 #[.agg #[Tz p.nm,Iz p.k,Tz p.a,Tz p.b,Iz p.n,Iz p.wi,Tz p.t,Tz p.e]] w λe w'=>(∃u,e=.returned u/\R9 w' u (Dm p))/\Up w w':=by
 obtain⟨pn,pk,pa,pb,pm,pw,pt,pe⟩:=p;simp only;have a2:Up w (w.alloc (Kz [Tz pn,Iz pk,Tz pa,Tz pb,Iz pm,Iz pw,Tz pt,Tz pe] 126)):=(A4 _ _).alloc (A3 _) _;have a0:=AdV (w.alloc (Kz [Tz pn,Iz pk,Tz pa,Tz pb,Iz pm,Iz pw,Tz pt,Tz pe] 126)) pa;have a1:=D3 a2 ((A4 _ _).alloc (A3 _) (Kz [Tz pa] 9));rw[show (w.alloc (Kz [Tz pn,Iz pk,Tz pa,Tz pb,Iz pm,Iz pw,Tz pt,Tz pe] 126)).heap.size=w.heap.size+1 by simp] at a0;by_cases hk:pk=2
 .subst hk;go_in;go_wp2_with fail;refine (Js [pa] _ pb _ a0 dC).mono ?_;rintro e w1 ⟨⟨u,rfl,a5⟩,a3⟩;have a4:=D3 a1 a3;clear a2 a1 a3 a0;go_wp2_with fail;go_ret;exact⟨⟨_,rfl,a5⟩,a4⟩
 .have a6:(pk==2)=false:=by simpa using hk
  have Ho:Hid (Dm ⟨pn,pk,pa,pb,pm,pw,pt,pe⟩=[pa]):=by show _=_;rw[Dm,if_neg hk]
  go_in;go_wp2_with fail;go_ret;exact⟨⟨_,rfl,by rw[Ho.out];exact a0⟩,a1⟩
end
end Go.Proofs.YtaffjphkobhagaaGreatDoor
