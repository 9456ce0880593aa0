/- What the row's list gives: the errors package's handle of the type error; a world for the witness. -/
import Derived.Test.YtebfdccbmmpceaaGreatDoorRows
import Derived.Test.YtebfdccbmmpceaaGreatDoorJ0
import Derived.Test.YtebfdccbmmpceaaGreatDoorJ8
import Derived.LaidHandle
import Derived.Test.YtebfdccbmmpceaaGreatDoorJ1
import Derived.Deep.MidRow
import Derived.Deep.RegionWith
set_option maxHeartbeats 1000000
namespace Go.Proofs.YtebfdccbmmpceaaGreatDoor
open Go.ChangeShapes Go.WideShapes Go.ChangeAt Go.RowKit
theorem etN:Tryz.prog.globalNamed "errors.errorType"=some 0:=by kernel_rfl
theorem rtN:(Tryz.prog.cutTypes.find? (·.1 == "internal/reflectlite.rtype")).map (·.2)=some 185:=by kernel_rfl
theorem oneRow:((List.range Tryz.prog.types.size).filter λt=>Tryz.prog.rowNamed t [101,114,114,111,114])=[94]:=by kernel_rfl
theorem ErrT.of_laid {W:World} (h:laidMetH Tryz.prog [("errors.errorType",Rows.laid_errors_errorType)] W):ErrT W:=by
 have h':laidMet Tryz.prog [] W/\handlesMet Tryz.prog [("errors.errorType",Rows.laid_errors_errorType)] W:=h;obtain⟨name,u,ty,e1,e2,e3,e4,e5⟩:=h'.2 _ (D2.2 rfl);have en:name=[101,114,114,111,114]:=(A5 e1).symm;subst en;obtain rfl:=A5 (rtN.symm.trans e2);have hm:ty∈(List.range Tryz.prog.types.size).filter λt=>Tryz.prog.rowNamed t [101,114,114,111,114]:=List.mem_filter.2 ⟨List.mem_range.2 e3,e4⟩;rw[oneRow] at hm;obtain rfl:=D2.1 hm;have hh:typeHandle Tryz.prog 94=(Value.pointer (some ⟨2,94,none⟩)):=by kernel_rfl
 rw[hh] at e5;unfold ErrT;simpa using World.var?_cell etN e5 0
theorem Agw {W:World} (h:laidMetH Tryz.prog [("errors.errorType",Rows.laid_errors_errorType),("loop.example/maltrun/impl.recEndNames",Rows.laid_loop_example_maltrun_impl_recEndNames)] W):Ends W/\ErrT W:=by
 have h':laidMet Tryz.prog [("loop.example/maltrun/impl.recEndNames",Rows.laid_loop_example_maltrun_impl_recEndNames)] W/\handlesMet Tryz.prog [("errors.errorType",Rows.laid_errors_errorType)] W:=h;have h2:laidMet Tryz.prog [] W/\handlesMet Tryz.prog [("errors.errorType",Rows.laid_errors_errorType)] W:=⟨laidMet_nil _ _,h'.2⟩;exact⟨Ends.of_laid h'.1,ErrT.of_laid h2⟩
noncomputable def laidWorldB (os:Os):World :=
 {laidWorld os with heap:=(laidWorld os).heap.modify 0 fun
   | .cells _ t frozen=>.cells #[(Value.iface 185 (.agg #[(Value.pointer (some ⟨2,94,none⟩))]))] t frozen
   | o=>o}
theorem AkJ (os:Os) (args:Array Value):laidMetH Tryz.prog [("errors.errorType",Rows.laid_errors_errorType),("loop.example/maltrun/impl.recEndNames",Rows.laid_loop_example_maltrun_impl_recEndNames)] ((laidWorldB os).forCall (λ_ _=>0) ⟨#[],args,[]⟩).memory :=
 laidMetH_of_parts (laidMet_of_run (ps:=[.cell 1 0,.cell 1 1,.cell 1 2]) 8 (by kernel_rfl) (by kernel_rfl) (by kernel_rfl)) (by kernel_rfl)
end Go.Proofs.YtebfdccbmmpceaaGreatDoor
namespace Go.Proofs.YtebfdccbmmpceaaGreatDoor
open Go.RowKit
theorem Ah5 (nm:ByteArray) (k:Int) (a b:ByteArray) (n wi:Int) (t e:ByteArray) (w:World) :
  Calls Tryz.prog 125 #[.agg #[.string nm,.int .i64 k,.string a,.string b,.int .i64 n,.int .i64 wi,.string t,.string e]] w λe' w'=>e'=.returned (.agg #[.string nm,.int .i64 k,.string a,.string b,.int .i64 n,.int .i64 wi,.string t,.string e])/\Below w.heap.size w w':=by
 go_enter Tryz.func125,Tryz.ntmps125
 go_wp2
 go_returns
 exact⟨rfl,by go_grown⟩
theorem Ah6 (nm:ByteArray) (k:Int) (a b:ByteArray) (n wi:Int) (t e:ByteArray) (l:Int) (w:World) (hl:0<=l) (hl':l<=1048576) (hnm:nm.size<=maxLen) (ha:a.size<=maxLen) (hb:b.size<=maxLen) (ht:t.size<=maxLen) (he:e.size<=maxLen) :
  Calls Tryz.prog 114 #[.agg #[.string nm,.int .i64 k,.string a,.string b,.int .i64 n,.int .i64 wi,.string t,.string e],.int .i64 l] w
   λe' w'=>(∃x:Int,e'=.returned (.int .i64 x)/\x<=l/\-1<=x/\(0<=x->nm.size+a.size+b.size+t.size+e.size<=l))/\Below w.heap.size w w':=by
 unfold maxLen at *;go_enter Tryz.func114,Tryz.ntmps114
 go_wp2
 all_goals
  go_ret
  exact⟨⟨_,rfl,by omega,by omega,by omega⟩,(A4 _ _).alloc (A3 _) _⟩
structure Ph where
 nm:ByteArray
 k:Int
 a:ByteArray
 b:ByteArray
 n:Int
 wi:Int
 t:ByteArray
 e:ByteArray
def Ph.cells (p:Ph):List Value:=[.string p.nm,.int .i64 p.k,.string p.a,.string p.b,.int .i64 p.n,.int .i64 p.wi,.string p.t,.string p.e]
def Ph.okB (p:Ph):Bool:=phaseB p.nm p.k p.a p.b p.n p.wi p.t p.e
def RecAt (w:World) (b o:Nat) (ps:List Ph):Prop:=∀(i:Nat) (p:Ph),ps[i]?=some p->w.rangeAt b (o+i*8) p.cells
def Sized (ps:List Ph):Prop:=∀p∈ps,p.nm.size<=maxLen/\p.a.size<=maxLen/\p.b.size<=maxLen/\p.t.size<=maxLen/\p.e.size<=maxLen
def hasB (ps:List Ph) (nm:ByteArray):Bool:=ps.any λp=>p.nm.toList==nm.toList
def atI (ps:List Ph) (nm:ByteArray):Int:=match ps.findIdx? λp=>p.nm.toList==nm.toList with
 | some i=>i
 | none=>-1
theorem RecAt.cells {w:World} {b o:Nat} {ps:List Ph} (h:RecAt w b o ps) (i:Nat) (hi:i<ps.length) :
  w.cell? ⟨b,o+i*8,none⟩=some (.string (ps[i]).nm)/\w.cell? ⟨b,o+i*8+1,none⟩=some (.int .i64 (ps[i]).k)/\w.cell? ⟨b,o+i*8+2,none⟩=some (.string (ps[i]).a)/\w.cell? ⟨b,o+i*8+3,none⟩=some (.string (ps[i]).b)/\
  w.cell? ⟨b,o+i*8+4,none⟩=some (.int .i64 (ps[i]).n)/\w.cell? ⟨b,o+i*8+5,none⟩=some (.int .i64 (ps[i]).wi)/\w.cell? ⟨b,o+i*8+6,none⟩=some (.string (ps[i]).t)/\w.cell? ⟨b,o+i*8+7,none⟩=some (.string (ps[i]).e):=by
 have hr:=h i ps[i] (by simp[hi]);exact⟨hr 0 _ rfl,hr 1 _ rfl,hr 2 _ rfl,hr 3 _ rfl,hr 4 _ rfl,hr 5 _ rfl,hr 6 _ rfl,hr 7 _ rfl⟩
theorem RecAt.drop {w:World} {b o:Nat} {ps:List Ph} (h:RecAt w b o ps) (i:Nat):RecAt w b (o+i*8) (ps.drop i):=λj p hp=>by
 have:=h (i+j) p (by simpa [List.getElem?_drop] using hp);rwa [show o+i*8+j*8=o+(i+j)*8 by omega]
theorem RecAt.up {w w':World} {b o B:Nat} {ps:List Ph} (h:RecAt w b o ps) (hb:Below B w w') (hB:b<B):RecAt w' b o ps:=λi p hp j v hv=>by
 rw[hb.cell (p:=⟨b,o+i*8+j,none⟩) hB];exact h i p hp j v hv
theorem Afm (ps:List Ph) (nm:ByteArray) (k:Nat) (h:k<ps.length):hasB (ps.take (k+1)) nm=(hasB (ps.take k) nm || ((ps[k]).nm.toList==nm.toList)):=by
 unfold hasB;rw[A7 h,List.any_append];simp
theorem AdR (ps:List Ph) (nm:ByteArray) (k:Nat) (h:¬k<ps.length) (hn:hasB (ps.take k) nm=false):hasB ps nm=false:=by
 rwa [D3 (by omega)] at hn
theorem Amr (ps:List Ph) (nm:ByteArray) (k:Nat) (h:k<ps.length) (he:((ps[k]).nm.toList==nm.toList)=true):hasB ps nm=true:=by
 unfold hasB;rw[List.any_eq_true];exact⟨ps[k],by simp,he⟩
theorem T9 (ps:List Ph) (nm:ByteArray):hasB ps nm=true↔∃(j:Nat) (q:Ph),ps[j]?=some q/\(q.nm.toList==nm.toList)=true:=by
 unfold hasB;rw[List.any_eq_true];constructor
 ·rintro⟨q,hq,he⟩
  obtain⟨j,hj,rfl⟩:=B6 hq;exact⟨j,ps[j],by simp[hj],he⟩
 ·rintro⟨j,q,hq,he⟩
  exact⟨q,A6 hq,he⟩
theorem AdS (ps:List Ph) (nm:ByteArray) (h:hasB ps nm=false):atI ps nm=-1:=by
 have:(ps.findIdx? λp=>p.nm.toList==nm.toList)=none:=by
  rw[List.findIdx?_eq_none_iff];simpa [hasB] using h
 simp only[atI,this]
theorem Afn (ps:List Ph) (nm:ByteArray) (k:Nat) (h:k<ps.length) (hn:hasB (ps.take k) nm=false) (he:((ps[k]).nm.toList==nm.toList)=true):atI ps nm=k:=by
 have:(ps.findIdx? λp=>p.nm.toList==nm.toList)=some k:=by
  rw[List.findIdx?_eq_some_iff_getElem];refine⟨h,he,λj hj=>?_⟩;intro hc
  have:hasB (ps.take k) nm=true:=by
   rw[T9];exact⟨j,ps[j],by simp[hj,Nat.lt_trans hj h],hc⟩
  rw[hn] at this;cases this
 simp only[atI,this]
def goesB (later:List Ph) (nm:ByteArray):Bool:=endN nm != 0 || hasB later nm
theorem AnF (a:Option Addr) (c:Nat) (l:Int) (w:World) (hl:0<=l) (hl':l<=1048576) :
  Calls Tryz.prog 73 #[.slice a 0 c,.int .i64 l] w λe' w'=>e'=.returned (.int .i64 l)/\w'=w:=by
 go_enter Tryz.func73,Tryz.ntmps73
 go_wp2
 go_rounds 1
 go_ret
 exact⟨rfl,rfl⟩
theorem AnG (ps:List Ph) (b o c:Nat) (l:Int) (w:World) (hl:0<=l) (hl':l<=1048576) (hr:RecAt w b o ps) (hb:b<w.heap.size) (hs:Sized ps) (hn:ps.length<=maxLen) :
  Calls Tryz.prog 73 #[.slice (some ⟨b,o,none⟩) ps.length c,.int .i64 l] w
   λe' w'=>(∃x:Int,e'=.returned (.int .i64 x)/\(0<=x->(ps.length:Int)<=l)/\x<=1048576)/\Below w.heap.size w w':=by
 unfold maxLen at hn;by_cases h0:l-ps.length<0
 ·go_enter Tryz.func73,Tryz.ntmps73
  go_wp2
  go_ret
  exact⟨⟨_,rfl,by omega,by omega⟩,A4 _ _⟩
 have H0:Hid ((ps.length:Int)<=l):=by show _<=_;omega
 go_enter Tryz.func73,Tryz.ntmps73
 go_wp2
 go_loopw [1,5] (λx i w'=>∃(k:Nat) (y:Int),k<=ps.length/\i=.int .i64 k/\x=.int .i64 y/\0<=y/\y<=1048576/\Below w.heap.size w w') (λ_ i _=>ps.length-(intOf i).toNat)
 case atStart=>exact⟨0,_,by omega,rfl,rfl,by omega,by omega,A4 _ _⟩
 case round =>
  obtain⟨k,y,hk,rfl,rfl,hy,hy',hB⟩:=hrel;by_cases hp:k<ps.length
  ·obtain⟨c0,c1,c2,c3,c4,c5,c6,c7⟩:=hr.cells k hp
   obtain⟨z0,z1,z2,z3,z4⟩:=hs ps[k] (by simp);obtain⟨hc,hf⟩:=E6 hB;go_wp2_with fail
   refine (Ah6 _ _ _ _ _ _ _ _ _ _ hy hy' z0 z1 z2 z3 z4).mono ?_;rintro e' w1 ⟨⟨x,rfl,hx1,-,-⟩,hb1⟩;have hB1:=D6 hB hb1;by_cases hx:x<0
   ·go_wp2_with fail
    go_ret
    exact⟨⟨_,rfl,by omega,by omega⟩,hB1⟩
   ·go_wp2_with fail
    go_roundw
    case rel=>exact⟨k+1,x,by omega,by go_num,rfl,by omega,by omega,hB1⟩
    case measure=>simp[intOf];omega
  ·go_wp2_with fail
   go_ret
   exact⟨⟨_,rfl,λ_=>H0.out,hy'⟩,hB⟩
theorem AkK:(Tryz.prog.info? 84).map (λi=>(i.zero,i.size,i.bytes))=some (some (.agg #[.string ⟨#[]⟩,.int .i64 0,.string ⟨#[]⟩,.string ⟨#[]⟩,.int .i64 0,.int .i64 0,.string ⟨#[]⟩,.string ⟨#[]⟩]),8,104):=by kernel_rfl
theorem AkL:(Tryz.prog.info? 84).map (·.size)=some 8:=by kernel_rfl
theorem AbP (n:Nat) (hn:n<=1048576):∃C:Array Value,C.size=n*8/\∀w,(Instr.makeSlice 49 (.int .i64 (n:Int)) (.int .i64 (n:Int))).run Tryz.prog w=.ok (.slice (some ⟨w.heap.size,0,none⟩) n n) (w.alloc (.cells C 84)):=by
 obtain⟨i,hi,hz⟩:=B5.1 AkK;simp only[Prod.mk.injEq] at hz;obtain⟨hz,hs,hb⟩:=hz;refine⟨madeCells (Value.agg #[.string ⟨#[]⟩,.int .i64 0,.string ⟨#[]⟩,.string ⟨#[]⟩,.int .i64 0,.int .i64 0,.string ⟨#[]⟩,.string ⟨#[]⟩]).cells (n*8),size_madeCells _ _,λw=>?_⟩;have:=run_make (P:=Tryz.prog) w 49 84 i _ Tryz.underlying49 hi hz .i64 .i64 (n:Int) (n:Int) (by omega) (by omega) (by rw[hb];omega) (by omega);simp only[Int.toNat_natCast,hs] at this;exact this
def Src (w:World) (v:Value) (ps:List Ph):Prop:=(∃a c,v=.slice a 0 c/\ps=[])∨∃b o c,v=.slice (some ⟨b,o,none⟩) ps.length c/\RecAt w b o ps/\b<w.heap.size/\ps.length<=maxLen
theorem Src.up {w w':World} {v:Value} {ps:List Ph} (h:Src w v ps) (hb:Below w.heap.size w w'):Src w' v ps:=by
 rcases h with h|⟨b,o,c,rfl,hr,hlt,hl⟩
 ·exact .inl h
 ·exact .inr ⟨b,o,c,rfl,hr.up hb hlt,A1 hlt hb.size,hl⟩
def Own (w:World) (b:Nat) (ps:List Ph):Prop:=RecAt w b 0 ps/\w.there b 0 (ps.length*8)/\b<w.heap.size
theorem Ah7 {w1:World} {b k:Nat} {ps:List Ph} (hk:k<ps.length) (h:RecAt w1 b 0 (ps.take k)) (ht:w1.there b 0 (ps.length*8)):RecAt (w1.setCells b (k*8) (ps[k]).cells) b 0 (ps.take (k+1)):=by
 intro i p hp;by_cases hi:i<k
 ·refine World.rangeAt_setCells_apart (h i p ?_) b (k*8) _ (.inr (.inl ?_))
  ·rw[List.getElem?_take] at hp ⊢;rw[if_pos (by omega)] at hp;rw[if_pos hi];exact hp
  ·simp[Ph.cells];omega
 ·have hik:i=k:=by
   rw[List.getElem?_take] at hp;split at hp
   ·omega
   ·cases hp
  subst hik;rw[List.getElem?_take,if_pos (by omega),A0 hk] at hp;obtain rfl:=A5 hp;rw[Nat.zero_add];refine World.rangeAt_setCells_same _ _ _ _ (λj hj=>?_);have:=ht (i*8+j) (by simp[Ph.cells] at hj;omega);simpa using this
theorem AnH (a:Option Addr) (c:Nat) (w:World) :
  Calls Tryz.prog 95 #[.slice a 0 c] w λe w'=>e=.returned (.slice (some ⟨w.heap.size,0,none⟩) 0 0)/\Own w' w.heap.size []/\Below w.heap.size w w':=by
 obtain⟨C,hC,hmk⟩:=AbP 0 (by omega);have HC:Hid (C.size=0*8):=hC;clear hC;simp only[Int.natCast_zero] at hmk;go_enter Tryz.func95,Tryz.ntmps95
 go_wp2
 go_rounds 1
 go_ret
 exact⟨rfl,⟨λi p hp=>by simp at hp,λj hj=>by simp at hj,by simp⟩,by go_grown⟩
theorem AnI (ps:List Ph) (b o c:Nat) (w:World) (hr:RecAt w b o ps) (hb:b<w.heap.size) (hn:ps.length<=1048576) :
  Calls Tryz.prog 95 #[.slice (some ⟨b,o,none⟩) ps.length c] w λe w'=>e=.returned (.slice (some ⟨w.heap.size,0,none⟩) ps.length ps.length)/\Own w' w.heap.size ps/\Below w.heap.size w w':=by
 obtain⟨C,hC,hmk⟩:=AbP ps.length hn;have HC:Hid (C.size=ps.length*8):=hC;clear hC;go_enter Tryz.func95,Tryz.ntmps95
 go_wp2
 go_loopw [4] (λi w'=>∃k:Nat,k<=ps.length/\i=.int .i64 k/\RecAt w' w.heap.size 0 (ps.take k)/\w'.there w.heap.size 0 (ps.length*8)/\w.heap.size<w'.heap.size/\Below w.heap.size w w') (λi _=>ps.length-(intOf i).toNat)
 case atStart=>exact⟨0,by omega,rfl,λi p hp=>by simp at hp,by rw[← HC.out];exact S2 _ _ _,by simp,by go_grown⟩
 case round =>
  obtain⟨k,hk,rfl,hra,hth,hlt,hB⟩:=hrel;have Hra:Hid (RecAt wr w.heap.size 0 (ps.take k)):=hra;have Hth:Hid (wr.there w.heap.size 0 (ps.length*8)):=hth;clear hra hth;by_cases hp:k<ps.length
  ·obtain⟨c0,c1,c2,c3,c4,c5,c6,c7⟩:=hr.cells k hp
   obtain⟨hc,hf⟩:=E6 hB;go_wp2_with fail
   refine (Ah5 _ _ _ _ _ _ _ _ _).mono ?_;rintro e' w1 ⟨rfl,hb1⟩;clear hc hf c0 c1 c2 c3 c4 c5 c6 c7
   go_wp2_with (refine wpList_store_mid rfl 84 _ _ rfl w.heap.size (k*8) _ rfl rfl (λj hj=>by
     have:=I8 Hth.out hb1 hlt (k*8+j) (by simp at hj;omega);simpa using this) AkL (by simp[Value.oneCell']) ?_)
   go_roundw
   case rel=>exact⟨k+1,by omega,by go_num,Ah7 hp (Hra.out.up hb1 hlt) (I8 Hth.out hb1 hlt),World.there_setCells (I8 Hth.out hb1 hlt) _ _ _,A1 (A1 hlt hb1.size) (R9 _ _ _ _),M4 _ _ _ _ _ _ (D6 hB hb1) (A3 _)⟩
   case measure=>simp[intOf];omega
  ·go_wp2_with fail
   go_ret
   exact⟨rfl,⟨by have:=Hra.out;rwa [D3 (by omega)] at this,Hth.out,hlt⟩,hB⟩
theorem Ad5 (nm:ByteArray) (k:Int) (a b:ByteArray) (n wi:Int) (t e:ByteArray) (w:World) :
  Calls Tryz.prog 149 #[.agg #[.string nm,.int .i64 k,.string a,.string b,.int .i64 n,.int .i64 wi,.string t,.string e],.agg #[.string nm,.int .i64 k,.string a,.string b,.int .i64 n,.int .i64 wi,.string t,.string e]] w λe w'=>e=.returned (.bool true)/\Below w.heap.size w w':=by
 go_enter Tryz.func149,Tryz.ntmps149
 go_wp2
 go_ret
 exact⟨rfl,by go_grown⟩
theorem AnJ (ps:List Ph) (b b2 cA cB:Nat) (w:World) (hr:RecAt w b 0 ps) (hb:b<w.heap.size) (hr2:RecAt w b2 0 ps) (hb2:b2<w.heap.size) (hn:ps.length<=1048576) :
  Calls Tryz.prog 112 #[.slice (some ⟨b,0,none⟩) ps.length cA,.slice (some ⟨b2,0,none⟩) ps.length cB] w λe w'=>e=.returned (.bool true)/\Below w.heap.size w w':=by
 go_enter Tryz.func112,Tryz.ntmps112
 go_wp2
 go_loopw [5] (λi w'=>∃k:Nat,k<=ps.length/\i=.int .i64 k/\Below w.heap.size w w') (λi _=>ps.length-(intOf i).toNat)
 case atStart=>exact⟨0,by omega,rfl,A4 _ _⟩
 case round =>
  obtain⟨k,hk,rfl,hB⟩:=hrel;by_cases hp:k<ps.length
  ·obtain⟨c0,c1,c2,c3,c4,c5,c6,c7⟩:=hr.cells k hp
   obtain⟨d0,d1,d2,d3,d4,d5,d6,d7⟩:=hr2.cells k hp;simp only[Nat.zero_add] at c0 c1 c2 c3 c4 c5 c6 c7 d0 d1 d2 d3 d4 d5 d6 d7;obtain⟨hc,hf⟩:=E6 hB;go_wp2_with fail
   go_region_with (go_at_call 149;refine (Ad5 _ _ _ _ _ _ _ _ _).mono ?_;rintro e w1 ⟨rfl,hb1⟩)
   all_goals
    have hB1:=D6 hB.drew hb1;clear hc hf c0 c1 c2 c3 c4 c5 c6 c7 d0 d1 d2 d3 d4 d5 d6 d7;go_wp2_with fail
    go_roundw
    case rel=>exact⟨k+1,by omega,by go_num,hB1⟩
    case measure=>simp[intOf];omega
  ·go_wp2_with fail
   go_ret
   exact⟨rfl,hB⟩
theorem AnK (ps:List Ph) (v:Value) (w:World) (h:Src w v ps) (hn:ps.length<=1048576) :
  Calls Tryz.prog 95 #[v] w λe w'=>(∃b,e=.returned (.slice (some ⟨b,0,none⟩) ps.length ps.length)/\Own w' b ps/\w.heap.size<=b)/\Below w.heap.size w w':=by
 rcases h with⟨a,c,rfl,rfl⟩|⟨b,o,c,rfl,hr,hb,hl⟩
 ·exact (AnH a c w).mono λe w' ⟨he,ho,hB⟩=>⟨⟨_,he,ho,A3 _⟩,hB⟩
 ·exact (AnI ps b o c w hr hb hn).mono λe w' ⟨he,ho,hB⟩=>⟨⟨_,he,ho,A3 _⟩,hB⟩
theorem Own.up {w w':World} {b:Nat} {ps:List Ph} (h:Own w b ps) (hb:Below w.heap.size w w'):Own w' b ps :=
 ⟨h.1.up hb h.2.2,I8 h.2.1 hb h.2.2,A1 h.2.2 hb.size⟩
end Go.Proofs.YtebfdccbmmpceaaGreatDoor
