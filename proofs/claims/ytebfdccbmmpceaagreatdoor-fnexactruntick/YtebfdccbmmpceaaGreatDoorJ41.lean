/- A phase that can be read, opened. -/
import Derived.Test.YtebfdccbmmpceaaGreatDoorJ0
import Derived.Test.YtebfdccbmmpceaaGreatDoorJ1
import Derived.Test.YtebfdccbmmpceaaGreatDoorJ9
import Derived.Test.YtebfdccbmmpceaaGreatDoorJ23
import Derived.Test.YtebfdccbmmpceaaGreatDoorJ25
namespace Go.Proofs.YtebfdccbmmpceaaGreatDoor
open Go.ChangeShapes Go.WideShapes Go.ChangeAt Go.RowKit
theorem AeN:Tryz.prog.cellsOf 171=8:=by kernel_rfl
theorem Akp {H:Type} {enc:TypeId×Value->H} {w:World} {base:Nat} {sp:Nat->Bool} {held:Bool} {fuel:Nat} {cs:List Value} {x:DataW H×List MemPlace}
  (h:DataW.trod enc Tryz.prog w base sp held fuel 171 cs=some x) :
  ∃(nm:ByteArray) (k:Int) (a b:ByteArray) (n wi:Int) (t e:ByteArray),cs=[.string nm,.int .i64 k,.string a,.string b,.int .i64 n,.int .i64 wi,.string t,.string e]/\x.2=[]/\
   nm.size<=maxLen/\a.size<=maxLen/\b.size<=maxLen/\t.size<=maxLen/\e.size<=maxLen:=by
 obtain⟨xs,m,_,rfl,hl,hlen,hf⟩:=DataW.trod_struct Tryz.underlying171 h;rw[AeN] at hl;obtain⟨c0,c1,c2,c3,c4,c5,c6,c7,rfl⟩:=list8 hl;obtain⟨y0,y1,y2,y3,y4,y5,y6,y7,rfl⟩:=list8 (hlen.trans rfl:xs.length=8);have h0:DataW.trod enc Tryz.prog w base sp held m 9 (([c0,c1,c2,c3,c4,c5,c6,c7].drop 0).take (Tryz.prog.cellsOf 9))=some y0:=hf 0 {name:= "Name",type:=9,offset:=0,embedded:=false,tag:= "",pkgPath:= "",byteOffset:=0} rfl;have h1:DataW.trod enc Tryz.prog w base sp held m 3 (([c0,c1,c2,c3,c4,c5,c6,c7].drop 1).take (Tryz.prog.cellsOf 3))=some y1:=hf 1 {name:= "Kind",type:=3,offset:=1,embedded:=false,tag:= "",pkgPath:= "",byteOffset:=16} rfl;have h2:DataW.trod enc Tryz.prog w base sp held m 9 (([c0,c1,c2,c3,c4,c5,c6,c7].drop 2).take (Tryz.prog.cellsOf 9))=some y2:=hf 2 {name:= "A",type:=9,offset:=2,embedded:=false,tag:= "",pkgPath:= "",byteOffset:=24} rfl;have h3:DataW.trod enc Tryz.prog w base sp held m 9 (([c0,c1,c2,c3,c4,c5,c6,c7].drop 3).take (Tryz.prog.cellsOf 9))=some y3:=hf 3 {name:= "B",type:=9,offset:=3,embedded:=false,tag:= "",pkgPath:= "",byteOffset:=40} rfl;have h4:DataW.trod enc Tryz.prog w base sp held m 3 (([c0,c1,c2,c3,c4,c5,c6,c7].drop 4).take (Tryz.prog.cellsOf 3))=some y4:=hf 4 {name:= "N",type:=3,offset:=4,embedded:=false,tag:= "",pkgPath:= "",byteOffset:=56} rfl;have h5:DataW.trod enc Tryz.prog w base sp held m 3 (([c0,c1,c2,c3,c4,c5,c6,c7].drop 5).take (Tryz.prog.cellsOf 3))=some y5:=hf 5 {name:= "Within",type:=3,offset:=5,embedded:=false,tag:= "",pkgPath:= "",byteOffset:=64} rfl;have h6:DataW.trod enc Tryz.prog w base sp held m 9 (([c0,c1,c2,c3,c4,c5,c6,c7].drop 6).take (Tryz.prog.cellsOf 9))=some y6:=hf 6 {name:= "Then",type:=9,offset:=6,embedded:=false,tag:= "",pkgPath:= "",byteOffset:=72} rfl;have h7:DataW.trod enc Tryz.prog w base sp held m 9 (([c0,c1,c2,c3,c4,c5,c6,c7].drop 7).take (Tryz.prog.cellsOf 9))=some y7:=hf 7 {name:= "Else",type:=9,offset:=7,embedded:=false,tag:= "",pkgPath:= "",byteOffset:=88} rfl;clear hf h;rw[O9] at h0 h2 h3 h6 h7;rw[AbZ] at h1 h4 h5;simp only[List.drop_succ_cons,List.drop_zero,List.take_succ_cons,List.take_zero] at h0 h1 h2 h3 h4 h5 h6 h7;obtain⟨nm,rfl,rfl,z0⟩:=J9 h0;obtain⟨k,rfl,rfl,_⟩:=M8 h1;obtain⟨a,rfl,rfl,z2⟩:=J9 h2;obtain⟨b,rfl,rfl,z3⟩:=J9 h3;obtain⟨n,rfl,rfl,_⟩:=M8 h4;obtain⟨wi,rfl,rfl,_⟩:=M8 h5;obtain⟨t,rfl,rfl,z6⟩:=J9 h6;obtain⟨e,rfl,rfl,z7⟩:=J9 h7;exact⟨nm,k,a,b,n,wi,t,e,rfl,rfl,z0,z2,z3,z6,z7⟩
theorem Aiw {H:Type} {enc:TypeId×Value->H} {W:World} {base:Nat} {sp:Nat->Bool} {held:Bool} {v:Value} {d:DataW H} {p:List MemPlace} (hv:∃a l c,v=.slice a l c)
  (h:DataW.Trod enc Tryz.prog W base sp held 67 v d p):∃ps,Src W v ps/\Sized ps:=by
 obtain⟨a0,l0,k0,rfl⟩:=hv;obtain⟨fuel,hf⟩:=h;rcases DataW.trod_slice Tryz.underlying67 hf with⟨hcs,_⟩|⟨a,len,cap,elems,rest,n,_,hcs,_,hb,hl,hm,hlen,hel,_,_⟩
 ·have:Value.slice a0 l0 k0=.slice none 0 0:=by simpa [Value.cells] using hcs
  rw[this];exact⟨[],.inl ⟨_,_,rfl,rfl⟩,λp hp=>by simp at hp⟩
 ·have:Value.slice a0 l0 k0=.slice (some a) len cap:=by simpa [Value.cells] using hcs
  rw[this];clear this hcs hf;rw[AeN] at hel
  have each:∀i,i<len->∃q:Ph,W.cells? base (a.add (i*8)) 8=some q.cells/\(q.nm.size<=maxLen/\q.a.size<=maxLen/\q.b.size<=maxLen/\q.t.size<=maxLen/\q.e.size<=maxLen):=by
   intro i hi;have h1:=hel i hi;rw[A0 (by omega)] at h1;obtain⟨cs,hc,ht⟩:=Option.bind_eq_some_iff.1 h1;obtain⟨nm,k,a',b',n',wi,t,e,rfl,_,z0,z2,z3,z6,z7⟩:=Akp ht;exact⟨⟨nm,k,a',b',n',wi,t,e⟩,hc,z0,z2,z3,z6,z7⟩
  obtain⟨ps,hpl,hps⟩:=AaV len _ each;rcases C4 len with h0|h0
  ·subst h0
   exact⟨[],.inl ⟨_,_,rfl,rfl⟩,λp hp=>by simp at hp⟩
  ·obtain⟨b,o,spot⟩:=a
   have hs:spot=none:=by
    obtain⟨q,hq,_⟩:=each 0 h0;unfold World.cells? at hq;split at hq
    ·obtain⟨x,_,hc⟩:=Lib.mapM_at hq 0 0 (by simp)
     simpa [Addr.add] using World.cell?_spot hc
    ·cases hq
   subst hs
   have hra:RecAt W b o ps:=by
    intro i q hq;have:=(hps i q hq).1;rw[Addr.add_mid] at this;exact M5 this
   subst hpl;refine⟨ps,.inr ⟨b,o,cap,rfl,hra,?_,by omega⟩,λq hq=>?_⟩
   ·have:=hra 0 ps[0] (by simp[h0]) 0 _ rfl
    exact World.block_lt_of_cell? W _ this
   ·obtain⟨i,hi,rfl⟩:=B6 hq
    exact (hps i ps[i] (by simp[hi])).2
theorem AfC:Tryz.prog.cellsOf 173=2:=by kernel_rfl
theorem AiX:Tryz.prog.cellsOf 70=6:=by kernel_rfl
theorem An1:Tryz.prog.cellsOf 67=1:=by kernel_rfl
theorem An2:Tryz.prog.cellsOf 68=1:=by kernel_rfl
theorem Akq {α:Type} {l:List α} (h:l.length=6):∃a b c d e f,l=[a,b,c,d,e,f]:=by
 match l,h with
 | [a,b,c,d,e,f],_=>exact⟨a,b,c,d,e,f,rfl⟩
theorem Ami {H:Type} {enc:TypeId×Value->H} {w:World} {base:Nat} {sp:Nat->Bool} {held:Bool} {fuel:Nat} {cs:List Value} {x:DataW H×List MemPlace}
  (h:DataW.trod enc Tryz.prog w base sp held fuel 173 cs=some x):∃y:Sl,cs=y.cells/\y.s.size<=maxLen/\y.t.size<=maxLen:=by
 obtain⟨xs,m,_,rfl,hl,hlen,hf⟩:=DataW.trod_struct Tryz.underlying173 h;rw[AfC] at hl;obtain⟨c0,c1,rfl⟩:=AfX hl;obtain⟨y0,y1,rfl⟩:=AfX (hlen.trans rfl:xs.length=2);have h0:DataW.trod enc Tryz.prog w base sp held m 9 (([c0,c1].drop 0).take (Tryz.prog.cellsOf 9))=some y0:=hf 0 {name:= "Slot",type:=9,offset:=0,embedded:=false,tag:= "",pkgPath:= "",byteOffset:=0} rfl;have h1:DataW.trod enc Tryz.prog w base sp held m 9 (([c0,c1].drop 1).take (Tryz.prog.cellsOf 9))=some y1:=hf 1 {name:= "Thing",type:=9,offset:=1,embedded:=false,tag:= "",pkgPath:= "",byteOffset:=16} rfl;clear hf h;rw[O9] at h0 h1;simp only[List.drop_succ_cons,List.drop_zero,List.take_succ_cons,List.take_zero] at h0 h1;obtain⟨s,rfl,rfl,z0⟩:=J9 h0;obtain⟨t,rfl,rfl,z1⟩:=J9 h1;exact⟨⟨s,t⟩,rfl,z0,z1⟩
theorem AfT {H:Type} {enc:TypeId×Value->H} {W:World} {base:Nat} {sp:Nat->Bool} {held:Bool} {fuel:Nat} {v:Value} {x:DataW H×List MemPlace}
  (h:DataW.trod enc Tryz.prog W base sp held fuel 68 [v]=some x):∃l,SlSrc W v l/\SlZ l:=by
 rcases DataW.trod_slice Tryz.underlying68 h with⟨hcs,_⟩|⟨a,len,cap,elems,rest,n,_,hcs,_,hb,hl,hm,hlen,hel,_,_⟩
 ·obtain rfl:v=.slice none 0 0:=by simpa using hcs
  exact⟨[],.inl ⟨_,_,rfl,rfl⟩,λy hy=>by simp at hy⟩
 ·obtain rfl:v=.slice (some a) len cap:=by simpa using hcs
  clear hcs h;rw[AfC] at hel
  have each:∀i,i<len->∃y:Sl,W.cells? base (a.add (i*2)) 2=some y.cells/\y.s.size<=maxLen/\y.t.size<=maxLen:=by
   intro i hi;have h1:=hel i hi;rw[A0 (by omega)] at h1;obtain⟨cs,hc,ht⟩:=Option.bind_eq_some_iff.1 h1;obtain⟨y,rfl,r⟩:=Ami ht;exact⟨y,hc,r⟩
  obtain⟨l,hpl,hps⟩:=AaV len _ each;rcases C4 len with h0|h0
  ·subst h0
   exact⟨[],.inl ⟨_,_,rfl,rfl⟩,λy hy=>by simp at hy⟩
  ·obtain⟨b,o,spot⟩:=a
   have hs:spot=none:=by
    obtain⟨q,hq,_⟩:=each 0 h0;unfold World.cells? at hq;split at hq
    ·obtain⟨x,_,hc⟩:=Lib.mapM_at hq 0 0 (by simp)
     simpa [Addr.add] using World.cell?_spot hc
    ·cases hq
   subst hs
   have hra:SlAt W b o l:=by
    intro i q hq;have:=(hps i q hq).1;rw[Addr.add_mid] at this;exact M5 this
   subst hpl;refine⟨l,.inr ⟨b,o,cap,rfl,hra,?_,by omega⟩,λy hy=>?_⟩
   ·have:=hra 0 l[0] (by simp[h0]) 0 _ rfl
    exact World.block_lt_of_cell? W _ this
   ·obtain⟨i,hi,rfl⟩:=B6 hy
    exact (hps i l[i] (by simp[hi])).2
theorem Akr {H:Type} {enc:TypeId×Value->H} {w:World} {base:Nat} {sp:Nat->Bool} {held:Bool} {fuel:Nat} {cs:List Value} {x:DataW H×List MemPlace}
  (h:DataW.trod enc Tryz.prog w base sp held fuel 70 cs=some x):∃(y:Rb) (rv sv:Value),cs=[.string y.nm,rv,sv,.string y.ad,.int .i64 y.si,.int .i64 y.st]/\RbSrc w y rv sv:=by
 obtain⟨xs,m,_,rfl,hl,hlen,hf⟩:=DataW.trod_struct Tryz.underlying70 h;rw[AiX] at hl;obtain⟨c0,c1,c2,c3,c4,c5,rfl⟩:=Akq hl;obtain⟨y0,y1,y2,y3,y4,y5,rfl⟩:=Akq (hlen.trans rfl:xs.length=6);have h0:DataW.trod enc Tryz.prog w base sp held m 9 (([c0,c1,c2,c3,c4,c5].drop 0).take (Tryz.prog.cellsOf 9))=some y0:=hf 0 {name:= "Name",type:=9,offset:=0,embedded:=false,tag:= "",pkgPath:= "",byteOffset:=0} rfl;have h1:DataW.trod enc Tryz.prog w base sp held m 67 (([c0,c1,c2,c3,c4,c5].drop 1).take (Tryz.prog.cellsOf 67))=some y1:=hf 1 {name:= "Recipe",type:=67,offset:=1,embedded:=false,tag:= "",pkgPath:= "",byteOffset:=16} rfl;have h2:DataW.trod enc Tryz.prog w base sp held m 68 (([c0,c1,c2,c3,c4,c5].drop 2).take (Tryz.prog.cellsOf 68))=some y2:=hf 2 {name:= "Slots",type:=68,offset:=2,embedded:=false,tag:= "",pkgPath:= "",byteOffset:=40} rfl;have h3:DataW.trod enc Tryz.prog w base sp held m 9 (([c0,c1,c2,c3,c4,c5].drop 3).take (Tryz.prog.cellsOf 9))=some y3:=hf 3 {name:= "At",type:=9,offset:=3,embedded:=false,tag:= "",pkgPath:= "",byteOffset:=64} rfl;have h4:DataW.trod enc Tryz.prog w base sp held m 3 (([c0,c1,c2,c3,c4,c5].drop 4).take (Tryz.prog.cellsOf 3))=some y4:=hf 4 {name:= "Since",type:=3,offset:=4,embedded:=false,tag:= "",pkgPath:= "",byteOffset:=80} rfl;have h5:DataW.trod enc Tryz.prog w base sp held m 3 (([c0,c1,c2,c3,c4,c5].drop 5).take (Tryz.prog.cellsOf 3))=some y5:=hf 5 {name:= "Start",type:=3,offset:=5,embedded:=false,tag:= "",pkgPath:= "",byteOffset:=88} rfl;clear hf h;rw[O9] at h0 h3;rw[AbZ] at h4 h5;rw[An1] at h1;rw[An2] at h2;simp only[List.drop_succ_cons,List.drop_zero,List.take_succ_cons,List.take_zero] at h0 h1 h2 h3 h4 h5;obtain⟨nm,rfl,rfl,z0⟩:=J9 h0;obtain⟨ad,rfl,rfl,z3⟩:=J9 h3;obtain⟨si,rfl,rfl,_⟩:=M8 h4;obtain⟨st,rfl,rfl,_⟩:=M8 h5;obtain⟨l,l2,zl⟩:=AfT h2
 have hsh:∃a l c,c1=.slice a l c:=by
  rcases DataW.trod_slice Tryz.underlying67 h1 with⟨hcs,_⟩|⟨a,len,cap,elems,rest,n,_,hcs,_⟩
  ·exact⟨_,_,_,by simpa using hcs⟩
  ·exact⟨_,_,_,by simpa using hcs⟩
 obtain⟨ps,l1,zp⟩:=Aiw (enc:=enc) (base:=base) (sp:=sp) (held:=held) (v:=c1) (d:=y1.1) (p:=y1.2) hsh ⟨m,by
  obtain⟨a,l,c,rfl⟩:=hsh;simpa [Value.cells] using h1⟩
 exact⟨⟨nm,ps,l,ad,si,st⟩,c1,c2,rfl,⟨l1,l2,zp,zl,z0,z3⟩⟩
theorem AfD:Tryz.prog.cellsOf 22=1:=by kernel_rfl
theorem AbB {W:World} {base n:Nat} {a:Addr} {cs:List Value} (hn:0<n) (h:W.cells? base a n=some cs):a.spot=none:=by
 unfold World.cells? at h;split at h
 ·obtain⟨x,_,hc⟩:=Lib.mapM_at h 0 0 (by simp[hn])
  simpa [Addr.add] using World.cell?_spot hc
 ·cases h
theorem AcG {H:Type} {enc:TypeId×Value->H} {W:World} {base:Nat} {sp:Nat->Bool} {held:Bool} {fuel:Nat} {v:Value} {x:DataW H×List MemPlace}
  (h:DataW.trod enc Tryz.prog W base sp held fuel 22 [v]=some x):∃ss,Ls W v ss:=by
 rcases DataW.trod_slice Tryz.underlying22 h with⟨hcs,_⟩|⟨a,len,cap,elems,rest,n,_,hcs,_,hb,hl,hm,hlen,hel,_,_⟩
 ·obtain rfl:v=.slice none 0 0:=by simpa using hcs
  exact⟨[],Ls.nil _ _ _⟩
 ·obtain rfl:v=.slice (some a) len cap:=by simpa using hcs
  clear hcs h;rw[O9] at hel
  have each:∀i,i<len->∃q:ByteArray,W.cells? base (a.add (i*1)) 1=some [.string q]/\q.size<=maxLen:=by
   intro i hi;have h1:=hel i hi;rw[A0 (by omega)] at h1;obtain⟨cs,hc,ht⟩:=Option.bind_eq_some_iff.1 h1;obtain⟨s,rfl,-,hs⟩:=DataW.trod_string Tryz.underlying9 ht;exact⟨s,hc,hs⟩
  obtain⟨ss,hpl,hps⟩:=AaV len _ each;rcases C4 len with h0|h0
  ·subst h0
   exact⟨[],Ls.nil _ _ _⟩
  ·obtain⟨b,o,spot⟩:=a
   have hs:spot=none:=by
    obtain⟨q,hq,_⟩:=each 0 h0;simpa [Addr.add] using AbB (by omega) hq
   subst hs
   have hra:StrsAt W b o ss:=by
    intro i q hq;have:=(hps i q hq).1;rw[Addr.add_mid,Nat.mul_one] at this;exact M5 this 0 _ rfl
   subst hpl;refine⟨ss,_,cap,rfl,by omega,λs hs=>?_,λ_=>⟨b,o,rfl,hra,?_⟩⟩
   ·obtain⟨i,hi,rfl⟩:=B6 hs
    exact (hps i ss[i] (by simp[hi])).2
   ·exact World.block_lt_of_cell? W _ (hra 0 ss[0] (by simp[h0]))
theorem AeO:Tryz.prog.cellsOf 119=3:=by kernel_rfl
theorem AfE:Tryz.prog.cellsOf 25=2:=by kernel_rfl
theorem Aix:Tryz.prog.cellsOf 23=1:=by kernel_rfl
theorem Aks {H:Type} {enc:TypeId×Value->H} {w:World} {base:Nat} {sp:Nat->Bool} {held:Bool} {fuel:Nat} {cs:List Value} {x:DataW H×List MemPlace}
  (h:DataW.trod enc Tryz.prog w base sp held fuel 119 cs=some x):∃(y:Ba) (hv nv:Value),cs=[.string y.nm,hv,nv]/\Ls w hv y.has/\Ls w nv y.needs/\y.nm.size<=maxLen:=by
 obtain⟨xs,m,_,rfl,hl,hlen,hf⟩:=DataW.trod_struct Tryz.underlying119 h;rw[AeO] at hl;obtain⟨c0,c1,c2,rfl⟩:=AfW hl;obtain⟨y0,y1,y2,rfl⟩:=AfW (hlen.trans rfl:xs.length=3);have h0:DataW.trod enc Tryz.prog w base sp held m 9 (([c0,c1,c2].drop 0).take (Tryz.prog.cellsOf 9))=some y0:=hf 0 {name:= "Name",type:=9,offset:=0,embedded:=false,tag:= "",pkgPath:= "",byteOffset:=0} rfl;have h1:DataW.trod enc Tryz.prog w base sp held m 22 (([c0,c1,c2].drop 1).take (Tryz.prog.cellsOf 22))=some y1:=hf 1 {name:= "Has",type:=22,offset:=1,embedded:=false,tag:= "",pkgPath:= "",byteOffset:=16} rfl;have h2:DataW.trod enc Tryz.prog w base sp held m 22 (([c0,c1,c2].drop 2).take (Tryz.prog.cellsOf 22))=some y2:=hf 2 {name:= "Needs",type:=22,offset:=2,embedded:=false,tag:= "",pkgPath:= "",byteOffset:=40} rfl;clear hf h;rw[O9] at h0;rw[AfD] at h1 h2;simp only[List.drop_succ_cons,List.drop_zero,List.take_succ_cons,List.take_zero] at h0 h1 h2;obtain⟨nm,rfl,rfl,z0⟩:=J9 h0;obtain⟨has,l1⟩:=AcG h1;obtain⟨needs,l2⟩:=AcG h2;exact⟨⟨nm,has,needs⟩,c1,c2,rfl,l1,l2,z0⟩
theorem Akt {H:Type} {enc:TypeId×Value->H} {W:World} {base:Nat} {sp:Nat->Bool} {held:Bool} {fuel:Nat} {v:Value} {x:DataW H×List MemPlace}
  (h:DataW.trod enc Tryz.prog W base sp held fuel 23 [v]=some x):∃bs,Bs W v bs:=by
 rcases DataW.trod_slice Tryz.underlying23 h with⟨hcs,_⟩|⟨a,len,cap,elems,rest,n,_,hcs,_,hb,hl,hm,hlen,hel,_,_⟩
 ·obtain rfl:v=.slice none 0 0:=by simpa using hcs
  exact⟨[],_,_,rfl,by simp,λh=>by simp at h⟩
 ·obtain rfl:v=.slice (some a) len cap:=by simpa using hcs
  clear hcs h;rw[AeO] at hel
  have each:∀i,i<len->∃y:Ba,∃hv nv:Value,W.cells? base (a.add (i*3)) 3=some [.string y.nm,hv,nv]/\Ls W hv y.has/\Ls W nv y.needs/\y.nm.size<=maxLen:=by
   intro i hi;have h1:=hel i hi;rw[A0 (by omega)] at h1;obtain⟨cs,hc,ht⟩:=Option.bind_eq_some_iff.1 h1;obtain⟨y,hv,nv,rfl,r⟩:=Aks ht;exact⟨y,hv,nv,hc,r⟩
  obtain⟨bs,hpl,hps⟩:=AaV len _ each;rcases C4 len with h0|h0
  ·subst h0
   exact⟨[],_,_,rfl,by simp,λh=>by simp at h⟩
  ·obtain⟨b,o,spot⟩:=a
   have hs:spot=none:=by
    obtain⟨q,hv,nv,hq,_⟩:=each 0 h0;simpa [Addr.add] using AbB (by omega) hq
   subst hs
   have hra:BsAt W b o bs:=by
    intro i q hq;obtain⟨hv,nv,this,r⟩:=hps i q hq;rw[Addr.add_mid] at this;exact⟨hv,nv,M5 this,r⟩
   subst hpl;refine⟨bs,_,cap,rfl,by omega,λ_=>⟨b,o,rfl,hra,?_⟩⟩;obtain⟨hv,nv,hr,-⟩:=hra 0 bs[0] (by simp[h0]);exact World.block_lt_of_cell? W _ (hr 0 _ rfl)
theorem Aku {H:Type} {enc:TypeId×Value->H} {w:World} {base:Nat} {sp:Nat->Bool} {held:Bool} {fuel:Nat} {cs:List Value} {x:DataW H×List MemPlace}
  (h:DataW.trod enc Tryz.prog w base sp held fuel 25 cs=some x):∃(b:Bk),BkV w (.agg cs.toArray) b:=by
 obtain⟨xs,m,_,rfl,hl,hlen,hf⟩:=DataW.trod_struct Tryz.underlying25 h;rw[AfE] at hl;obtain⟨c0,c1,rfl⟩:=AfX hl;obtain⟨y0,y1,rfl⟩:=AfX (hlen.trans rfl:xs.length=2);have h0:DataW.trod enc Tryz.prog w base sp held m 22 (([c0,c1].drop 0).take (Tryz.prog.cellsOf 22))=some y0:=hf 0 {name:= "Things",type:=22,offset:=0,embedded:=false,tag:= "",pkgPath:= "",byteOffset:=0} rfl;have h1:DataW.trod enc Tryz.prog w base sp held m 23 (([c0,c1].drop 1).take (Tryz.prog.cellsOf 23))=some y1:=hf 1 {name:= "Batches",type:=23,offset:=1,embedded:=false,tag:= "",pkgPath:= "",byteOffset:=24} rfl;clear hf h;rw[AfD] at h0;rw[Aix] at h1;simp only[List.drop_succ_cons,List.drop_zero,List.take_succ_cons,List.take_zero] at h0 h1;obtain⟨ts,l0⟩:=AcG h0;obtain⟨bs,l1⟩:=Akt h1;exact⟨⟨ts,bs⟩,c0,c1,rfl,l0,l1⟩
theorem Akv:Tryz.prog.cellsOf 29=6:=by kernel_rfl
theorem AfF:Tryz.prog.cellsOf 73=3:=by kernel_rfl
theorem Akw:Tryz.prog.cellsOf 27=1:=by kernel_rfl
theorem An3:Tryz.prog.cellsOf 26=1:=by kernel_rfl
theorem list5 {α:Type} {l:List α} (h:l.length=5):∃a b c d e,l=[a,b,c,d,e]:=by
 match l,h with
 | [a,b,c,d,e],_=>exact⟨a,b,c,d,e,rfl⟩
theorem Amj {H:Type} {enc:TypeId×Value->H} {w:World} {base:Nat} {sp:Nat->Bool} {held:Bool} {fuel:Nat} {cs:List Value} {x:DataW H×List MemPlace}
  (h:DataW.trod enc Tryz.prog w base sp held fuel 73 cs=some x):∃y:Done,cs=y.cellsL/\y.nm.size<=maxLen:=by
 obtain⟨xs,m,_,rfl,hl,hlen,hf⟩:=DataW.trod_struct Tryz.underlying73 h;rw[AfF] at hl;obtain⟨c0,c1,c2,rfl⟩:=AfW hl;obtain⟨y0,y1,y2,rfl⟩:=AfW (hlen.trans rfl:xs.length=3);have h0:DataW.trod enc Tryz.prog w base sp held m 9 (([c0,c1,c2].drop 0).take (Tryz.prog.cellsOf 9))=some y0:=hf 0 {name:= "Name",type:=9,offset:=0,embedded:=false,tag:= "",pkgPath:= "",byteOffset:=0} rfl;have h1:DataW.trod enc Tryz.prog w base sp held m 3 (([c0,c1,c2].drop 1).take (Tryz.prog.cellsOf 3))=some y1:=hf 1 {name:= "End",type:=3,offset:=1,embedded:=false,tag:= "",pkgPath:= "",byteOffset:=16} rfl;have h2:DataW.trod enc Tryz.prog w base sp held m 3 (([c0,c1,c2].drop 2).take (Tryz.prog.cellsOf 3))=some y2:=hf 2 {name:= "Tick",type:=3,offset:=2,embedded:=false,tag:= "",pkgPath:= "",byteOffset:=24} rfl;clear hf h;rw[O9] at h0;rw[AbZ] at h1 h2;simp only[List.drop_succ_cons,List.drop_zero,List.take_succ_cons,List.take_zero] at h0 h1 h2;obtain⟨nm,rfl,rfl,z0⟩:=J9 h0;obtain⟨e,rfl,rfl,_⟩:=M8 h1;obtain⟨t,rfl,rfl,_⟩:=M8 h2;exact⟨⟨nm,e,t⟩,rfl,z0⟩
theorem AfU {H:Type} {enc:TypeId×Value->H} {W:World} {base:Nat} {sp:Nat->Bool} {held:Bool} {fuel:Nat} {v:Value} {x:DataW H×List MemPlace}
  (h:DataW.trod enc Tryz.prog W base sp held fuel 27 [v]=some x):∃l,Dns W v l:=by
 rcases DataW.trod_slice Tryz.underlying27 h with⟨hcs,_⟩|⟨a,len,cap,elems,rest,n,_,hcs,_,hb,hl,hm,hlen,hel,_,_⟩
 ·obtain rfl:v=.slice none 0 0:=by simpa using hcs
  exact⟨[],_,_,rfl,by simp,λh=>by simp at h⟩
 ·obtain rfl:v=.slice (some a) len cap:=by simpa using hcs
  clear hcs h;rw[AfF] at hel
  have each:∀i,i<len->∃y:Done,W.cells? base (a.add (i*3)) 3=some y.cellsL/\y.nm.size<=maxLen:=by
   intro i hi;have h1:=hel i hi;rw[A0 (by omega)] at h1;obtain⟨cs,hc,ht⟩:=Option.bind_eq_some_iff.1 h1;obtain⟨y,rfl,r⟩:=Amj ht;exact⟨y,hc,r⟩
  obtain⟨l,hpl,hps⟩:=AaV len _ each;rcases C4 len with h0|h0
  ·subst h0
   exact⟨[],_,_,rfl,by simp,λh=>by simp at h⟩
  ·obtain⟨b,o,spot⟩:=a
   have hs:spot=none:=by
    obtain⟨q,hq,_⟩:=each 0 h0;simpa [Addr.add] using AbB (by omega) hq
   subst hs
   have hra:DnsAt W b o l:=by
    intro i q hq;have:=hps i q hq;rw[Addr.add_mid] at this;exact⟨M5 this.1,this.2⟩
   subst hpl;exact⟨l,_,cap,rfl,by omega,λ_=>⟨b,o,rfl,hra,World.block_lt_of_cell? W _ ((hra 0 l[0] (by simp[h0])).1 0 _ rfl)⟩⟩
theorem Aiy {H:Type} {enc:TypeId×Value->H} {W:World} {base:Nat} {sp:Nat->Bool} {held:Bool} {fuel:Nat} {v:Value} {x:DataW H×List MemPlace}
  (h:DataW.trod enc Tryz.prog W base sp held fuel 26 [v]=some x):∃l,RsSrc W v l:=by
 rcases DataW.trod_slice Tryz.underlying26 h with⟨hcs,_⟩|⟨a,len,cap,elems,rest,n,_,hcs,_,hb,hl,hm,hlen,hel,_,_⟩
 ·obtain rfl:v=.slice none 0 0:=by simpa using hcs
  exact⟨[],_,_,rfl,by simp,λh=>by simp at h⟩
 ·obtain rfl:v=.slice (some a) len cap:=by simpa using hcs
  clear hcs h;rw[AiX] at hel
  have each:∀i,i<len->∃y:Rb,∃rv sv:Value,W.cells? base (a.add (i*6)) 6=some [.string y.nm,rv,sv,.string y.ad,.int .i64 y.si,.int .i64 y.st]/\RbSrc W y rv sv:=by
   intro i hi;have h1:=hel i hi;rw[A0 (by omega)] at h1;obtain⟨cs,hc,ht⟩:=Option.bind_eq_some_iff.1 h1;obtain⟨y,rv,sv,rfl,r⟩:=Akr ht;exact⟨y,rv,sv,hc,r⟩
  obtain⟨bs,hpl,hps⟩:=AaV len _ each;rcases C4 len with h0|h0
  ·subst h0
   exact⟨[],_,_,rfl,by simp,λh=>by simp at h⟩
  ·obtain⟨b,o,spot⟩:=a
   have hs:spot=none:=by
    obtain⟨q,rv,sv,hq,_⟩:=each 0 h0;simpa [Addr.add] using AbB (by omega) hq
   subst hs
   have hra:RsAt W b o bs:=by
    intro i q hq;obtain⟨rv,sv,this,r⟩:=hps i q hq;rw[Addr.add_mid] at this;exact⟨rv,sv,M5 this,r⟩
   subst hpl;refine⟨bs,_,cap,rfl,by omega,λ_=>⟨b,o,rfl,hra,?_⟩⟩;obtain⟨rv,sv,hr,-⟩:=hra 0 bs[0] (by simp[h0]);exact World.block_lt_of_cell? W _ (hr 0 _ rfl)
theorem AfV {H:Type} {enc:TypeId×Value->H} {w:World} {base:Nat} {sp:Nat->Bool} {held:Bool} {fuel:Nat} {cs:List Value} {x:DataW H×List MemPlace}
  (h:DataW.trod enc Tryz.prog w base sp held fuel 29 cs=some x):∃(y:House) (tv bv xv dv:Value),cs=[.int .i64 y.now,.int .i64 y.last,tv,bv,xv,dv]/\HSrc w y tv bv xv dv:=by
 obtain⟨xs,m,_,rfl,hl,hlen,hf⟩:=DataW.trod_struct Tryz.underlying29 h;rw[Akv] at hl;obtain⟨c0,c1,c2,c3,c4,c5,rfl⟩:=Akq hl;obtain⟨y0,y1,y2,y3,y4,rfl⟩:=list5 (hlen.trans rfl:xs.length=5);have h0:DataW.trod enc Tryz.prog w base sp held m 3 (([c0,c1,c2,c3,c4,c5].drop 0).take (Tryz.prog.cellsOf 3))=some y0:=hf 0 {name:= "Now",type:=3,offset:=0,embedded:=false,tag:= "",pkgPath:= "",byteOffset:=0} rfl;have h1:DataW.trod enc Tryz.prog w base sp held m 3 (([c0,c1,c2,c3,c4,c5].drop 1).take (Tryz.prog.cellsOf 3))=some y1:=hf 1 {name:= "Last",type:=3,offset:=1,embedded:=false,tag:= "",pkgPath:= "",byteOffset:=8} rfl;have h2:DataW.trod enc Tryz.prog w base sp held m 25 (([c0,c1,c2,c3,c4,c5].drop 2).take (Tryz.prog.cellsOf 25))=some y2:=hf 2 {name:= "Share",type:=25,offset:=2,embedded:=false,tag:= "",pkgPath:= "",byteOffset:=16} rfl;have h3:DataW.trod enc Tryz.prog w base sp held m 26 (([c0,c1,c2,c3,c4,c5].drop 4).take (Tryz.prog.cellsOf 26))=some y3:=hf 3 {name:= "Batches",type:=26,offset:=4,embedded:=false,tag:= "",pkgPath:= "",byteOffset:=64} rfl;have h4:DataW.trod enc Tryz.prog w base sp held m 27 (([c0,c1,c2,c3,c4,c5].drop 5).take (Tryz.prog.cellsOf 27))=some y4:=hf 4 {name:= "Dones",type:=27,offset:=5,embedded:=false,tag:= "",pkgPath:= "",byteOffset:=88} rfl;clear hf h;rw[AbZ] at h0 h1;rw[AfE] at h2;rw[An3] at h3;rw[Akw] at h4;simp only[List.drop_succ_cons,List.drop_zero,List.take_succ_cons,List.take_zero] at h0 h1 h2 h3 h4;obtain⟨now,rfl,rfl,_⟩:=M8 h0;obtain⟨last,rfl,rfl,_⟩:=M8 h1;obtain⟨b,tv,bv,e,l1,l2⟩:=Aku h2;obtain⟨rfl,rfl⟩:c2=tv/\c3=bv:=by simpa using e
 obtain⟨bs,l3⟩:=Aiy h3;obtain⟨ds,l4⟩:=AfU h4;exact⟨⟨now,last,b,bs,ds⟩,c2,c3,c4,c5,rfl,⟨l1,l2,l3,l4⟩⟩
end Go.Proofs.YtebfdccbmmpceaaGreatDoor
