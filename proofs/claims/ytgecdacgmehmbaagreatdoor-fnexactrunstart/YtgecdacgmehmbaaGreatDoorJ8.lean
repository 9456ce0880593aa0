/- The laws' own helpers over a phase. -/
import Derived.Test.YtgecdacgmehmbaaGreatDoorJ2
import Derived.Deep.RegionWith
import Derived.Stop.Asserts
set_option maxHeartbeats 1000000
namespace Go.Proofs.YtgecdacgmehmbaaGreatDoor
open Go.RowKit
theorem Ahe (nm:ByteArray) (k:Int) (a b:ByteArray) (n wi:Int) (t e:ByteArray) (w:World) :
  Calls Tryz.prog 36 #[.agg #[.string nm,.int .i64 k,.string a,.string b,.int .i64 n,.int .i64 wi,.string t,.string e]] w λe' w'=>e'=.returned (.agg #[.string nm,.int .i64 k,.string a,.string b,.int .i64 n,.int .i64 wi,.string t,.string e])/\Below w.heap.size w w':=by
 go_enter Tryz.func36,Tryz.ntmps36
 go_wp2
 go_returns
 exact⟨rfl,by go_grown⟩
theorem Ahf (nm:ByteArray) (k:Int) (a b:ByteArray) (n wi:Int) (t e:ByteArray) (l:Int) (w:World) (hl:0<=l) (hl':l<=1048576) (hnm:nm.size<=maxLen) (ha:a.size<=maxLen) (hb:b.size<=maxLen) (ht:t.size<=maxLen) (he:e.size<=maxLen) :
  Calls Tryz.prog 22 #[.agg #[.string nm,.int .i64 k,.string a,.string b,.int .i64 n,.int .i64 wi,.string t,.string e],.int .i64 l] w
   λe' w'=>(∃x:Int,e'=.returned (.int .i64 x)/\x<=l/\-1<=x/\(0<=x->nm.size+a.size+b.size+t.size+e.size<=l))/\Below w.heap.size w w':=by
 unfold maxLen at *;go_enter Tryz.func22,Tryz.ntmps22
 go_wp2
 all_goals
  go_ret
  exact⟨⟨_,rfl,by omega,by omega,by omega⟩,(A4 _ _).alloc (A3 _) _⟩
theorem AmF (a:Option Addr) (c:Nat) (l:Int) (w:World) (hl:0<=l) (hl':l<=1048576) :
  Calls Tryz.prog 5 #[.slice a 0 c,.int .i64 l] w λe' w'=>e'=.returned (.int .i64 l)/\w'=w:=by
 go_enter Tryz.func5,Tryz.ntmps5
 go_wp2
 go_rounds 1
 go_ret
 exact⟨rfl,rfl⟩
theorem AmG (ps:List Ph) (b o c:Nat) (l:Int) (w:World) (hl:0<=l) (hl':l<=1048576) (hr:RecAt w b o ps) (hb:b<w.heap.size) (hs:Sized ps) (hn:ps.length<=maxLen) :
  Calls Tryz.prog 5 #[.slice (some ⟨b,o,none⟩) ps.length c,.int .i64 l] w
   λe' w'=>(∃x:Int,e'=.returned (.int .i64 x)/\(0<=x->(ps.length:Int)<=l)/\x<=1048576)/\Below w.heap.size w w':=by
 unfold maxLen at hn;by_cases h0:l-ps.length<0
 ·go_enter Tryz.func5,Tryz.ntmps5
  go_wp2
  go_ret
  exact⟨⟨_,rfl,by omega,by omega⟩,A4 _ _⟩
 have H0:Hid ((ps.length:Int)<=l):=by show _<=_;omega
 go_enter Tryz.func5,Tryz.ntmps5
 go_wp2
 go_loopw [1,5] (λx i w'=>∃(k:Nat) (y:Int),k<=ps.length/\i=.int .i64 k/\x=.int .i64 y/\0<=y/\y<=1048576/\Below w.heap.size w w') (λ_ i _=>ps.length-(intOf i).toNat)
 case atStart=>exact⟨0,_,by omega,rfl,rfl,by omega,by omega,A4 _ _⟩
 case round =>
  obtain⟨k,y,hk,rfl,rfl,hy,hy',hB⟩:=hrel;by_cases hp:k<ps.length
  ·obtain⟨c0,c1,c2,c3,c4,c5,c6,c7⟩:=hr.cells k hp
   obtain⟨z0,z1,z2,z3,z4⟩:=hs ps[k] (by simp);obtain⟨hc,hf⟩:=E2 hB;go_wp2_with fail
   refine (Ahf _ _ _ _ _ _ _ _ _ _ hy hy' z0 z1 z2 z3 z4).mono ?_;rintro e' w1 ⟨⟨x,rfl,hx1,-,-⟩,hb1⟩;have hB1:=D5 hB hb1;by_cases hx:x<0
   ·go_wp2_with fail
    go_ret
    exact⟨⟨_,rfl,by omega,by omega⟩,hB1⟩
   ·go_wp2_with fail
    go_roundw
    case rel=>exact⟨k+1,x,by omega,by go_num,rfl,by omega,by omega,hB1⟩
    case measure=>simp[intOf];omega
  ·go_wp2_with fail
   go_ret
   exact⟨⟨_,rfl,λ_=>H0.out,hy'⟩,hB⟩
theorem Akp:(Tryz.prog.info? 73).map (λi=>(i.zero,i.size,i.bytes))=some (some (.agg #[.string ⟨#[]⟩,.int .i64 0,.string ⟨#[]⟩,.string ⟨#[]⟩,.int .i64 0,.int .i64 0,.string ⟨#[]⟩,.string ⟨#[]⟩]),8,104):=by kernel_rfl
theorem Akq:(Tryz.prog.info? 73).map (·.size)=some 8:=by kernel_rfl
theorem Abz (n:Nat) (hn:n<=1048576):∃C:Array Value,C.size=n*8/\∀w,(Instr.makeSlice 45 (.int .i64 (n:Int)) (.int .i64 (n:Int))).run Tryz.prog w=.ok (.slice (some ⟨w.heap.size,0,none⟩) n n) (w.alloc (.cells C 73)):=by
 obtain⟨i,hi,hz⟩:=B4.1 Akp;simp only[Prod.mk.injEq] at hz;obtain⟨hz,hs,hb⟩:=hz;refine⟨madeCells (Value.agg #[.string ⟨#[]⟩,.int .i64 0,.string ⟨#[]⟩,.string ⟨#[]⟩,.int .i64 0,.int .i64 0,.string ⟨#[]⟩,.string ⟨#[]⟩]).cells (n*8),size_madeCells _ _,λw=>?_⟩;have:=run_make (P:=Tryz.prog) w 45 73 i _ Tryz.underlying45 hi hz .i64 .i64 (n:Int) (n:Int) (by omega) (by omega) (by rw[hb];omega) (by omega);simp only[Int.toNat_natCast,hs] at this;exact this
def Src (w:World) (v:Value) (ps:List Ph):Prop:=(∃a c,v=.slice a 0 c/\ps=[])∨∃b o c,v=.slice (some ⟨b,o,none⟩) ps.length c/\RecAt w b o ps/\b<w.heap.size/\ps.length<=maxLen
theorem Src.up {w w':World} {v:Value} {ps:List Ph} (h:Src w v ps) (hb:Below w.heap.size w w'):Src w' v ps:=by
 rcases h with h|⟨b,o,c,rfl,hr,hlt,hl⟩
 ·exact .inl h
 ·exact .inr ⟨b,o,c,rfl,hr.up hb hlt,A1 hlt hb.size,hl⟩
def Own (w:World) (b:Nat) (ps:List Ph):Prop:=RecAt w b 0 ps/\w.there b 0 (ps.length*8)/\b<w.heap.size
theorem Ahg {w1:World} {b k:Nat} {ps:List Ph} (hk:k<ps.length) (h:RecAt w1 b 0 (ps.take k)) (ht:w1.there b 0 (ps.length*8)):RecAt (w1.setCells b (k*8) (ps[k]).cells) b 0 (ps.take (k+1)):=by
 intro i p hp;by_cases hi:i<k
 ·refine World.rangeAt_setCells_apart (h i p ?_) b (k*8) _ (.inr (.inl ?_))
  ·rw[List.getElem?_take] at hp ⊢;rw[if_pos (by omega)] at hp;rw[if_pos hi];exact hp
  ·simp[Ph.cells];omega
 ·have hik:i=k:=by
   rw[List.getElem?_take] at hp;split at hp
   ·omega
   ·cases hp
  subst hik;rw[List.getElem?_take,if_pos (by omega),A0 hk] at hp;obtain rfl:=A5 hp;rw[Nat.zero_add];refine World.rangeAt_setCells_same _ _ _ _ (λj hj=>?_);have:=ht (i*8+j) (by simp[Ph.cells] at hj;omega);simpa using this
theorem AmH (a:Option Addr) (c:Nat) (w:World) :
  Calls Tryz.prog 9 #[.slice a 0 c] w λe w'=>e=.returned (.slice (some ⟨w.heap.size,0,none⟩) 0 0)/\Own w' w.heap.size []/\Below w.heap.size w w':=by
 obtain⟨C,hC,hmk⟩:=Abz 0 (by omega);have HC:Hid (C.size=0*8):=hC;clear hC;simp only[Int.natCast_zero] at hmk;go_enter Tryz.func9,Tryz.ntmps9
 go_wp2
 go_rounds 1
 go_ret
 exact⟨rfl,⟨λi p hp=>by simp at hp,λj hj=>by simp at hj,by simp⟩,by go_grown⟩
theorem AmI (ps:List Ph) (b o c:Nat) (w:World) (hr:RecAt w b o ps) (hb:b<w.heap.size) (hn:ps.length<=1048576) :
  Calls Tryz.prog 9 #[.slice (some ⟨b,o,none⟩) ps.length c] w λe w'=>e=.returned (.slice (some ⟨w.heap.size,0,none⟩) ps.length ps.length)/\Own w' w.heap.size ps/\Below w.heap.size w w':=by
 obtain⟨C,hC,hmk⟩:=Abz ps.length hn;have HC:Hid (C.size=ps.length*8):=hC;clear hC;go_enter Tryz.func9,Tryz.ntmps9
 go_wp2
 go_loopw [4] (λi w'=>∃k:Nat,k<=ps.length/\i=.int .i64 k/\RecAt w' w.heap.size 0 (ps.take k)/\w'.there w.heap.size 0 (ps.length*8)/\w.heap.size<w'.heap.size/\Below w.heap.size w w') (λi _=>ps.length-(intOf i).toNat)
 case atStart=>exact⟨0,by omega,rfl,λi p hp=>by simp at hp,by rw[← HC.out];exact S2 _ _ _,by simp,by go_grown⟩
 case round =>
  obtain⟨k,hk,rfl,hra,hth,hlt,hB⟩:=hrel;have Hra:Hid (RecAt wr w.heap.size 0 (ps.take k)):=hra;have Hth:Hid (wr.there w.heap.size 0 (ps.length*8)):=hth;clear hra hth;by_cases hp:k<ps.length
  ·obtain⟨c0,c1,c2,c3,c4,c5,c6,c7⟩:=hr.cells k hp
   obtain⟨hc,hf⟩:=E2 hB;go_wp2_with fail
   refine (Ahe _ _ _ _ _ _ _ _ _).mono ?_;rintro e' w1 ⟨rfl,hb1⟩;clear hc hf c0 c1 c2 c3 c4 c5 c6 c7
   go_wp2_with (refine wpList_store_mid rfl 73 _ _ rfl w.heap.size (k*8) _ rfl rfl (λj hj=>by
     have:=I3 Hth.out hb1 hlt (k*8+j) (by simp at hj;omega);simpa using this) Akq (by simp[Value.oneCell']) ?_)
   go_roundw
   case rel=>exact⟨k+1,by omega,by go_num,Ahg hp (Hra.out.up hb1 hlt) (I3 Hth.out hb1 hlt),World.there_setCells (I3 Hth.out hb1 hlt) _ _ _,A1 (A1 hlt hb1.size) (R8 _ _ _ _),M0 _ _ _ _ _ _ (D5 hB hb1) (A3 _)⟩
   case measure=>simp[intOf];omega
  ·go_wp2_with fail
   go_ret
   exact⟨rfl,⟨by have:=Hra.out;rwa [D2 (by omega)] at this,Hth.out,hlt⟩,hB⟩
theorem Ahh (nm:ByteArray) (k:Int) (a b:ByteArray) (n wi:Int) (t e:ByteArray) (w:World) :
  Calls Tryz.prog 44 #[.agg #[.string nm,.int .i64 k,.string a,.string b,.int .i64 n,.int .i64 wi,.string t,.string e],.agg #[.string nm,.int .i64 k,.string a,.string b,.int .i64 n,.int .i64 wi,.string t,.string e]] w λe w'=>e=.returned (.bool true)/\Below w.heap.size w w':=by
 go_enter Tryz.func44,Tryz.ntmps44
 go_wp2
 go_ret
 exact⟨rfl,by go_grown⟩
theorem Aga (s t:ByteArray) (w:World) :
  Calls Tryz.prog 272 #[.agg #[.string s,.string t]] w λe w'=>e=.returned (.int .i64 1000)/\Below w.heap.size w w':=by
 go_enter Tryz.func272,Tryz.ntmps272
 go_wp2
 go_ret
 exact⟨rfl,by go_grown⟩
theorem Agb (s t:ByteArray) (w:World) :
  Calls Tryz.prog 275 #[.agg #[.string s,.string t]] w λe w'=>e=.returned (.int .i64 1000)/\Below w.heap.size w w':=by
 go_enter Tryz.func275,Tryz.ntmps275
 go_wp2
 go_ret
 exact⟨rfl,by go_grown⟩
theorem Agc (s:ByteArray) (n:Int) (w:World) :
  Calls Tryz.prog 278 #[.agg #[.string s,.int .i64 n]] w λe w'=>e=.returned (.int .i64 n)/\Below w.heap.size w w':=by
 go_enter Tryz.func278,Tryz.ntmps278
 go_wp2
 go_ret
 exact⟨rfl,by go_grown⟩
theorem Al8 (s t:ByteArray) (w:World) (ht:t.size<=maxLen) :
  Calls Tryz.prog 273 #[.agg #[.string s,.string t]] w λe w'=>e=.returned (.bool (nameB t))/\Below w.heap.size w w':=by
 go_enter Tryz.func273,Tryz.ntmps273
 go_wp2_with (go_at_call 182;refine (K5 _ _ (by assumption)).mono ?_;rintro e w' ⟨rfl,hb⟩)
 go_ret
 exact⟨rfl,D5 ((A4 _ _).alloc (A3 _) _) hb⟩
theorem Al9 (s t:ByteArray) (w:World) (ht:t.size<=maxLen) :
  Calls Tryz.prog 276 #[.agg #[.string s,.string t]] w λe w'=>e=.returned (.bool (nameB t && !(s.toList==t.toList)))/\Below w.heap.size w w':=by
 have hsym:(t.toList==s.toList)=(s.toList==t.toList):=Bool.beq_comm;have Hs:Hid ((t.toList==s.toList)=(s.toList==t.toList)):=hsym;clear hsym;cases hn:nameB t
 all_goals
  go_enter Tryz.func276,Tryz.ntmps276
  go_wp2_with (go_at_call 182;refine (K5 _ _ (by assumption)).mono ?_;rintro e w' ⟨rfl,hb⟩;obtain⟨hc,hf⟩:=E2 hb)
  go_ret
  exact⟨D6 (by simp[Hs.out]),D5 ((A4 _ _).alloc (A3 _) _) hb⟩
theorem Agd (nm a b:ByteArray) (n wi:Int) (t e:ByteArray) (w:World) :
  Calls Tryz.prog 177 #[.agg #[.string nm,.int .i64 1,.string a,.string b,.int .i64 n,.int .i64 wi,.string t,.string e]] w
   λe w'=>e=.returned (.tuple #[.iface 277 (.agg #[.string a,.string b]),.bool true])/\Below w.heap.size w w':=by
 go_enter Tryz.func177,Tryz.ntmps177
 go_wp2
 go_ret2
 exact⟨rfl,by go_grown⟩
theorem Age (nm a b:ByteArray) (n wi:Int) (t e:ByteArray) (w:World) :
  Calls Tryz.prog 177 #[.agg #[.string nm,.int .i64 2,.string a,.string b,.int .i64 n,.int .i64 wi,.string t,.string e]] w
   λe w'=>e=.returned (.tuple #[.iface 279 (.agg #[.string a,.string b]),.bool true])/\Below w.heap.size w w':=by
 go_enter Tryz.func177,Tryz.ntmps177
 go_wp2
 go_ret2
 exact⟨rfl,by go_grown⟩
theorem Agf (nm a b:ByteArray) (n wi:Int) (t e:ByteArray) (w:World) :
  Calls Tryz.prog 177 #[.agg #[.string nm,.int .i64 3,.string a,.string b,.int .i64 n,.int .i64 wi,.string t,.string e]] w
   λe w'=>e=.returned (.tuple #[.iface 281 (.agg #[.string a,.int .i64 wi]),.bool true])/\Below w.heap.size w w':=by
 go_enter Tryz.func177,Tryz.ntmps177
 go_wp2
 go_ret2
 exact⟨rfl,by go_grown⟩
theorem AeT (nm a b:ByteArray) (n wi:Int) (t e:ByteArray) (w:World) :
  Calls Tryz.prog 177 #[.agg #[.string nm,.int .i64 4,.string a,.string b,.int .i64 n,.int .i64 wi,.string t,.string e]] w
   λe w'=>e=.returned (.tuple #[.iface 283 (.agg #[.string a]),.bool true])/\Below w.heap.size w w':=by
 go_enter Tryz.func177,Tryz.ntmps177
 go_wp2
 go_ret2
 exact⟨rfl,by go_grown⟩
theorem Agg (nm a b:ByteArray) (n wi:Int) (t e:ByteArray) (w:World) :
  Calls Tryz.prog 177 #[.agg #[.string nm,.int .i64 5,.string a,.string b,.int .i64 n,.int .i64 wi,.string t,.string e]] w
   λe w'=>e=.returned (.tuple #[.iface 284 (.agg #[.string a]),.bool true])/\Below w.heap.size w w':=by
 go_enter Tryz.func177,Tryz.ntmps177
 go_wp2
 go_ret2
 exact⟨rfl,by go_grown⟩
theorem AlA (nm:ByteArray) (k:Int) (a b:ByteArray) (n wi:Int) (t e:ByteArray) (w:World) (h1:(k==1)=false) (h2:(k==2)=false) (h3:(k==3)=false) (h4:(k==4)=false) (h5:(k==5)=false) :
  Calls Tryz.prog 177 #[.agg #[.string nm,.int .i64 k,.string a,.string b,.int .i64 n,.int .i64 wi,.string t,.string e]] w
   λe w'=>e=.returned (.tuple #[.nilIface,.bool false])/\Below w.heap.size w w':=by
 go_enter Tryz.func177,Tryz.ntmps177
 go_wp2
 go_ret2
 exact⟨rfl,by go_grown⟩
theorem Ahi (s t:ByteArray) (b:ByteArray) (w:World) (ht:t.size<=maxLen) :
  Calls Tryz.prog 205 #[.iface 277 (.agg #[.string s,.string t]),.string b] w λe w'=>e=.returned (.bool (nameB t))/\Below w.heap.size w w':=by
 have ta:∀w,(Instr.typeAssert (.iface 277 (.agg #[.string s,.string t])) 247 310 true).run Tryz.prog w=.ok (.tuple #[.iface 277 (.agg #[.string s,.string t]),.bool true]) w:=λ_=>by kernel_rfl
 go_enter Tryz.func205,Tryz.ntmps205
 go_wp2_with (go_at_call 273;refine (Al8 _ _ _ (by assumption)).mono ?_;rintro e w' ⟨rfl,hb⟩)
 go_ret
 exact⟨rfl,hb⟩
theorem Ahj (s t:ByteArray) (b:ByteArray) (w:World) (ht:t.size<=maxLen) :
  Calls Tryz.prog 205 #[.iface 279 (.agg #[.string s,.string t]),.string b] w λe w'=>e=.returned (.bool (nameB t && !(s.toList==t.toList)))/\Below w.heap.size w w':=by
 have ta:∀w,(Instr.typeAssert (.iface 279 (.agg #[.string s,.string t])) 247 310 true).run Tryz.prog w=.ok (.tuple #[.iface 279 (.agg #[.string s,.string t]),.bool true]) w:=λ_=>by kernel_rfl
 go_enter Tryz.func205,Tryz.ntmps205
 go_wp2_with (go_at_call 276;refine (Al9 _ _ _ (by assumption)).mono ?_;rintro e w' ⟨rfl,hb⟩)
 go_ret
 exact⟨rfl,hb⟩
theorem Ahk (s:ByteArray) (m:Int) (b:ByteArray) (w:World) :
  Calls Tryz.prog 205 #[.iface 281 (.agg #[.string s,.int .i64 m]),.string b] w λe w'=>e=.returned (.bool (b.toList.isEmpty))/\Below w.heap.size w w':=by
 have ta:∀w,(Instr.typeAssert (.iface 281 (.agg #[.string s,.int .i64 m])) 247 310 true).run Tryz.prog w=.ok (.tuple #[.nilIface,.bool false]) w:=λw=>run_typeAssert_lacksB Tryz.underlying310 (by kernel_rfl) (by kernel_rfl) _ _ w;go_enter Tryz.func205,Tryz.ntmps205
 go_wp2
 go_ret
 exact⟨rfl,A4 _ _⟩
theorem Agh (s:ByteArray) (b:ByteArray) (w:World) :
  Calls Tryz.prog 205 #[.iface 283 (.agg #[.string s]),.string b] w λe w'=>e=.returned (.bool (b.toList.isEmpty))/\Below w.heap.size w w':=by
 have ta:∀w,(Instr.typeAssert (.iface 283 (.agg #[.string s])) 247 310 true).run Tryz.prog w=.ok (.tuple #[.nilIface,.bool false]) w:=λw=>run_typeAssert_lacksB Tryz.underlying310 (by kernel_rfl) (by kernel_rfl) _ _ w;go_enter Tryz.func205,Tryz.ntmps205
 go_wp2
 go_ret
 exact⟨rfl,A4 _ _⟩
theorem Ahl (s:ByteArray) (b:ByteArray) (w:World) :
  Calls Tryz.prog 205 #[.iface 284 (.agg #[.string s]),.string b] w λe w'=>e=.returned (.bool (b.toList.isEmpty))/\Below w.heap.size w w':=by
 have ta:∀w,(Instr.typeAssert (.iface 284 (.agg #[.string s])) 247 310 true).run Tryz.prog w=.ok (.tuple #[.nilIface,.bool false]) w:=λw=>run_typeAssert_lacksB Tryz.underlying310 (by kernel_rfl) (by kernel_rfl) _ _ w;go_enter Tryz.func205,Tryz.ntmps205
 go_wp2
 go_ret
 exact⟨rfl,A4 _ _⟩
theorem Aft (s t:ByteArray) (n:Int) (w:World) :
  Calls Tryz.prog 206 #[.iface 277 (.agg #[.string s,.string t]),.int .i64 n] w λe w'=>e=.returned (.bool (inB n 1 1000))/\Below w.heap.size w w':=by
 have ta:∀w,(Instr.typeAssert (.iface 277 (.agg #[.string s,.string t])) 247 313 true).run Tryz.prog w=.ok (.tuple #[.iface 277 (.agg #[.string s,.string t]),.bool true]) w:=λ_=>by kernel_rfl
 by_cases h1:1<=n
 ·go_enter Tryz.func206,Tryz.ntmps206
  go_wp2_with (go_at_call 272;refine (Aga _ _ _).mono ?_;rintro e w' ⟨rfl,hb⟩)
  go_ret
  exact⟨D6 (by simp[inB,h1]),hb⟩
 ·go_enter Tryz.func206,Tryz.ntmps206
  go_wp2_with (go_at_call 272;refine (Aga _ _ _).mono ?_;rintro e w' ⟨rfl,hb⟩)
  go_ret
  exact⟨D6 (by simp[inB];omega),A4 _ _⟩
theorem Afu (s t:ByteArray) (n:Int) (w:World) :
  Calls Tryz.prog 206 #[.iface 279 (.agg #[.string s,.string t]),.int .i64 n] w λe w'=>e=.returned (.bool (inB n 1 1000))/\Below w.heap.size w w':=by
 have ta:∀w,(Instr.typeAssert (.iface 279 (.agg #[.string s,.string t])) 247 313 true).run Tryz.prog w=.ok (.tuple #[.iface 279 (.agg #[.string s,.string t]),.bool true]) w:=λ_=>by kernel_rfl
 by_cases h1:1<=n
 ·go_enter Tryz.func206,Tryz.ntmps206
  go_wp2_with (go_at_call 275;refine (Agb _ _ _).mono ?_;rintro e w' ⟨rfl,hb⟩)
  go_ret
  exact⟨D6 (by simp[inB,h1]),hb⟩
 ·go_enter Tryz.func206,Tryz.ntmps206
  go_wp2_with (go_at_call 275;refine (Agb _ _ _).mono ?_;rintro e w' ⟨rfl,hb⟩)
  go_ret
  exact⟨D6 (by simp[inB];omega),A4 _ _⟩
theorem Afv (s:ByteArray) (m:Int) (n:Int) (w:World) :
  Calls Tryz.prog 206 #[.iface 281 (.agg #[.string s,.int .i64 m]),.int .i64 n] w λe w'=>e=.returned (.bool (inB n 1 m))/\Below w.heap.size w w':=by
 have ta:∀w,(Instr.typeAssert (.iface 281 (.agg #[.string s,.int .i64 m])) 247 313 true).run Tryz.prog w=.ok (.tuple #[.iface 281 (.agg #[.string s,.int .i64 m]),.bool true]) w:=λ_=>by kernel_rfl
 by_cases h1:1<=n
 ·go_enter Tryz.func206,Tryz.ntmps206
  go_wp2_with (go_at_call 278;refine (Agc _ _ _).mono ?_;rintro e w' ⟨rfl,hb⟩)
  go_ret
  exact⟨D6 (by simp[inB,h1]),hb⟩
 ·go_enter Tryz.func206,Tryz.ntmps206
  go_wp2_with (go_at_call 278;refine (Agc _ _ _).mono ?_;rintro e w' ⟨rfl,hb⟩)
  go_ret
  exact⟨D6 (by simp[inB];omega),A4 _ _⟩
theorem Ae6 (s:ByteArray) (n:Int) (w:World) :
  Calls Tryz.prog 206 #[.iface 283 (.agg #[.string s]),.int .i64 n] w λe w'=>e=.returned (.bool (n==0))/\Below w.heap.size w w':=by
 have ta:∀w,(Instr.typeAssert (.iface 283 (.agg #[.string s])) 247 313 true).run Tryz.prog w=.ok (.tuple #[.nilIface,.bool false]) w:=λw=>run_typeAssert_lacksB Tryz.underlying313 (by kernel_rfl) (by kernel_rfl) _ _ w;go_enter Tryz.func206,Tryz.ntmps206
 go_wp2
 go_ret
 exact⟨rfl,A4 _ _⟩
theorem Afw (s:ByteArray) (n:Int) (w:World) :
  Calls Tryz.prog 206 #[.iface 284 (.agg #[.string s]),.int .i64 n] w λe w'=>e=.returned (.bool (n==0))/\Below w.heap.size w w':=by
 have ta:∀w,(Instr.typeAssert (.iface 284 (.agg #[.string s])) 247 313 true).run Tryz.prog w=.ok (.tuple #[.nilIface,.bool false]) w:=λw=>run_typeAssert_lacksB Tryz.underlying313 (by kernel_rfl) (by kernel_rfl) _ _ w;go_enter Tryz.func206,Tryz.ntmps206
 go_wp2
 go_ret
 exact⟨rfl,A4 _ _⟩
end Go.Proofs.YtgecdacgmehmbaaGreatDoor
