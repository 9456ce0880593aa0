/- The walks of a phase, the specification's side. -/
import Derived.Test.YtebfdccbmmpceaaGreatDoorJ0
import Derived.Stop.Asserts
import Derived.Laws.Bits64
import Derived.Deep.QuietTactic
import Derived.BigQuiet
import Derived.Test.YtebfdccbmmpceaaGreatDoorJ9
import Derived.Deep.DeepCutAuto
import Derived.Deep.RegionLaw
namespace Go.Proofs.YtebfdccbmmpceaaGreatDoor
open Go.RowKit
theorem Y4 (s:ByteArray) (w:World) (hs:s.size<=maxLen) :
  Calls Tryz.prog 152 #[.string s] w λe w'=>e=.returned (.bool (nameB s&&endN s==0))/\w'=w:=by
 cases hn:nameB s
 all_goals
  go_enter Tryz.func152,Tryz.ntmps152
  go_wp2_with (first|(go_at_call 76;refine (I0 _ _ (by assumption)).mono ?_;rintro e w' ⟨rfl,rfl⟩)|(go_at_call 90;refine (K8 _ _).mono ?_;rintro e w' ⟨rfl,rfl⟩))
  go_ret
  exact⟨D7 (by simp),rfl⟩
set_option maxHeartbeats 2000000 in
theorem Acx (nm:ByteArray) (k:Int) (a b:ByteArray) (n wi:Int) (t e:ByteArray) (w:World) (ha:a.size<=maxLen) (hb:b.size<=maxLen) :
  Calls Tryz.prog 153 #[.agg #[.string nm,.int .i64 k,.string a,.string b,.int .i64 n,.int .i64 wi,.string t,.string e]] w
   λe w'=>e=.returned (.bool (argsB k a b n wi))/\Below w.heap.size w w':=by
 by_cases h1:k=1
 ·subst h1
  cases hA:nameB a<;>cases hB:nameB b
  all_goals
   go_enter Tryz.func153,Tryz.ntmps153
   go_wp2_with (first|(go_at_call 76;refine (I0 _ _ (by assumption)).mono ?_;rintro e w' ⟨rfl,rfl⟩)|(go_at_call 36;refine (I4 _ _ _ _).mono ?_;rintro e w' ⟨rfl,rfl⟩))
   go_ret
   exact⟨D7 (by simp[argsB,hA,hB]),(A4 _ _).alloc (A3 _) _⟩
 by_cases h2:k=2
 ·subst h2
  cases hA:nameB a<;>cases hB:nameB b<;>cases hE:(a.toList==b.toList)
  all_goals
   go_enter Tryz.func153,Tryz.ntmps153
   go_wp2_with (first|(go_at_call 76;refine (I0 _ _ (by assumption)).mono ?_;rintro e w' ⟨rfl,rfl⟩)|(go_at_call 36;refine (I4 _ _ _ _).mono ?_;rintro e w' ⟨rfl,rfl⟩))
   go_ret
   exact⟨D7 (by simp[argsB,hA,hB,hE]),(A4 _ _).alloc (A3 _) _⟩
 by_cases h3:k=3
 ·subst h3
  cases hA:nameB a<;>cases hE:b.toList.isEmpty
  all_goals
   go_enter Tryz.func153,Tryz.ntmps153
   go_wp2_with (first|(go_at_call 76;refine (I0 _ _ (by assumption)).mono ?_;rintro e w' ⟨rfl,rfl⟩)|(go_at_call 36;refine (I4 _ _ _ _).mono ?_;rintro e w' ⟨rfl,rfl⟩))
   go_ret
   exact⟨D7 (by simp[argsB,hA,hE]),(A4 _ _).alloc (A3 _) _⟩
 by_cases h4:k=4
 ·subst h4
  cases hA:nameB a<;>cases hE:b.toList.isEmpty
  all_goals
   go_enter Tryz.func153,Tryz.ntmps153
   go_wp2_with (first|(go_at_call 76;refine (I0 _ _ (by assumption)).mono ?_;rintro e w' ⟨rfl,rfl⟩)|(go_at_call 36;refine (I4 _ _ _ _).mono ?_;rintro e w' ⟨rfl,rfl⟩))
   go_ret
   exact⟨D7 (by simp[argsB,hA,hE]),(A4 _ _).alloc (A3 _) _⟩
 by_cases h5:k=5
 ·subst h5
  cases hA:nameB a<;>cases hE:b.toList.isEmpty
  all_goals
   go_enter Tryz.func153,Tryz.ntmps153
   go_wp2_with (first|(go_at_call 76;refine (I0 _ _ (by assumption)).mono ?_;rintro e w' ⟨rfl,rfl⟩)|(go_at_call 36;refine (I4 _ _ _ _).mono ?_;rintro e w' ⟨rfl,rfl⟩))
   go_ret
   exact⟨D7 (by simp[argsB,hA,hE]),(A4 _ _).alloc (A3 _) _⟩
 have hr:Hid (argsB k a b n wi=false):=by show _=_;simp[argsB,h1,h2,h3,h4,h5]
 have e1:(k==1)=false:=by simpa using h1
 have e2:(k==2)=false:=by simpa using h2
 have e3:(k==3)=false:=by simpa using h3
 have e4:(k==4)=false:=by simpa using h4
 have e5:(k==5)=false:=by simpa using h5
 clear h1 h2 h3 h4 h5;go_enter Tryz.func153,Tryz.ntmps153
 go_wp2_with (first|(go_at_call 76;refine (I0 _ _ (by assumption)).mono ?_;rintro e w' ⟨rfl,rfl⟩)|(go_at_call 36;refine (I4 _ _ _ _).mono ?_;rintro e w' ⟨rfl,rfl⟩))
 go_ret
 exact⟨D7 hr.out.symm,(A4 _ _).alloc (A3 _) _⟩
set_option maxHeartbeats 1000000 in
theorem L6 (nm:ByteArray) (k:Int) (a b:ByteArray) (n wi:Int) (t e:ByteArray) (w:World) (hnm:nm.size<=maxLen) (ha:a.size<=maxLen) (hb:b.size<=maxLen) (ht:t.size<=maxLen) (he:e.size<=maxLen) :
  Calls Tryz.prog 117 #[.agg #[.string nm,.int .i64 k,.string a,.string b,.int .i64 n,.int .i64 wi,.string t,.string e]] w
   λe' w'=>e'=.returned (.bool (phaseB nm k a b n wi t e))/\Below w.heap.size w w':=by
 cases h1:(nameB nm&&endN nm==0)
 ·go_enter Tryz.func117,Tryz.ntmps117
  go_wp2_with (go_at_call 152;refine (Y4 _ _ (by assumption)).mono ?_;rintro e w' ⟨rfl,rfl⟩)
  go_ret
  exact⟨D7 (by simp[phaseB,h1]),(A4 _ _).alloc (A3 _) _⟩
 cases h2:inB wi 1 1000
 ·go_enter Tryz.func117,Tryz.ntmps117
  go_wp2_with (first|(go_at_call 152;refine (Y4 _ _ (by assumption)).mono ?_;rintro e w' ⟨rfl,rfl⟩)|(go_at_call 36;refine (I4 _ _ _ _).mono ?_;rintro e w' ⟨rfl,rfl⟩))
  go_ret
  exact⟨D7 (by simp[phaseB,h2]),(A4 _ _).alloc (A3 _) _⟩
 cases h3:argsB k a b n wi
 ·go_enter Tryz.func117,Tryz.ntmps117
  go_wp2_with (first|(go_at_call 152;refine (Y4 _ _ (by assumption)).mono ?_;rintro e w' ⟨rfl,rfl⟩)|(go_at_call 36;refine (I4 _ _ _ _).mono ?_;rintro e w' ⟨rfl,rfl⟩)|(go_at_call 153;refine (Acx _ _ _ _ _ _ _ _ _ (by assumption) (by assumption)).mono ?_;rintro e w' ⟨rfl,hb1⟩;obtain⟨hc,hf⟩:=E6 hb1)|(go_at_call 76;refine (I0 _ _ (by assumption)).mono ?_;rintro e w' ⟨rfl,rfl⟩))
  go_ret
  exact⟨D7 (by simp[phaseB,h3]),D6 ((A4 _ _).alloc (A3 _) _) hb1⟩
 cases h4:nameB t
 ·go_enter Tryz.func117,Tryz.ntmps117
  go_wp2_with (first|(go_at_call 152;refine (Y4 _ _ (by assumption)).mono ?_;rintro e w' ⟨rfl,rfl⟩)|(go_at_call 36;refine (I4 _ _ _ _).mono ?_;rintro e w' ⟨rfl,rfl⟩)|(go_at_call 153;refine (Acx _ _ _ _ _ _ _ _ _ (by assumption) (by assumption)).mono ?_;rintro e w' ⟨rfl,hb1⟩;obtain⟨hc,hf⟩:=E6 hb1)|(go_at_call 76;refine (I0 _ _ (by assumption)).mono ?_;rintro e w' ⟨rfl,rfl⟩))
  go_ret
  exact⟨D7 (by simp[phaseB,h4]),D6 ((A4 _ _).alloc (A3 _) _) hb1⟩
 ·go_enter Tryz.func117,Tryz.ntmps117
  go_wp2_with (first|(go_at_call 152;refine (Y4 _ _ (by assumption)).mono ?_;rintro e w' ⟨rfl,rfl⟩)|(go_at_call 36;refine (I4 _ _ _ _).mono ?_;rintro e w' ⟨rfl,rfl⟩)|(go_at_call 153;refine (Acx _ _ _ _ _ _ _ _ _ (by assumption) (by assumption)).mono ?_;rintro e w' ⟨rfl,hb1⟩;obtain⟨hc,hf⟩:=E6 hb1)|(go_at_call 76;refine (I0 _ _ (by assumption)).mono ?_;rintro e w' ⟨rfl,rfl⟩))
  go_ret
  exact⟨D7 (by simp[phaseB,h1,h2,h3,h4]),D6 ((A4 _ _).alloc (A3 _) _) hb1⟩
theorem Ag1 (s t:ByteArray) (w:World) :
  Calls Tryz.prog 278 #[.agg #[.string s,.string t]] w λe w'=>e=.returned (.int .i64 1000)/\Below w.heap.size w w':=by
 go_enter Tryz.func278,Tryz.ntmps278
 go_wp2
 go_ret
 exact⟨rfl,by go_grown⟩
theorem Ag2 (s t:ByteArray) (w:World) :
  Calls Tryz.prog 281 #[.agg #[.string s,.string t]] w λe w'=>e=.returned (.int .i64 1000)/\Below w.heap.size w w':=by
 go_enter Tryz.func281,Tryz.ntmps281
 go_wp2
 go_ret
 exact⟨rfl,by go_grown⟩
theorem Ag3 (s:ByteArray) (n:Int) (w:World) :
  Calls Tryz.prog 284 #[.agg #[.string s,.int .i64 n]] w λe w'=>e=.returned (.int .i64 n)/\Below w.heap.size w w':=by
 go_enter Tryz.func284,Tryz.ntmps284
 go_wp2
 go_ret
 exact⟨rfl,by go_grown⟩
theorem Amx (s t:ByteArray) (w:World) (ht:t.size<=maxLen) :
  Calls Tryz.prog 279 #[.agg #[.string s,.string t]] w λe w'=>e=.returned (.bool (nameB t))/\Below w.heap.size w w':=by
 go_enter Tryz.func279,Tryz.ntmps279
 go_wp2_with (go_at_call 209;refine (K7 _ _ (by assumption)).mono ?_;rintro e w' ⟨rfl,hb⟩)
 go_ret
 exact⟨rfl,D6 ((A4 _ _).alloc (A3 _) _) hb⟩
theorem Amy (s t:ByteArray) (w:World) (ht:t.size<=maxLen) :
  Calls Tryz.prog 282 #[.agg #[.string s,.string t]] w λe w'=>e=.returned (.bool (nameB t && !(s.toList==t.toList)))/\Below w.heap.size w w':=by
 have hsym:(t.toList==s.toList)=(s.toList==t.toList):=Bool.beq_comm;have Hs:Hid ((t.toList==s.toList)=(s.toList==t.toList)):=hsym;clear hsym;cases hn:nameB t
 all_goals
  go_enter Tryz.func282,Tryz.ntmps282
  go_wp2_with (go_at_call 209;refine (K7 _ _ (by assumption)).mono ?_;rintro e w' ⟨rfl,hb⟩;obtain⟨hc,hf⟩:=E6 hb)
  go_ret
  exact⟨D7 (by simp[Hs.out]),D6 ((A4 _ _).alloc (A3 _) _) hb⟩
theorem Ag4 (nm a b:ByteArray) (n wi:Int) (t e:ByteArray) (w:World) :
  Calls Tryz.prog 171 #[.agg #[.string nm,.int .i64 1,.string a,.string b,.int .i64 n,.int .i64 wi,.string t,.string e]] w
   λe w'=>e=.returned (.tuple #[.iface 256 (.agg #[.string a,.string b]),.bool true])/\Below w.heap.size w w':=by
 go_enter Tryz.func171,Tryz.ntmps171
 go_wp2
 go_ret2
 exact⟨rfl,by go_grown⟩
theorem Ag5 (nm a b:ByteArray) (n wi:Int) (t e:ByteArray) (w:World) :
  Calls Tryz.prog 171 #[.agg #[.string nm,.int .i64 2,.string a,.string b,.int .i64 n,.int .i64 wi,.string t,.string e]] w
   λe w'=>e=.returned (.tuple #[.iface 258 (.agg #[.string a,.string b]),.bool true])/\Below w.heap.size w w':=by
 go_enter Tryz.func171,Tryz.ntmps171
 go_wp2
 go_ret2
 exact⟨rfl,by go_grown⟩
theorem Ag6 (nm a b:ByteArray) (n wi:Int) (t e:ByteArray) (w:World) :
  Calls Tryz.prog 171 #[.agg #[.string nm,.int .i64 3,.string a,.string b,.int .i64 n,.int .i64 wi,.string t,.string e]] w
   λe w'=>e=.returned (.tuple #[.iface 260 (.agg #[.string a,.int .i64 wi]),.bool true])/\Below w.heap.size w w':=by
 go_enter Tryz.func171,Tryz.ntmps171
 go_wp2
 go_ret2
 exact⟨rfl,by go_grown⟩
theorem Aft (nm a b:ByteArray) (n wi:Int) (t e:ByteArray) (w:World) :
  Calls Tryz.prog 171 #[.agg #[.string nm,.int .i64 4,.string a,.string b,.int .i64 n,.int .i64 wi,.string t,.string e]] w
   λe w'=>e=.returned (.tuple #[.iface 262 (.agg #[.string a]),.bool true])/\Below w.heap.size w w':=by
 go_enter Tryz.func171,Tryz.ntmps171
 go_wp2
 go_ret2
 exact⟨rfl,by go_grown⟩
theorem Ag7 (nm a b:ByteArray) (n wi:Int) (t e:ByteArray) (w:World) :
  Calls Tryz.prog 171 #[.agg #[.string nm,.int .i64 5,.string a,.string b,.int .i64 n,.int .i64 wi,.string t,.string e]] w
   λe w'=>e=.returned (.tuple #[.iface 263 (.agg #[.string a]),.bool true])/\Below w.heap.size w w':=by
 go_enter Tryz.func171,Tryz.ntmps171
 go_wp2
 go_ret2
 exact⟨rfl,by go_grown⟩
theorem Amz (nm:ByteArray) (k:Int) (a b:ByteArray) (n wi:Int) (t e:ByteArray) (w:World) (h1:(k==1)=false) (h2:(k==2)=false) (h3:(k==3)=false) (h4:(k==4)=false) (h5:(k==5)=false) :
  Calls Tryz.prog 171 #[.agg #[.string nm,.int .i64 k,.string a,.string b,.int .i64 n,.int .i64 wi,.string t,.string e]] w
   λe w'=>e=.returned (.tuple #[.nilIface,.bool false])/\Below w.heap.size w w':=by
 go_enter Tryz.func171,Tryz.ntmps171
 go_wp2
 go_ret2
 exact⟨rfl,by go_grown⟩
theorem AhA (s t:ByteArray) (b:ByteArray) (w:World) (ht:t.size<=maxLen) :
  Calls Tryz.prog 226 #[.iface 256 (.agg #[.string s,.string t]),.string b] w λe w'=>e=.returned (.bool (nameB t))/\Below w.heap.size w w':=by
 have ta:∀w,(Instr.typeAssert (.iface 256 (.agg #[.string s,.string t])) 232 319 true).run Tryz.prog w=.ok (.tuple #[.iface 256 (.agg #[.string s,.string t]),.bool true]) w:=λ_=>by kernel_rfl
 go_enter Tryz.func226,Tryz.ntmps226
 go_wp2_with (go_at_call 279;refine (Amx _ _ _ (by assumption)).mono ?_;rintro e w' ⟨rfl,hb⟩)
 go_ret
 exact⟨rfl,hb⟩
theorem AhB (s t:ByteArray) (b:ByteArray) (w:World) (ht:t.size<=maxLen) :
  Calls Tryz.prog 226 #[.iface 258 (.agg #[.string s,.string t]),.string b] w λe w'=>e=.returned (.bool (nameB t && !(s.toList==t.toList)))/\Below w.heap.size w w':=by
 have ta:∀w,(Instr.typeAssert (.iface 258 (.agg #[.string s,.string t])) 232 319 true).run Tryz.prog w=.ok (.tuple #[.iface 258 (.agg #[.string s,.string t]),.bool true]) w:=λ_=>by kernel_rfl
 go_enter Tryz.func226,Tryz.ntmps226
 go_wp2_with (go_at_call 282;refine (Amy _ _ _ (by assumption)).mono ?_;rintro e w' ⟨rfl,hb⟩)
 go_ret
 exact⟨rfl,hb⟩
theorem AhC (s:ByteArray) (m:Int) (b:ByteArray) (w:World) :
  Calls Tryz.prog 226 #[.iface 260 (.agg #[.string s,.int .i64 m]),.string b] w λe w'=>e=.returned (.bool (b.toList.isEmpty))/\Below w.heap.size w w':=by
 have ta:∀w,(Instr.typeAssert (.iface 260 (.agg #[.string s,.int .i64 m])) 232 319 true).run Tryz.prog w=.ok (.tuple #[.nilIface,.bool false]) w:=λw=>run_typeAssert_lacksB Tryz.underlying319 (by kernel_rfl) (by kernel_rfl) _ _ w;go_enter Tryz.func226,Tryz.ntmps226
 go_wp2
 go_ret
 exact⟨rfl,A4 _ _⟩
theorem Ag8 (s:ByteArray) (b:ByteArray) (w:World) :
  Calls Tryz.prog 226 #[.iface 262 (.agg #[.string s]),.string b] w λe w'=>e=.returned (.bool (b.toList.isEmpty))/\Below w.heap.size w w':=by
 have ta:∀w,(Instr.typeAssert (.iface 262 (.agg #[.string s])) 232 319 true).run Tryz.prog w=.ok (.tuple #[.nilIface,.bool false]) w:=λw=>run_typeAssert_lacksB Tryz.underlying319 (by kernel_rfl) (by kernel_rfl) _ _ w;go_enter Tryz.func226,Tryz.ntmps226
 go_wp2
 go_ret
 exact⟨rfl,A4 _ _⟩
theorem AhD (s:ByteArray) (b:ByteArray) (w:World) :
  Calls Tryz.prog 226 #[.iface 263 (.agg #[.string s]),.string b] w λe w'=>e=.returned (.bool (b.toList.isEmpty))/\Below w.heap.size w w':=by
 have ta:∀w,(Instr.typeAssert (.iface 263 (.agg #[.string s])) 232 319 true).run Tryz.prog w=.ok (.tuple #[.nilIface,.bool false]) w:=λw=>run_typeAssert_lacksB Tryz.underlying319 (by kernel_rfl) (by kernel_rfl) _ _ w;go_enter Tryz.func226,Tryz.ntmps226
 go_wp2
 go_ret
 exact⟨rfl,A4 _ _⟩
theorem AfI (s t:ByteArray) (n:Int) (w:World) :
  Calls Tryz.prog 227 #[.iface 256 (.agg #[.string s,.string t]),.int .i64 n] w λe w'=>e=.returned (.bool (inB n 1 1000))/\Below w.heap.size w w':=by
 have ta:∀w,(Instr.typeAssert (.iface 256 (.agg #[.string s,.string t])) 232 322 true).run Tryz.prog w=.ok (.tuple #[.iface 256 (.agg #[.string s,.string t]),.bool true]) w:=λ_=>by kernel_rfl
 by_cases h1:1<=n
 ·go_enter Tryz.func227,Tryz.ntmps227
  go_wp2_with (go_at_call 278;refine (Ag1 _ _ _).mono ?_;rintro e w' ⟨rfl,hb⟩)
  go_ret
  exact⟨D7 (by simp[inB,h1]),hb⟩
 ·go_enter Tryz.func227,Tryz.ntmps227
  go_wp2_with (go_at_call 278;refine (Ag1 _ _ _).mono ?_;rintro e w' ⟨rfl,hb⟩)
  go_ret
  exact⟨D7 (by simp[inB];omega),A4 _ _⟩
theorem AfJ (s t:ByteArray) (n:Int) (w:World) :
  Calls Tryz.prog 227 #[.iface 258 (.agg #[.string s,.string t]),.int .i64 n] w λe w'=>e=.returned (.bool (inB n 1 1000))/\Below w.heap.size w w':=by
 have ta:∀w,(Instr.typeAssert (.iface 258 (.agg #[.string s,.string t])) 232 322 true).run Tryz.prog w=.ok (.tuple #[.iface 258 (.agg #[.string s,.string t]),.bool true]) w:=λ_=>by kernel_rfl
 by_cases h1:1<=n
 ·go_enter Tryz.func227,Tryz.ntmps227
  go_wp2_with (go_at_call 281;refine (Ag2 _ _ _).mono ?_;rintro e w' ⟨rfl,hb⟩)
  go_ret
  exact⟨D7 (by simp[inB,h1]),hb⟩
 ·go_enter Tryz.func227,Tryz.ntmps227
  go_wp2_with (go_at_call 281;refine (Ag2 _ _ _).mono ?_;rintro e w' ⟨rfl,hb⟩)
  go_ret
  exact⟨D7 (by simp[inB];omega),A4 _ _⟩
theorem AfK (s:ByteArray) (m:Int) (n:Int) (w:World) :
  Calls Tryz.prog 227 #[.iface 260 (.agg #[.string s,.int .i64 m]),.int .i64 n] w λe w'=>e=.returned (.bool (inB n 1 m))/\Below w.heap.size w w':=by
 have ta:∀w,(Instr.typeAssert (.iface 260 (.agg #[.string s,.int .i64 m])) 232 322 true).run Tryz.prog w=.ok (.tuple #[.iface 260 (.agg #[.string s,.int .i64 m]),.bool true]) w:=λ_=>by kernel_rfl
 by_cases h1:1<=n
 ·go_enter Tryz.func227,Tryz.ntmps227
  go_wp2_with (go_at_call 284;refine (Ag3 _ _ _).mono ?_;rintro e w' ⟨rfl,hb⟩)
  go_ret
  exact⟨D7 (by simp[inB,h1]),hb⟩
 ·go_enter Tryz.func227,Tryz.ntmps227
  go_wp2_with (go_at_call 284;refine (Ag3 _ _ _).mono ?_;rintro e w' ⟨rfl,hb⟩)
  go_ret
  exact⟨D7 (by simp[inB];omega),A4 _ _⟩
theorem AeX (s:ByteArray) (n:Int) (w:World) :
  Calls Tryz.prog 227 #[.iface 262 (.agg #[.string s]),.int .i64 n] w λe w'=>e=.returned (.bool (n==0))/\Below w.heap.size w w':=by
 have ta:∀w,(Instr.typeAssert (.iface 262 (.agg #[.string s])) 232 322 true).run Tryz.prog w=.ok (.tuple #[.nilIface,.bool false]) w:=λw=>run_typeAssert_lacksB Tryz.underlying322 (by kernel_rfl) (by kernel_rfl) _ _ w;go_enter Tryz.func227,Tryz.ntmps227
 go_wp2
 go_ret
 exact⟨rfl,A4 _ _⟩
theorem AfL (s:ByteArray) (n:Int) (w:World) :
  Calls Tryz.prog 227 #[.iface 263 (.agg #[.string s]),.int .i64 n] w λe w'=>e=.returned (.bool (n==0))/\Below w.heap.size w w':=by
 have ta:∀w,(Instr.typeAssert (.iface 263 (.agg #[.string s])) 232 322 true).run Tryz.prog w=.ok (.tuple #[.nilIface,.bool false]) w:=λw=>run_typeAssert_lacksB Tryz.underlying322 (by kernel_rfl) (by kernel_rfl) _ _ w;go_enter Tryz.func227,Tryz.ntmps227
 go_wp2
 go_ret
 exact⟨rfl,A4 _ _⟩
theorem Adc (w:World) (ss:List ByteArray) (t:TypeId):StrsAt (w.alloc (.cells (ss.map Value.string).toArray t)) w.heap.size 0 ss:=λi s hs=>by
 have:((ss.map Value.string).toArray)[i]?=some (.string s):=by simp[hs]
 simp[go_sem,World.cell?_alloc_at,this]
end Go.Proofs.YtebfdccbmmpceaaGreatDoor
