/- The walks of a phase, the program's side: its work behind an interface. -/
import Derived.Test.YtaffjphkobhagaaGreatDoorJ6
import Derived.Stop.Asserts
namespace Go.Proofs.YtaffjphkobhagaaGreatDoor
open Proofs.Tryz
open Go.RowKit
theorem Rz(s t:BA)(w:World):
  cU prog 251 #[.agg #[Tz s,Tz t]] w (Iz 1000):=by
 delta cU;go_in;go_wp2;go_ret;exact⟨rfl,by go_grown⟩
theorem RA(s t:BA)(w:World):
  cU prog 254 #[.agg #[Tz s,Tz t]] w (Iz 1000):=by
 delta cU;go_in;go_wp2;go_ret;exact⟨rfl,by go_grown⟩
theorem RB(s:BA)(n:Int)(w:World):
  cU prog 257 #[.agg #[Tz s,Iz n]] w (Iz n):=by
 delta cU;go_in;go_wp2;go_ret;exact⟨rfl,by go_grown⟩
theorem Abt(s t:BA)(w:World)(ht:t.size<=maxLen):
  cU prog 252 #[.agg #[Tz s,Tz t]] w (.bool (E4 t)):=by
 delta cU;go_in;go_wp2_with (go_at_call 215;refine (O3 _ _ sO).mono ?_;rintro e w' ⟨rfl,hb⟩)
 go_ret;exact⟨rfl,D3 ((A4 _ _).alloc (A3 _) _) hb⟩
theorem Abu(s t:BA)(w:World)(ht:t.size<=maxLen):
  cU prog 255 #[.agg #[Tz s,Tz t]] w (.bool (E4 t && !(s.toList==t.toList))):=by
 have a0:(t.toList==s.toList)=(s.toList==t.toList):=Bool.beq_comm;have Hs:Hid ((t.toList==s.toList)=(s.toList==t.toList)):=a0;clear a0;cases hn:E4 t
 all_goals
  delta cU;go_in;go_wp2_with (go_at_call 215;refine (O3 _ _ sO).mono ?_;rintro e w' ⟨rfl,hb⟩;obtain⟨hc,hf⟩:=E2 hb)
  go_ret;exact⟨D4 (by simp[Hs.out]),D3 ((A4 _ _).alloc (A3 _) _) hb⟩
theorem RC(nm a b:BA)(n wi:Int)(t e:BA)(w:World):
  Calls prog 190 #[.agg #[Tz nm,Iz 1,Tz a,Tz b,Iz n,Iz wi,Tz t,Tz e]] w
   λe w'=>e=.returned (.tuple #[.iface 273 (.agg #[Tz a,Tz b]),.bool true])/\Up w w':=by
 go_in;go_wp2;go_ret2
 exact⟨rfl,by go_grown⟩
theorem RD(nm a b:BA)(n wi:Int)(t e:BA)(w:World):
  Calls prog 190 #[.agg #[Tz nm,Iz 2,Tz a,Tz b,Iz n,Iz wi,Tz t,Tz e]] w
   λe w'=>e=.returned (.tuple #[.iface 275 (.agg #[Tz a,Tz b]),.bool true])/\Up w w':=by
 go_in;go_wp2;go_ret2
 exact⟨rfl,by go_grown⟩
theorem RE(nm a b:BA)(n wi:Int)(t e:BA)(w:World):
  Calls prog 190 #[.agg #[Tz nm,Iz 3,Tz a,Tz b,Iz n,Iz wi,Tz t,Tz e]] w
   λe w'=>e=.returned (.tuple #[.iface 277 (.agg #[Tz a,Iz wi]),.bool true])/\Up w w':=by
 go_in;go_wp2;go_ret2
 exact⟨rfl,by go_grown⟩
theorem Pd(nm a b:BA)(n wi:Int)(t e:BA)(w:World):
  Calls prog 190 #[.agg #[Tz nm,Iz 4,Tz a,Tz b,Iz n,Iz wi,Tz t,Tz e]] w
   λe w'=>e=.returned (.tuple #[.iface 279 (.agg #[Tz a]),.bool true])/\Up w w':=by
 go_in;go_wp2;go_ret2
 exact⟨rfl,by go_grown⟩
theorem RF(nm a b:BA)(n wi:Int)(t e:BA)(w:World):
  Calls prog 190 #[.agg #[Tz nm,Iz 5,Tz a,Tz b,Iz n,Iz wi,Tz t,Tz e]] w
   λe w'=>e=.returned (.tuple #[.iface 280 (.agg #[Tz a]),.bool true])/\Up w w':=by
 go_in;go_wp2;go_ret2
 exact⟨rfl,by go_grown⟩
theorem Abv(nm:BA)(k:Int)(a b:BA)(n wi:Int)(t e:BA)(w:World)(h1:(k==1)=false)(h2:(k==2)=false)(h3:(k==3)=false)(h4:(k==4)=false)(h5:(k==5)=false):
  Calls prog 190 #[.agg #[Tz nm,Iz k,Tz a,Tz b,Iz n,Iz wi,Tz t,Tz e]] w
   λe w'=>e=.returned (.tuple #[.nilIface,.bool false])/\Up w w':=by
 go_in;go_wp2;go_ret2
 exact⟨rfl,by go_grown⟩
theorem Ua(s t:BA)(b:BA)(w:World)(ht:t.size<=maxLen):
  cU prog 226 #[.iface 273 (.agg #[Tz s,Tz t]),Tz b] w (.bool (E4 t)):=by
 have ta:∀w,(Instr.typeAssert (.iface 273 (.agg #[Tz s,Tz t])) 237 295 true).run prog w=.ok (.tuple #[.iface 273 (.agg #[Tz s,Tz t]),.bool true]) w:=λ_=>by kernel_rfl
 delta cU;go_in;go_wp2_with (go_at_call 252;refine (Abt _ _ _ sO).mono ?_;rintro e w' ⟨rfl,hb⟩)
 go_ret;exact⟨rfl,hb⟩
theorem Ub(s t:BA)(b:BA)(w:World)(ht:t.size<=maxLen):
  cU prog 226 #[.iface 275 (.agg #[Tz s,Tz t]),Tz b] w (.bool (E4 t && !(s.toList==t.toList))):=by
 have ta:∀w,(Instr.typeAssert (.iface 275 (.agg #[Tz s,Tz t])) 237 295 true).run prog w=.ok (.tuple #[.iface 275 (.agg #[Tz s,Tz t]),.bool true]) w:=λ_=>by kernel_rfl
 delta cU;go_in;go_wp2_with (go_at_call 255;refine (Abu _ _ _ sO).mono ?_;rintro e w' ⟨rfl,hb⟩)
 go_ret;exact⟨rfl,hb⟩
theorem Uc(s:BA)(m:Int)(b:BA)(w:World):
  cU prog 226 #[.iface 277 (.agg #[Tz s,Iz m]),Tz b] w (.bool (b.toList.isEmpty)):=by
 have ta:∀w,(Instr.typeAssert (.iface 277 (.agg #[Tz s,Iz m])) 237 295 true).run prog w=.ok (.tuple #[.nilIface,.bool false]) w:=λw=>run_typeAssert_lacksB underlying295 sI sI _ _ w;delta cU;go_in;go_wp2;go_ret;exact⟨rfl,A4 _ _⟩
theorem RG(s:BA)(b:BA)(w:World):
  cU prog 226 #[.iface 279 (.agg #[Tz s]),Tz b] w (.bool (b.toList.isEmpty)):=by
 have ta:∀w,(Instr.typeAssert (.iface 279 (.agg #[Tz s])) 237 295 true).run prog w=.ok (.tuple #[.nilIface,.bool false]) w:=λw=>run_typeAssert_lacksB underlying295 sI sI _ _ w;delta cU;go_in;go_wp2;go_ret;exact⟨rfl,A4 _ _⟩
theorem Ud(s:BA)(b:BA)(w:World):
  cU prog 226 #[.iface 280 (.agg #[Tz s]),Tz b] w (.bool (b.toList.isEmpty)):=by
 have ta:∀w,(Instr.typeAssert (.iface 280 (.agg #[Tz s])) 237 295 true).run prog w=.ok (.tuple #[.nilIface,.bool false]) w:=λw=>run_typeAssert_lacksB underlying295 sI sI _ _ w;delta cU;go_in;go_wp2;go_ret;exact⟨rfl,A4 _ _⟩
theorem PT(s t:BA)(n:Int)(w:World):
  Calls prog 227 #[.iface 273 (.agg #[.string s,.string t]),.int .i64 n] w λe w'=>e=.returned (.bool (U7 n 1 1000))/\Up w w':=by
 have ta:∀w,(Instr.typeAssert (.iface 273 (.agg #[.string s,.string t])) 237 298 true).run prog w=.ok (.tuple #[.iface 273 (.agg #[.string s,.string t]),.bool true]) w:=λ_=>by kernel_rfl
 by_cases h1:1<=n
 .go_in;go_wp2_with (go_at_call 251;refine (Rz _ _ _).mono ?_;rintro e w' ⟨rfl,hb⟩)
  go_ret;exact⟨D4 (by simp[U7,h1]),hb⟩
 .go_in;go_wp2_with (go_at_call 251;refine (Rz _ _ _).mono ?_;rintro e w' ⟨rfl,hb⟩)
  go_ret;exact⟨D4 (by simp[U7];omega),A4 _ _⟩
theorem PU(s t:BA)(n:Int)(w:World):
  Calls prog 227 #[.iface 275 (.agg #[.string s,.string t]),.int .i64 n] w λe w'=>e=.returned (.bool (U7 n 1 1000))/\Up w w':=by
 have ta:∀w,(Instr.typeAssert (.iface 275 (.agg #[.string s,.string t])) 237 298 true).run prog w=.ok (.tuple #[.iface 275 (.agg #[.string s,.string t]),.bool true]) w:=λ_=>by kernel_rfl
 by_cases h1:1<=n
 .go_in;go_wp2_with (go_at_call 254;refine (RA _ _ _).mono ?_;rintro e w' ⟨rfl,hb⟩)
  go_ret;exact⟨D4 (by simp[U7,h1]),hb⟩
 .go_in;go_wp2_with (go_at_call 254;refine (RA _ _ _).mono ?_;rintro e w' ⟨rfl,hb⟩)
  go_ret;exact⟨D4 (by simp[U7];omega),A4 _ _⟩
theorem PV(s:BA)(m:Int)(n:Int)(w:World):
  Calls prog 227 #[.iface 277 (.agg #[.string s,.int .i64 m]),.int .i64 n] w λe w'=>e=.returned (.bool (U7 n 1 m))/\Up w w':=by
 have ta:∀w,(Instr.typeAssert (.iface 277 (.agg #[.string s,.int .i64 m])) 237 298 true).run prog w=.ok (.tuple #[.iface 277 (.agg #[.string s,.int .i64 m]),.bool true]) w:=λ_=>by kernel_rfl
 by_cases h1:1<=n
 .go_in;go_wp2_with (go_at_call 257;refine (RB _ _ _).mono ?_;rintro e w' ⟨rfl,hb⟩)
  go_ret;exact⟨D4 (by simp[U7,h1]),hb⟩
 .go_in;go_wp2_with (go_at_call 257;refine (RB _ _ _).mono ?_;rintro e w' ⟨rfl,hb⟩)
  go_ret;exact⟨D4 (by simp[U7];omega),A4 _ _⟩
theorem Oe(s:BA)(n:Int)(w:World):
  cU prog 227 #[.iface 279 (.agg #[Tz s]),Iz n] w (.bool (n==0)):=by
 have ta:∀w,(Instr.typeAssert (.iface 279 (.agg #[Tz s])) 237 298 true).run prog w=.ok (.tuple #[.nilIface,.bool false]) w:=λw=>run_typeAssert_lacksB underlying298 sI sI _ _ w;delta cU;go_in;go_wp2;go_ret;exact⟨rfl,A4 _ _⟩
theorem PW(s:BA)(n:Int)(w:World):
  cU prog 227 #[.iface 280 (.agg #[Tz s]),Iz n] w (.bool (n==0)):=by
 have ta:∀w,(Instr.typeAssert (.iface 280 (.agg #[Tz s])) 237 298 true).run prog w=.ok (.tuple #[.nilIface,.bool false]) w:=λw=>run_typeAssert_lacksB underlying298 sI sI _ _ w;delta cU;go_in;go_wp2;go_ret;exact⟨rfl,A4 _ _⟩
end Go.Proofs.YtaffjphkobhagaaGreatDoor
