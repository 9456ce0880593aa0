/- The walks of a phase, the program's side: its work behind an interface. -/
import Derived.Test.YtcofjoacehacjaaGreatDoorWb
import Derived.Stop.Asserts
namespace Go.Proofs.YtcofjoacehacjaaGreatDoor
open Go.RowKit

theorem mostFill (s t : ByteArray) (w : World) :
    Calls Tryz.prog 111 #[.agg #[.string s, .string t]] w fun e w' => e = .returned (.int .i64 1000) ∧ Below w.heap.size w w' := by
  go_enter Tryz.func111, Tryz.ntmps111
  go_wp2
  go_ret
  exact ⟨rfl, by go_grown⟩
theorem mostMove (s t : ByteArray) (w : World) :
    Calls Tryz.prog 114 #[.agg #[.string s, .string t]] w fun e w' => e = .returned (.int .i64 1000) ∧ Below w.heap.size w w' := by
  go_enter Tryz.func114, Tryz.ntmps114
  go_wp2
  go_ret
  exact ⟨rfl, by go_grown⟩
theorem mostHold (s : ByteArray) (n : Int) (w : World) :
    Calls Tryz.prog 117 #[.agg #[.string s, .int .i64 n]] w fun e w' => e = .returned (.int .i64 n) ∧ Below w.heap.size w w' := by
  go_enter Tryz.func117, Tryz.ntmps117
  go_wp2
  go_ret
  exact ⟨rfl, by go_grown⟩
theorem pairFill (s t : ByteArray) (w : World) (ht : t.size ≤ maxLen) :
    Calls Tryz.prog 112 #[.agg #[.string s, .string t]] w fun e w' => e = .returned (.bool (nameB t)) ∧ Below w.heap.size w w' := by
  go_enter Tryz.func112, Tryz.ntmps112
  go_wp2_with (go_at_call 65; refine (recName_any _ _ (by assumption)).mono ?_; rintro e w' ⟨rfl, hb⟩)
  go_ret
  exact ⟨rfl, up_trans ((Below.refl _ _).alloc (Nat.le_refl _) _) hb⟩
theorem pairMove (s t : ByteArray) (w : World) (ht : t.size ≤ maxLen) :
    Calls Tryz.prog 115 #[.agg #[.string s, .string t]] w fun e w' => e = .returned (.bool (nameB t && !(s.toList == t.toList))) ∧ Below w.heap.size w w' := by
  have hsym : (t.toList == s.toList) = (s.toList == t.toList) := Bool.beq_comm
  have Hs : Hid ((t.toList == s.toList) = (s.toList == t.toList)) := hsym
  clear hsym
  cases hn : nameB t
  all_goals
    go_enter Tryz.func115, Tryz.ntmps115
    go_wp2_with (go_at_call 65; refine (recName_any _ _ (by assumption)).mono ?_; rintro e w' ⟨rfl, hb⟩; obtain ⟨hc, hf⟩ := bcell hb)
    go_ret
    exact ⟨ret_bool (by simp [Hs.out]), up_trans ((Below.refl _ _).alloc (Nat.le_refl _) _) hb⟩

theorem workFill (nm a b : ByteArray) (n wi : Int) (t e : ByteArray) (w : World) :
    Calls Tryz.prog 70 #[.agg #[.string nm, .int .i64 1, .string a, .string b, .int .i64 n, .int .i64 wi, .string t, .string e]] w
      fun e w' => e = .returned (.tuple #[.iface 117 (.agg #[.string a, .string b]), .bool true]) ∧ Below w.heap.size w w' := by
  go_enter Tryz.func70, Tryz.ntmps70
  go_wp2
  go_ret2
  exact ⟨rfl, by go_grown⟩
theorem workMove (nm a b : ByteArray) (n wi : Int) (t e : ByteArray) (w : World) :
    Calls Tryz.prog 70 #[.agg #[.string nm, .int .i64 2, .string a, .string b, .int .i64 n, .int .i64 wi, .string t, .string e]] w
      fun e w' => e = .returned (.tuple #[.iface 119 (.agg #[.string a, .string b]), .bool true]) ∧ Below w.heap.size w w' := by
  go_enter Tryz.func70, Tryz.ntmps70
  go_wp2
  go_ret2
  exact ⟨rfl, by go_grown⟩
theorem workHold (nm a b : ByteArray) (n wi : Int) (t e : ByteArray) (w : World) :
    Calls Tryz.prog 70 #[.agg #[.string nm, .int .i64 3, .string a, .string b, .int .i64 n, .int .i64 wi, .string t, .string e]] w
      fun e w' => e = .returned (.tuple #[.iface 121 (.agg #[.string a, .int .i64 wi]), .bool true]) ∧ Below w.heap.size w w' := by
  go_enter Tryz.func70, Tryz.ntmps70
  go_wp2
  go_ret2
  exact ⟨rfl, by go_grown⟩
theorem workClean (nm a b : ByteArray) (n wi : Int) (t e : ByteArray) (w : World) :
    Calls Tryz.prog 70 #[.agg #[.string nm, .int .i64 4, .string a, .string b, .int .i64 n, .int .i64 wi, .string t, .string e]] w
      fun e w' => e = .returned (.tuple #[.iface 123 (.agg #[.string a]), .bool true]) ∧ Below w.heap.size w w' := by
  go_enter Tryz.func70, Tryz.ntmps70
  go_wp2
  go_ret2
  exact ⟨rfl, by go_grown⟩
theorem workTest (nm a b : ByteArray) (n wi : Int) (t e : ByteArray) (w : World) :
    Calls Tryz.prog 70 #[.agg #[.string nm, .int .i64 5, .string a, .string b, .int .i64 n, .int .i64 wi, .string t, .string e]] w
      fun e w' => e = .returned (.tuple #[.iface 124 (.agg #[.string a]), .bool true]) ∧ Below w.heap.size w w' := by
  go_enter Tryz.func70, Tryz.ntmps70
  go_wp2
  go_ret2
  exact ⟨rfl, by go_grown⟩
theorem workNone (nm : ByteArray) (k : Int) (a b : ByteArray) (n wi : Int) (t e : ByteArray) (w : World) (h1 : (k == 1) = false) (h2 : (k == 2) = false) (h3 : (k == 3) = false) (h4 : (k == 4) = false) (h5 : (k == 5) = false) :
    Calls Tryz.prog 70 #[.agg #[.string nm, .int .i64 k, .string a, .string b, .int .i64 n, .int .i64 wi, .string t, .string e]] w
      fun e w' => e = .returned (.tuple #[.nilIface, .bool false]) ∧ Below w.heap.size w w' := by
  go_enter Tryz.func70, Tryz.ntmps70
  go_wp2
  go_ret2
  exact ⟨rfl, by go_grown⟩

theorem pairOk_fill (s t : ByteArray) (b : ByteArray) (w : World) (ht : t.size ≤ maxLen) :
    Calls Tryz.prog 76 #[.iface 117 (.agg #[.string s, .string t]), .string b] w fun e w' => e = .returned (.bool (nameB t)) ∧ Below w.heap.size w w' := by
  have ta : ∀ w, (Instr.typeAssert (.iface 117 (.agg #[.string s, .string t])) 105 139 true).run Tryz.prog w = .ok (.tuple #[.iface 117 (.agg #[.string s, .string t]), .bool true]) w := fun _ => by kernel_rfl
  go_enter Tryz.func76, Tryz.ntmps76
  go_wp2_with (go_at_call 112; refine (pairFill _ _ _ (by assumption)).mono ?_; rintro e w' ⟨rfl, hb⟩)
  go_ret
  exact ⟨rfl, hb⟩
theorem pairOk_move (s t : ByteArray) (b : ByteArray) (w : World) (ht : t.size ≤ maxLen) :
    Calls Tryz.prog 76 #[.iface 119 (.agg #[.string s, .string t]), .string b] w fun e w' => e = .returned (.bool (nameB t && !(s.toList == t.toList))) ∧ Below w.heap.size w w' := by
  have ta : ∀ w, (Instr.typeAssert (.iface 119 (.agg #[.string s, .string t])) 105 139 true).run Tryz.prog w = .ok (.tuple #[.iface 119 (.agg #[.string s, .string t]), .bool true]) w := fun _ => by kernel_rfl
  go_enter Tryz.func76, Tryz.ntmps76
  go_wp2_with (go_at_call 115; refine (pairMove _ _ _ (by assumption)).mono ?_; rintro e w' ⟨rfl, hb⟩)
  go_ret
  exact ⟨rfl, hb⟩
theorem pairOk_hold (s : ByteArray) (m : Int) (b : ByteArray) (w : World) :
    Calls Tryz.prog 76 #[.iface 121 (.agg #[.string s, .int .i64 m]), .string b] w fun e w' => e = .returned (.bool (b.toList.isEmpty)) ∧ Below w.heap.size w w' := by
  have ta : ∀ w, (Instr.typeAssert (.iface 121 (.agg #[.string s, .int .i64 m])) 105 139 true).run Tryz.prog w = .ok (.tuple #[.nilIface, .bool false]) w := fun w => run_typeAssert_lacksB Tryz.underlying139 (by kernel_rfl) (by kernel_rfl) _ _ w
  go_enter Tryz.func76, Tryz.ntmps76
  go_wp2
  go_ret
  exact ⟨rfl, Below.refl _ _⟩
theorem pairOk_clean (s : ByteArray) (b : ByteArray) (w : World) :
    Calls Tryz.prog 76 #[.iface 123 (.agg #[.string s]), .string b] w fun e w' => e = .returned (.bool (b.toList.isEmpty)) ∧ Below w.heap.size w w' := by
  have ta : ∀ w, (Instr.typeAssert (.iface 123 (.agg #[.string s])) 105 139 true).run Tryz.prog w = .ok (.tuple #[.nilIface, .bool false]) w := fun w => run_typeAssert_lacksB Tryz.underlying139 (by kernel_rfl) (by kernel_rfl) _ _ w
  go_enter Tryz.func76, Tryz.ntmps76
  go_wp2
  go_ret
  exact ⟨rfl, Below.refl _ _⟩
theorem pairOk_test (s : ByteArray) (b : ByteArray) (w : World) :
    Calls Tryz.prog 76 #[.iface 124 (.agg #[.string s]), .string b] w fun e w' => e = .returned (.bool (b.toList.isEmpty)) ∧ Below w.heap.size w w' := by
  have ta : ∀ w, (Instr.typeAssert (.iface 124 (.agg #[.string s])) 105 139 true).run Tryz.prog w = .ok (.tuple #[.nilIface, .bool false]) w := fun w => run_typeAssert_lacksB Tryz.underlying139 (by kernel_rfl) (by kernel_rfl) _ _ w
  go_enter Tryz.func76, Tryz.ntmps76
  go_wp2
  go_ret
  exact ⟨rfl, Below.refl _ _⟩
theorem amountOk_fill (s t : ByteArray) (n : Int) (w : World) :
    Calls Tryz.prog 77 #[.iface 117 (.agg #[.string s, .string t]), .int .i64 n] w fun e w' => e = .returned (.bool (inB n 1 1000)) ∧ Below w.heap.size w w' := by
  have ta : ∀ w, (Instr.typeAssert (.iface 117 (.agg #[.string s, .string t])) 105 143 true).run Tryz.prog w = .ok (.tuple #[.iface 117 (.agg #[.string s, .string t]), .bool true]) w := fun _ => by kernel_rfl
  by_cases h1 : 1 ≤ n
  · go_enter Tryz.func77, Tryz.ntmps77
    go_wp2_with (go_at_call 111; refine (mostFill _ _ _).mono ?_; rintro e w' ⟨rfl, hb⟩)
    go_ret
    exact ⟨ret_bool (by simp [inB, h1]), hb⟩
  · go_enter Tryz.func77, Tryz.ntmps77
    go_wp2_with (go_at_call 111; refine (mostFill _ _ _).mono ?_; rintro e w' ⟨rfl, hb⟩)
    go_ret
    exact ⟨ret_bool (by simp [inB]; omega), Below.refl _ _⟩
theorem amountOk_move (s t : ByteArray) (n : Int) (w : World) :
    Calls Tryz.prog 77 #[.iface 119 (.agg #[.string s, .string t]), .int .i64 n] w fun e w' => e = .returned (.bool (inB n 1 1000)) ∧ Below w.heap.size w w' := by
  have ta : ∀ w, (Instr.typeAssert (.iface 119 (.agg #[.string s, .string t])) 105 143 true).run Tryz.prog w = .ok (.tuple #[.iface 119 (.agg #[.string s, .string t]), .bool true]) w := fun _ => by kernel_rfl
  by_cases h1 : 1 ≤ n
  · go_enter Tryz.func77, Tryz.ntmps77
    go_wp2_with (go_at_call 114; refine (mostMove _ _ _).mono ?_; rintro e w' ⟨rfl, hb⟩)
    go_ret
    exact ⟨ret_bool (by simp [inB, h1]), hb⟩
  · go_enter Tryz.func77, Tryz.ntmps77
    go_wp2_with (go_at_call 114; refine (mostMove _ _ _).mono ?_; rintro e w' ⟨rfl, hb⟩)
    go_ret
    exact ⟨ret_bool (by simp [inB]; omega), Below.refl _ _⟩
theorem amountOk_hold (s : ByteArray) (m : Int) (n : Int) (w : World) :
    Calls Tryz.prog 77 #[.iface 121 (.agg #[.string s, .int .i64 m]), .int .i64 n] w fun e w' => e = .returned (.bool (inB n 1 m)) ∧ Below w.heap.size w w' := by
  have ta : ∀ w, (Instr.typeAssert (.iface 121 (.agg #[.string s, .int .i64 m])) 105 143 true).run Tryz.prog w = .ok (.tuple #[.iface 121 (.agg #[.string s, .int .i64 m]), .bool true]) w := fun _ => by kernel_rfl
  by_cases h1 : 1 ≤ n
  · go_enter Tryz.func77, Tryz.ntmps77
    go_wp2_with (go_at_call 117; refine (mostHold _ _ _).mono ?_; rintro e w' ⟨rfl, hb⟩)
    go_ret
    exact ⟨ret_bool (by simp [inB, h1]), hb⟩
  · go_enter Tryz.func77, Tryz.ntmps77
    go_wp2_with (go_at_call 117; refine (mostHold _ _ _).mono ?_; rintro e w' ⟨rfl, hb⟩)
    go_ret
    exact ⟨ret_bool (by simp [inB]; omega), Below.refl _ _⟩
theorem amountOk_clean (s : ByteArray) (n : Int) (w : World) :
    Calls Tryz.prog 77 #[.iface 123 (.agg #[.string s]), .int .i64 n] w fun e w' => e = .returned (.bool (n == 0)) ∧ Below w.heap.size w w' := by
  have ta : ∀ w, (Instr.typeAssert (.iface 123 (.agg #[.string s])) 105 143 true).run Tryz.prog w = .ok (.tuple #[.nilIface, .bool false]) w := fun w => run_typeAssert_lacksB Tryz.underlying143 (by kernel_rfl) (by kernel_rfl) _ _ w
  go_enter Tryz.func77, Tryz.ntmps77
  go_wp2
  go_ret
  exact ⟨rfl, Below.refl _ _⟩
theorem amountOk_test (s : ByteArray) (n : Int) (w : World) :
    Calls Tryz.prog 77 #[.iface 124 (.agg #[.string s]), .int .i64 n] w fun e w' => e = .returned (.bool (n == 0)) ∧ Below w.heap.size w w' := by
  have ta : ∀ w, (Instr.typeAssert (.iface 124 (.agg #[.string s])) 105 143 true).run Tryz.prog w = .ok (.tuple #[.nilIface, .bool false]) w := fun w => run_typeAssert_lacksB Tryz.underlying143 (by kernel_rfl) (by kernel_rfl) _ _ w
  go_enter Tryz.func77, Tryz.ntmps77
  go_wp2
  go_ret
  exact ⟨rfl, Below.refl _ _⟩
end Go.Proofs.YtcofjoacehacjaaGreatDoor
