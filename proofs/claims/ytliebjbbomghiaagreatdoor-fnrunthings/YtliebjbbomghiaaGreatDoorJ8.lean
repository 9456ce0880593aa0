/- The walks of a phase, the program's side: its work behind an interface. -/
import Derived.Test.YtliebjbbomghiaaGreatDoorWb
import Derived.Stop.Asserts
import Derived.Test.YtliebjbbomghiaaGreatDoorJ0
import Derived.Test.YtliebjbbomghiaaGreatDoorJ3
import Derived.Deep.DeepCutAuto
namespace Go.Proofs.YtliebjbbomghiaaGreatDoor
open Go.RowKit

theorem mostFill (s t : ByteArray) (w : World) :
    Calls Tryz.prog 152 #[.agg #[.string s, .string t]] w fun e w' => e = .returned (.int .i64 1000) ∧ Below w.heap.size w w' := by
  go_enter Tryz.func152, Tryz.ntmps152
  go_wp2
  go_ret
  exact ⟨rfl, by go_grown⟩
theorem mostMove (s t : ByteArray) (w : World) :
    Calls Tryz.prog 155 #[.agg #[.string s, .string t]] w fun e w' => e = .returned (.int .i64 1000) ∧ Below w.heap.size w w' := by
  go_enter Tryz.func155, Tryz.ntmps155
  go_wp2
  go_ret
  exact ⟨rfl, by go_grown⟩
theorem mostHold (s : ByteArray) (n : Int) (w : World) :
    Calls Tryz.prog 158 #[.agg #[.string s, .int .i64 n]] w fun e w' => e = .returned (.int .i64 n) ∧ Below w.heap.size w w' := by
  go_enter Tryz.func158, Tryz.ntmps158
  go_wp2
  go_ret
  exact ⟨rfl, by go_grown⟩
theorem pairFill (s t : ByteArray) (w : World) (ht : t.size ≤ maxLen) :
    Calls Tryz.prog 153 #[.agg #[.string s, .string t]] w fun e w' => e = .returned (.bool (nameB t)) ∧ Below w.heap.size w w' := by
  go_enter Tryz.func153, Tryz.ntmps153
  go_wp2_with (go_at_call 65; refine (recName_any _ _ (by assumption)).mono ?_; rintro e w' ⟨rfl, hb⟩)
  go_ret
  exact ⟨rfl, up_trans ((Below.refl _ _).alloc (Nat.le_refl _) _) hb⟩
theorem pairMove (s t : ByteArray) (w : World) (ht : t.size ≤ maxLen) :
    Calls Tryz.prog 156 #[.agg #[.string s, .string t]] w fun e w' => e = .returned (.bool (nameB t && !(s.toList == t.toList))) ∧ Below w.heap.size w w' := by
  have hsym : (t.toList == s.toList) = (s.toList == t.toList) := Bool.beq_comm
  have Hs : Hid ((t.toList == s.toList) = (s.toList == t.toList)) := hsym
  clear hsym
  cases hn : nameB t
  all_goals
    go_enter Tryz.func156, Tryz.ntmps156
    go_wp2_with (go_at_call 65; refine (recName_any _ _ (by assumption)).mono ?_; rintro e w' ⟨rfl, hb⟩; obtain ⟨hc, hf⟩ := bcell hb)
    go_ret
    exact ⟨ret_bool (by simp [Hs.out]), up_trans ((Below.refl _ _).alloc (Nat.le_refl _) _) hb⟩

theorem workFill (nm a b : ByteArray) (n wi : Int) (t e : ByteArray) (w : World) :
    Calls Tryz.prog 55 #[.agg #[.string nm, .int .i64 1, .string a, .string b, .int .i64 n, .int .i64 wi, .string t, .string e]] w
      fun e w' => e = .returned (.tuple #[.iface 114 (.agg #[.string a, .string b]), .bool true]) ∧ Below w.heap.size w w' := by
  go_enter Tryz.func55, Tryz.ntmps55
  go_wp2
  go_ret2
  exact ⟨rfl, by go_grown⟩
theorem workMove (nm a b : ByteArray) (n wi : Int) (t e : ByteArray) (w : World) :
    Calls Tryz.prog 55 #[.agg #[.string nm, .int .i64 2, .string a, .string b, .int .i64 n, .int .i64 wi, .string t, .string e]] w
      fun e w' => e = .returned (.tuple #[.iface 116 (.agg #[.string a, .string b]), .bool true]) ∧ Below w.heap.size w w' := by
  go_enter Tryz.func55, Tryz.ntmps55
  go_wp2
  go_ret2
  exact ⟨rfl, by go_grown⟩
theorem workHold (nm a b : ByteArray) (n wi : Int) (t e : ByteArray) (w : World) :
    Calls Tryz.prog 55 #[.agg #[.string nm, .int .i64 3, .string a, .string b, .int .i64 n, .int .i64 wi, .string t, .string e]] w
      fun e w' => e = .returned (.tuple #[.iface 118 (.agg #[.string a, .int .i64 wi]), .bool true]) ∧ Below w.heap.size w w' := by
  go_enter Tryz.func55, Tryz.ntmps55
  go_wp2
  go_ret2
  exact ⟨rfl, by go_grown⟩
theorem workClean (nm a b : ByteArray) (n wi : Int) (t e : ByteArray) (w : World) :
    Calls Tryz.prog 55 #[.agg #[.string nm, .int .i64 4, .string a, .string b, .int .i64 n, .int .i64 wi, .string t, .string e]] w
      fun e w' => e = .returned (.tuple #[.iface 120 (.agg #[.string a]), .bool true]) ∧ Below w.heap.size w w' := by
  go_enter Tryz.func55, Tryz.ntmps55
  go_wp2
  go_ret2
  exact ⟨rfl, by go_grown⟩
theorem workTest (nm a b : ByteArray) (n wi : Int) (t e : ByteArray) (w : World) :
    Calls Tryz.prog 55 #[.agg #[.string nm, .int .i64 5, .string a, .string b, .int .i64 n, .int .i64 wi, .string t, .string e]] w
      fun e w' => e = .returned (.tuple #[.iface 121 (.agg #[.string a]), .bool true]) ∧ Below w.heap.size w w' := by
  go_enter Tryz.func55, Tryz.ntmps55
  go_wp2
  go_ret2
  exact ⟨rfl, by go_grown⟩
theorem workNone (nm : ByteArray) (k : Int) (a b : ByteArray) (n wi : Int) (t e : ByteArray) (w : World) (h1 : (k == 1) = false) (h2 : (k == 2) = false) (h3 : (k == 3) = false) (h4 : (k == 4) = false) (h5 : (k == 5) = false) :
    Calls Tryz.prog 55 #[.agg #[.string nm, .int .i64 k, .string a, .string b, .int .i64 n, .int .i64 wi, .string t, .string e]] w
      fun e w' => e = .returned (.tuple #[.nilIface, .bool false]) ∧ Below w.heap.size w w' := by
  go_enter Tryz.func55, Tryz.ntmps55
  go_wp2
  go_ret2
  exact ⟨rfl, by go_grown⟩

theorem pairOk_fill (s t : ByteArray) (b : ByteArray) (w : World) (ht : t.size ≤ maxLen) :
    Calls Tryz.prog 91 #[.iface 114 (.agg #[.string s, .string t]), .string b] w fun e w' => e = .returned (.bool (nameB t)) ∧ Below w.heap.size w w' := by
  have ta : ∀ w, (Instr.typeAssert (.iface 114 (.agg #[.string s, .string t])) 89 163 true).run Tryz.prog w = .ok (.tuple #[.iface 114 (.agg #[.string s, .string t]), .bool true]) w := fun _ => by kernel_rfl
  go_enter Tryz.func91, Tryz.ntmps91
  go_wp2_with (go_at_call 153; refine (pairFill _ _ _ (by assumption)).mono ?_; rintro e w' ⟨rfl, hb⟩)
  go_ret
  exact ⟨rfl, hb⟩
theorem pairOk_move (s t : ByteArray) (b : ByteArray) (w : World) (ht : t.size ≤ maxLen) :
    Calls Tryz.prog 91 #[.iface 116 (.agg #[.string s, .string t]), .string b] w fun e w' => e = .returned (.bool (nameB t && !(s.toList == t.toList))) ∧ Below w.heap.size w w' := by
  have ta : ∀ w, (Instr.typeAssert (.iface 116 (.agg #[.string s, .string t])) 89 163 true).run Tryz.prog w = .ok (.tuple #[.iface 116 (.agg #[.string s, .string t]), .bool true]) w := fun _ => by kernel_rfl
  go_enter Tryz.func91, Tryz.ntmps91
  go_wp2_with (go_at_call 156; refine (pairMove _ _ _ (by assumption)).mono ?_; rintro e w' ⟨rfl, hb⟩)
  go_ret
  exact ⟨rfl, hb⟩
theorem pairOk_hold (s : ByteArray) (m : Int) (b : ByteArray) (w : World) :
    Calls Tryz.prog 91 #[.iface 118 (.agg #[.string s, .int .i64 m]), .string b] w fun e w' => e = .returned (.bool (b.toList.isEmpty)) ∧ Below w.heap.size w w' := by
  have ta : ∀ w, (Instr.typeAssert (.iface 118 (.agg #[.string s, .int .i64 m])) 89 163 true).run Tryz.prog w = .ok (.tuple #[.nilIface, .bool false]) w := fun w => run_typeAssert_lacksB Tryz.underlying163 (by kernel_rfl) (by kernel_rfl) _ _ w
  go_enter Tryz.func91, Tryz.ntmps91
  go_wp2
  go_ret
  exact ⟨rfl, Below.refl _ _⟩
theorem pairOk_clean (s : ByteArray) (b : ByteArray) (w : World) :
    Calls Tryz.prog 91 #[.iface 120 (.agg #[.string s]), .string b] w fun e w' => e = .returned (.bool (b.toList.isEmpty)) ∧ Below w.heap.size w w' := by
  have ta : ∀ w, (Instr.typeAssert (.iface 120 (.agg #[.string s])) 89 163 true).run Tryz.prog w = .ok (.tuple #[.nilIface, .bool false]) w := fun w => run_typeAssert_lacksB Tryz.underlying163 (by kernel_rfl) (by kernel_rfl) _ _ w
  go_enter Tryz.func91, Tryz.ntmps91
  go_wp2
  go_ret
  exact ⟨rfl, Below.refl _ _⟩
theorem pairOk_test (s : ByteArray) (b : ByteArray) (w : World) :
    Calls Tryz.prog 91 #[.iface 121 (.agg #[.string s]), .string b] w fun e w' => e = .returned (.bool (b.toList.isEmpty)) ∧ Below w.heap.size w w' := by
  have ta : ∀ w, (Instr.typeAssert (.iface 121 (.agg #[.string s])) 89 163 true).run Tryz.prog w = .ok (.tuple #[.nilIface, .bool false]) w := fun w => run_typeAssert_lacksB Tryz.underlying163 (by kernel_rfl) (by kernel_rfl) _ _ w
  go_enter Tryz.func91, Tryz.ntmps91
  go_wp2
  go_ret
  exact ⟨rfl, Below.refl _ _⟩
theorem amountOk_fill (s t : ByteArray) (n : Int) (w : World) :
    Calls Tryz.prog 92 #[.iface 114 (.agg #[.string s, .string t]), .int .i64 n] w fun e w' => e = .returned (.bool (inB n 1 1000)) ∧ Below w.heap.size w w' := by
  have ta : ∀ w, (Instr.typeAssert (.iface 114 (.agg #[.string s, .string t])) 89 167 true).run Tryz.prog w = .ok (.tuple #[.iface 114 (.agg #[.string s, .string t]), .bool true]) w := fun _ => by kernel_rfl
  by_cases h1 : 1 ≤ n
  · go_enter Tryz.func92, Tryz.ntmps92
    go_wp2_with (go_at_call 152; refine (mostFill _ _ _).mono ?_; rintro e w' ⟨rfl, hb⟩)
    go_ret
    exact ⟨ret_bool (by simp [inB, h1]), hb⟩
  · go_enter Tryz.func92, Tryz.ntmps92
    go_wp2_with (go_at_call 152; refine (mostFill _ _ _).mono ?_; rintro e w' ⟨rfl, hb⟩)
    go_ret
    exact ⟨ret_bool (by simp [inB]; omega), Below.refl _ _⟩
theorem amountOk_move (s t : ByteArray) (n : Int) (w : World) :
    Calls Tryz.prog 92 #[.iface 116 (.agg #[.string s, .string t]), .int .i64 n] w fun e w' => e = .returned (.bool (inB n 1 1000)) ∧ Below w.heap.size w w' := by
  have ta : ∀ w, (Instr.typeAssert (.iface 116 (.agg #[.string s, .string t])) 89 167 true).run Tryz.prog w = .ok (.tuple #[.iface 116 (.agg #[.string s, .string t]), .bool true]) w := fun _ => by kernel_rfl
  by_cases h1 : 1 ≤ n
  · go_enter Tryz.func92, Tryz.ntmps92
    go_wp2_with (go_at_call 155; refine (mostMove _ _ _).mono ?_; rintro e w' ⟨rfl, hb⟩)
    go_ret
    exact ⟨ret_bool (by simp [inB, h1]), hb⟩
  · go_enter Tryz.func92, Tryz.ntmps92
    go_wp2_with (go_at_call 155; refine (mostMove _ _ _).mono ?_; rintro e w' ⟨rfl, hb⟩)
    go_ret
    exact ⟨ret_bool (by simp [inB]; omega), Below.refl _ _⟩
theorem amountOk_hold (s : ByteArray) (m : Int) (n : Int) (w : World) :
    Calls Tryz.prog 92 #[.iface 118 (.agg #[.string s, .int .i64 m]), .int .i64 n] w fun e w' => e = .returned (.bool (inB n 1 m)) ∧ Below w.heap.size w w' := by
  have ta : ∀ w, (Instr.typeAssert (.iface 118 (.agg #[.string s, .int .i64 m])) 89 167 true).run Tryz.prog w = .ok (.tuple #[.iface 118 (.agg #[.string s, .int .i64 m]), .bool true]) w := fun _ => by kernel_rfl
  by_cases h1 : 1 ≤ n
  · go_enter Tryz.func92, Tryz.ntmps92
    go_wp2_with (go_at_call 158; refine (mostHold _ _ _).mono ?_; rintro e w' ⟨rfl, hb⟩)
    go_ret
    exact ⟨ret_bool (by simp [inB, h1]), hb⟩
  · go_enter Tryz.func92, Tryz.ntmps92
    go_wp2_with (go_at_call 158; refine (mostHold _ _ _).mono ?_; rintro e w' ⟨rfl, hb⟩)
    go_ret
    exact ⟨ret_bool (by simp [inB]; omega), Below.refl _ _⟩
theorem amountOk_clean (s : ByteArray) (n : Int) (w : World) :
    Calls Tryz.prog 92 #[.iface 120 (.agg #[.string s]), .int .i64 n] w fun e w' => e = .returned (.bool (n == 0)) ∧ Below w.heap.size w w' := by
  have ta : ∀ w, (Instr.typeAssert (.iface 120 (.agg #[.string s])) 89 167 true).run Tryz.prog w = .ok (.tuple #[.nilIface, .bool false]) w := fun w => run_typeAssert_lacksB Tryz.underlying167 (by kernel_rfl) (by kernel_rfl) _ _ w
  go_enter Tryz.func92, Tryz.ntmps92
  go_wp2
  go_ret
  exact ⟨rfl, Below.refl _ _⟩
theorem amountOk_test (s : ByteArray) (n : Int) (w : World) :
    Calls Tryz.prog 92 #[.iface 121 (.agg #[.string s]), .int .i64 n] w fun e w' => e = .returned (.bool (n == 0)) ∧ Below w.heap.size w w' := by
  have ta : ∀ w, (Instr.typeAssert (.iface 121 (.agg #[.string s])) 89 167 true).run Tryz.prog w = .ok (.tuple #[.nilIface, .bool false]) w := fun w => run_typeAssert_lacksB Tryz.underlying167 (by kernel_rfl) (by kernel_rfl) _ _ w
  go_enter Tryz.func92, Tryz.ntmps92
  go_wp2
  go_ret
  exact ⟨rfl, Below.refl _ _⟩
end Go.Proofs.YtliebjbbomghiaaGreatDoor

/- Drawing: the reader is opened; slots; a phase. -/
namespace Go.Proofs.YtliebjbbomghiaaGreatDoor
open Go.RowKit

/-- A phase in a block of its own. -/
def Box (w : World) (pb : Nat) (p : Ph) : Prop := w.rangeAt pb 0 p.cells ∧ w.there pb 0 8
theorem Box.lt {w : World} {pb : Nat} {p : Ph} (h : Box w pb p) : pb < w.heap.size := World.block_lt_of_cell? w _ (h.1 0 _ rfl)
theorem Box.cells {w : World} {pb : Nat} {p : Ph} (h : Box w pb p) :
    w.cell? ⟨pb, 0, none⟩ = some (.string p.nm) ∧ w.cell? ⟨pb, 1, none⟩ = some (.int .i64 p.k) ∧ w.cell? ⟨pb, 2, none⟩ = some (.string p.a) ∧ w.cell? ⟨pb, 3, none⟩ = some (.string p.b) ∧
    w.cell? ⟨pb, 4, none⟩ = some (.int .i64 p.n) ∧ w.cell? ⟨pb, 5, none⟩ = some (.int .i64 p.wi) ∧ w.cell? ⟨pb, 6, none⟩ = some (.string p.t) ∧ w.cell? ⟨pb, 7, none⟩ = some (.string p.e) :=
  ⟨h.1 0 _ rfl, h.1 1 _ rfl, h.1 2 _ rfl, h.1 3 _ rfl, h.1 4 _ rfl, h.1 5 _ rfl, h.1 6 _ rfl, h.1 7 _ rfl⟩
theorem Box.frozen {w : World} {pb : Nat} {p : Ph} (h : Box w pb p) :
    w.frozen? ⟨pb, 0, none⟩ = false ∧ w.frozen? ⟨pb, 1, none⟩ = false ∧ w.frozen? ⟨pb, 2, none⟩ = false ∧ w.frozen? ⟨pb, 3, none⟩ = false ∧ w.frozen? ⟨pb, 4, none⟩ = false ∧ w.frozen? ⟨pb, 5, none⟩ = false ∧ w.frozen? ⟨pb, 6, none⟩ = false ∧ w.frozen? ⟨pb, 7, none⟩ = false :=
  ⟨(h.2 0 (by omega)).2, (h.2 1 (by omega)).2, (h.2 2 (by omega)).2, (h.2 3 (by omega)).2, (h.2 4 (by omega)).2, (h.2 5 (by omega)).2, (h.2 6 (by omega)).2, (h.2 7 (by omega)).2⟩
theorem Box.kept {w w' : World} {pb : Nat} {p : Ph} {r : Option Nat} (h : Box w pb p) (hg : w.grownBy w' r) (hne : some pb ≠ r) : Box w' pb p := by
  have hb := hg.block pb h.lt hne
  refine ⟨fun j v hv => ?_, fun j hj => ?_⟩
  · rw [World.cell?_of_block (w := w) (a := ⟨pb, 0 + j, none⟩) hb]; exact h.1 j v hv
  · rw [World.cell?_of_block (w := w) (a := ⟨pb, 0 + j, none⟩) hb, World.frozen?_of_block (w := w) (a := ⟨pb, 0 + j, none⟩) hb]; exact h.2 j hj
theorem box_alloc (w : World) (p : Ph) (t : TypeId) : Box (w.alloc (.cells #[.string p.nm, .int .i64 p.k, .string p.a, .string p.b, .int .i64 p.n, .int .i64 p.wi, .string p.t, .string p.e] t)) w.heap.size p := by
  have hr : (w.alloc (.cells #[.string p.nm, .int .i64 p.k, .string p.a, .string p.b, .int .i64 p.n, .int .i64 p.wi, .string p.t, .string p.e] t)).rangeAt w.heap.size 0 p.cells := by
    intro j v hv
    rw [Nat.zero_add, World.cell?_alloc_at]
    · simpa [Ph.cells] using hv
    · rfl
  refine ⟨hr, fun j hj => ⟨hr.isSome j hj, ?_⟩⟩
  simp [go_sem]
theorem range_set {w : World} {pb : Nat} {cs : List Value} {j : Nat} {u : Value} (h : w.rangeAt pb 0 cs) (hj : j < cs.length) : (w.setCell ⟨pb, j, none⟩ u).rangeAt pb 0 (cs.set j u) := by
  intro i x hx
  rw [List.getElem?_set] at hx
  by_cases e : j = i
  · subst e
    rw [if_pos rfl, if_pos hj] at hx
    obtain rfl := Option.some.inj hx
    have hc := h j cs[j] (by simp)
    rw [Nat.zero_add] at hc ⊢
    exact World.cell?_setCell_same _ _ _ hc
  · rw [if_neg e] at hx
    rw [World.cell?_setCell_other _ _ _ _ (by simp <;> omega)]
    exact h i x hx
theorem there_set {w : World} {pb n j : Nat} {u : Value} (h : w.there pb 0 n) : (w.setCell ⟨pb, j, none⟩ u).there pb 0 n := fun i hi => by
  have := World.there_setCells h pb j [u] i hi
  simpa [World.setCells] using this
theorem Box.set0 {w : World} {pb : Nat} {p : Ph} (h : Box w pb p) (s : ByteArray) : Box (w.setCell ⟨pb, 0, none⟩ (.string s)) pb { p with nm := s } := ⟨range_set h.1 (by simp [Ph.cells]), there_set h.2⟩
theorem Box.set1 {w : World} {pb : Nat} {p : Ph} (h : Box w pb p) (x : Int) : Box (w.setCell ⟨pb, 1, none⟩ (.int .i64 x)) pb { p with k := x } := ⟨range_set h.1 (by simp [Ph.cells]), there_set h.2⟩
theorem Box.set2 {w : World} {pb : Nat} {p : Ph} (h : Box w pb p) (s : ByteArray) : Box (w.setCell ⟨pb, 2, none⟩ (.string s)) pb { p with a := s } := ⟨range_set h.1 (by simp [Ph.cells]), there_set h.2⟩
theorem Box.set5 {w : World} {pb : Nat} {p : Ph} (h : Box w pb p) (x : Int) : Box (w.setCell ⟨pb, 5, none⟩ (.int .i64 x)) pb { p with wi := x } := ⟨range_set h.1 (by simp [Ph.cells]), there_set h.2⟩
theorem Box.set3 {w : World} {pb : Nat} {p : Ph} (h : Box w pb p) (s : ByteArray) : Box (w.setCell ⟨pb, 3, none⟩ (.string s)) pb { p with b := s } := ⟨range_set h.1 (by simp [Ph.cells]), there_set h.2⟩
theorem Box.set4 {w : World} {pb : Nat} {p : Ph} (h : Box w pb p) (x : Int) : Box (w.setCell ⟨pb, 4, none⟩ (.int .i64 x)) pb { p with n := x } := ⟨range_set h.1 (by simp [Ph.cells]), there_set h.2⟩
theorem Box.set6 {w : World} {pb : Nat} {p : Ph} (h : Box w pb p) (s : ByteArray) : Box (w.setCell ⟨pb, 6, none⟩ (.string s)) pb { p with t := s } := ⟨range_set h.1 (by simp [Ph.cells]), there_set h.2⟩
theorem Box.set7 {w : World} {pb : Nat} {p : Ph} (h : Box w pb p) (s : ByteArray) : Box (w.setCell ⟨pb, 7, none⟩ (.string s)) pb { p with e := s } := ⟨range_set h.1 (by simp [Ph.cells]), there_set h.2⟩
theorem Box.other {w : World} {pb qb j : Nat} {p : Ph} {u : Value} (h : Box w pb p) (hne : pb ≠ qb) : Box (w.setCell ⟨qb, j, none⟩ u) pb p :=
  h.kept (r := some qb) ⟨rfl, rfl, rfl, by simp, fun i _ hr => Below.heap_setCell _ _ _ _ (fun e => hr (by rw [e]))⟩ (by simpa using hne)

/-- A phase copied whole into its block. -/
theorem Box.copy {w : World} {pb : Nat} {p : Ph} (h : Box w pb p) (q : Ph) : Box ((((((((w.setCell ⟨pb, 0, none⟩ (.string q.nm)).setCell ⟨pb, 1, none⟩ (.int .i64 q.k)).setCell ⟨pb, 2, none⟩ (.string q.a)).setCell ⟨pb, 3, none⟩ (.string q.b)).setCell ⟨pb, 4, none⟩ (.int .i64 q.n)).setCell ⟨pb, 5, none⟩ (.int .i64 q.wi)).setCell ⟨pb, 6, none⟩ (.string q.t)).setCell ⟨pb, 7, none⟩ (.string q.e)) pb q :=
  (((((((h.set0 q.nm).set1 q.k).set2 q.a).set3 q.b).set4 q.n).set5 q.wi).set6 q.t).set7 q.e
theorem sizeRecPhase : (Tryz.prog.info? 34).map (·.size) = some 8 := by kernel_rfl
/-- What a function hands back that lies in its result's block. -/
theorem ret_box {fn : Func} {q : Tmp} (h : fn.results = #[.cell q 34]) {tmps : Array Value} {Z : World} {rk : Nat} {p : Ph} (ht : tmps.getD q undef = .pointer (some ⟨rk, 0, none⟩)) (hZ : Box Z rk p) :
    (results fn tmps).run Tryz.prog Z = .ok (.agg #[.string p.nm, .int .i64 p.k, .string p.a, .string p.b, .int .i64 p.n, .int .i64 p.wi, .string p.t, .string p.e]) Z := by
  have hl := run_loadVar_mid (P := Tryz.prog) Z rk 0 34 p.cells _ hZ.1 Tryz.underlying34 rfl sizeRecPhase
  have ha : (asAddr (.pointer (some ⟨rk, 0, none⟩))).run Tryz.prog Z = .ok ⟨rk, 0, none⟩ Z := by simp [go_sem]
  have ht' : tmps[q]?.getD undef = .pointer (some ⟨rk, 0, none⟩) := by simpa using ht
  simp only [results, h]
  simp [Sem.run_bind, Result.andThen, ht', ha, hl, Ph.cells]

def slotsL : List ByteArray := [⟨#[115, 49]⟩, ⟨#[115, 49]⟩, ⟨#[115, 50]⟩, ⟨#[115, 51]⟩, ⟨#[107, 101, 103]⟩]
end Go.Proofs.YtliebjbbomghiaaGreatDoor

/- Drawing a phase: what is at hand. -/
namespace Go.Proofs.YtliebjbbomghiaaGreatDoor
open Go.RowKit

def Ph.sz (p : Ph) : Prop := p.nm.size ≤ maxLen ∧ p.a.size ≤ maxLen ∧ p.b.size ≤ maxLen ∧ p.t.size ≤ maxLen ∧ p.e.size ≤ maxLen ∧ -5000 ≤ p.wi ∧ p.wi ≤ 5000
theorem sz0 : (⟨#[]⟩ : ByteArray).size ≤ maxLen := by unfold maxLen; decide

def stuffL : List ByteArray := [⟨#[97, 108, 101]⟩, ⟨#[109, 97, 108, 116]⟩]
def endsL : List ByteArray := [⟨#[103, 111, 111, 100]⟩, ⟨#[115, 97, 118, 101, 100]⟩, ⟨#[115, 99, 114, 97, 112, 112, 101, 100]⟩]
theorem sz_app {later : List ByteArray} (h : SzS later) : ∀ s ∈ endsL ++ later, s.size ≤ maxLen := fun s hs => by
  rcases List.mem_append.1 hs with hs | hs
  · exact sz_lit (ss := endsL) (by decide) s hs
  · exact h s hs

end Go.Proofs.YtliebjbbomghiaaGreatDoor
