/- The law of RunOpen: its walk, and the laws' helpers over a house that has things alone. -/
import Derived.Test.YtkapodkidlgkjafRo
import Derived.Test.YtkapodkidlgkjafMk2
import Derived.Test.YtkapodkidlgkjafMk4a
namespace Go.Proofs.Ytkapodkidlgkjaf
open Go.RowKit

theorem eqBas0_any (a b : Option Addr) (c d : Nat) (w : World) : Calls Try.prog 36 #[.slice a 0 c, .slice b 0 d] w fun e w' => e = .returned (.bool true) ∧ w' = w := by
  go_enter Try.func36, Try.ntmps36
  go_wp2
  go_rounds 1
  go_ret
  exact ⟨rfl, rfl⟩
theorem eqRbs0_any (a b : Option Addr) (c d : Nat) (w : World) : Calls Try.prog 18 #[.slice a 0 c, .slice b 0 d] w fun e w' => e = .returned (.bool true) ∧ w' = w := by
  go_enter Try.func18, Try.ntmps18
  go_wp2
  go_rounds 1
  go_ret
  exact ⟨rfl, rfl⟩
theorem eqDns0_any (a b : Option Addr) (c d : Nat) (w : World) : Calls Try.prog 19 #[.slice a 0 c, .slice b 0 d] w fun e w' => e = .returned (.bool true) ∧ w' = w := by
  go_enter Try.func19, Try.ntmps19
  go_wp2
  go_rounds 1
  go_ret
  exact ⟨rfl, rfl⟩
theorem mkBas0_any (a : Option Addr) (c : Nat) (k : Int) (w : World) : Calls Try.prog 39 #[.slice a 0 c, .int .i64 k] w fun e w' => e = .returned (.int .i64 k) ∧ w' = w := by
  go_enter Try.func39, Try.ntmps39
  go_wp2
  go_rounds 1
  go_ret
  exact ⟨rfl, rfl⟩
theorem mkRbs0_any (a : Option Addr) (c : Nat) (k : Int) (w : World) : Calls Try.prog 22 #[.slice a 0 c, .int .i64 k] w fun e w' => e = .returned (.int .i64 k) ∧ w' = w := by
  go_enter Try.func22, Try.ntmps22
  go_wp2
  go_rounds 1
  go_ret
  exact ⟨rfl, rfl⟩
theorem mkDns0_any (a : Option Addr) (c : Nat) (k : Int) (w : World) : Calls Try.prog 23 #[.slice a 0 c, .int .i64 k] w fun e w' => e = .returned (.int .i64 k) ∧ w' = w := by
  go_enter Try.func23, Try.ntmps23
  go_wp2
  go_rounds 1
  go_ret
  exact ⟨rfl, rfl⟩
theorem hdBas0_any (a : Option Addr) (c : Nat) (k : Int) (w : World) : Calls Try.prog 43 #[.slice a 0 c, .int .i64 k] w fun e w' => e = .returned (.int .i64 k) ∧ w' = w := by
  go_enter Try.func43, Try.ntmps43
  go_wp2
  go_rounds 1
  go_ret
  exact ⟨rfl, rfl⟩
theorem hdRbs0_any (a : Option Addr) (c : Nat) (k : Int) (w : World) : Calls Try.prog 25 #[.slice a 0 c, .int .i64 k] w fun e w' => e = .returned (.int .i64 k) ∧ w' = w := by
  go_enter Try.func25, Try.ntmps25
  go_wp2
  go_rounds 1
  go_ret
  exact ⟨rfl, rfl⟩
theorem hdDns0_any (a : Option Addr) (c : Nat) (k : Int) (w : World) : Calls Try.prog 26 #[.slice a 0 c, .int .i64 k] w fun e w' => e = .returned (.int .i64 k) ∧ w' = w := by
  go_enter Try.func26, Try.ntmps26
  go_wp2
  go_rounds 1
  go_ret
  exact ⟨rfl, rfl⟩
set_option maxHeartbeats 1000000 in
theorem eqBk0_any (ls : List ByteArray) (a1 a2 a3 a4 : Option Addr) (c1 c2 c3 c4 : Nat) (w : World) (h1 : Ls w (.slice a1 ls.length c1) ls) (h2 : Ls w (.slice a3 ls.length c3) ls) :
    Calls Try.prog 17 #[.agg #[.slice a1 ls.length c1, .slice a2 0 c2], .agg #[.slice a3 ls.length c3, .slice a4 0 c4]] w fun e w' => e = .returned (.bool true) ∧ Below w.heap.size w w' := by
  obtain ⟨W1, hW1, kA, kX, hB1, hs1⟩ : ∃ W1, (w.alloc (.cells #[.slice a1 ls.length c1, .slice a2 0 c2] 26)).alloc (.cells #[.slice a3 ls.length c3, .slice a4 0 c4] 26) = W1 ∧ CB W1 w.heap.size [.slice a1 ls.length c1, .slice a2 0 c2] ∧ CB W1 (w.heap.size + 1) [.slice a3 ls.length c3, .slice a4 0 c4] ∧ Below w.heap.size w W1 ∧ W1.heap.size = w.heap.size + 2 := ⟨_, rfl, cb2 w _ _ _ _⟩
  go_enter Try.func17, Try.ntmps17
  go_upto_region 1 with fail
  try rw [hW1]
  clear hW1
  obtain ⟨p0, p1⟩ := kA.c2'
  obtain ⟨q0, q1⟩ := kX.c2'
  go_wp2_with fail
  refine (eqLs_any ls _ _ _ (h1.up hB1) (h2.up hB1)).mono ?_
  rintro e w2 ⟨rfl, hb2⟩
  have kA := kA.up hb2 (by omega)
  have kX := kX.up hb2 (by omega)
  clear p0 p1 q0 q1
  obtain ⟨p0, p1⟩ := kA.c2'
  obtain ⟨q0, q1⟩ := kX.c2'
  go_wp2_with fail
  refine (eqBas0_any _ _ _ _ _).mono ?_
  rintro e w3 ⟨rfl, rfl⟩
  go_wp2_with fail
  go_ret
  exact ⟨rfl, up_trans hB1 hb2⟩
set_option maxHeartbeats 1000000 in
theorem mkBk0_any (ls : List ByteArray) (base : Nat) (a1 a2 : Option Addr) (c1 c2 : Nat) (w : World) (h : OwnT w base (.slice a1 ls.length c1) ls) (hn : ls.length ≤ 1000) :
    Calls Try.prog 21 #[.agg #[.slice a1 ls.length c1, .slice a2 0 c2], .int .i64 1] w fun e w' => e = .returned (.int .i64 (1 + ls.length)) ∧ (∃ ys, ys.length = ls.length ∧ Marked ys 1 ls.length ∧ OwnT w' base (.slice a1 ls.length c1) ys) ∧ w.grownBy w' (Value.slice a1 ls.length c1).ownBlock := by
  obtain ⟨W1, hW1, kA, hB1, hs1⟩ : ∃ W1, w.alloc (.cells #[.slice a1 ls.length c1, .slice a2 0 c2] 26) = W1 ∧ CB W1 w.heap.size [.slice a1 ls.length c1, .slice a2 0 c2] ∧ Below w.heap.size w W1 ∧ W1.heap.size = w.heap.size + 1 := ⟨_, rfl, cb1 w _ _⟩
  have hlt : ∀ g, (Value.slice a1 ls.length c1).ownBlock = some g → g < w.heap.size := fun g hg => (h.lt g hg).2
  have hne : some w.heap.size ≠ (Value.slice a1 ls.length c1).ownBlock := fun e => by have := hlt _ e.symm; omega
  go_enter Try.func21, Try.ntmps21
  go_upto_region 1 with fail
  try rw [hW1]
  clear hW1
  obtain ⟨p0, p1⟩ := kA.c2'
  go_wp2_with fail
  refine (markS_any ls base _ 1 _ (h.up hB1) hn (by omega) (by omega)).mono ?_
  rintro e w2 ⟨rfl, hy, hg2⟩
  have kA := kA.kept hg2 hne
  have hG := grown_trans (grown_below hB1) hg2
  clear p0 p1
  obtain ⟨p0, p1⟩ := kA.c2'
  go_wp2_with fail
  refine (mkBas0_any _ _ _ _).mono ?_
  rintro e w3 ⟨rfl, rfl⟩
  go_wp2_with fail
  go_ret
  exact ⟨rfl, hy, hG⟩
set_option maxHeartbeats 1000000 in
theorem hdBk0_any (ys : List ByteArray) (n base : Nat) (a1 a2 : Option Addr) (c1 c2 : Nat) (w : World) (h : OwnT w base (.slice a1 n c1) ys) (hn : n ≤ 1000) (hl : ys.length = n) (hM : Marked ys 1 n) :
    Calls Try.prog 24 #[.agg #[.slice a1 n c1, .slice a2 0 c2], .int .i64 1] w fun e w' => e = .returned (.int .i64 (1 + n)) ∧ Below w.heap.size w w' := by
  obtain ⟨W1, hW1, kA, hB1, hs1⟩ : ∃ W1, w.alloc (.cells #[.slice a1 n c1, .slice a2 0 c2] 26) = W1 ∧ CB W1 w.heap.size [.slice a1 n c1, .slice a2 0 c2] ∧ Below w.heap.size w W1 ∧ W1.heap.size = w.heap.size + 1 := ⟨_, rfl, cb1 w _ _⟩
  have Hl : Hid (ys.length = n) := hl
  clear hl
  go_enter Try.func24, Try.ntmps24
  go_upto_region 1 with fail
  try rw [hW1]
  clear hW1
  obtain ⟨p0, p1⟩ := kA.c2'
  go_wp2_with fail
  refine (heldS_any ys base _ 1 _ (h.up hB1) (by rw [Hl.out]; exact hM) (by rw [Hl.out]; exact hn) (by omega) (by omega)).mono ?_
  rw [Hl.out]
  rintro e w2 ⟨rfl, hb2⟩
  have kA := kA.up hb2 (by omega)
  have hn1 : ¬ (1 + (n : Int) < 0) := by omega
  clear p0 p1
  obtain ⟨p0, p1⟩ := kA.c2'
  go_wp2_with fail
  refine (hdBas0_any _ _ _ _).mono ?_
  rintro e w3 ⟨rfl, rfl⟩
  go_wp2_with fail
  go_ret
  exact ⟨rfl, up_trans hB1 hb2⟩
set_option maxHeartbeats 2000000 in
theorem eqHo0_any (ls : List ByteArray) (a1 a2 a3 a4 : Option Addr) (c1 c2 c3 c4 : Nat) (w : World) (h1 : Ls w (.slice a1 ls.length c1) ls) (h2 : Ls w (.slice a3 ls.length c3) ls) :
    Calls Try.prog 8 #[.agg #[.int .i64 0, .int .i64 0, .slice a1 ls.length c1, .slice a2 0 c2, .slice none 0 0, .slice none 0 0], .agg #[.int .i64 0, .int .i64 0, .slice a3 ls.length c3, .slice a4 0 c4, .slice none 0 0, .slice none 0 0]] w fun e w' => e = .returned (.bool true) ∧ Below w.heap.size w w' := by
  obtain ⟨W1, hW1, kA, kX, hB1, hs1⟩ : ∃ W1, (w.alloc (.cells #[.int .i64 0, .int .i64 0, .slice a1 ls.length c1, .slice a2 0 c2, .slice none 0 0, .slice none 0 0] 30)).alloc (.cells #[.int .i64 0, .int .i64 0, .slice a3 ls.length c3, .slice a4 0 c4, .slice none 0 0, .slice none 0 0] 30) = W1 ∧ CB W1 w.heap.size [.int .i64 0, .int .i64 0, .slice a1 ls.length c1, .slice a2 0 c2, .slice none 0 0, .slice none 0 0] ∧ CB W1 (w.heap.size + 1) [.int .i64 0, .int .i64 0, .slice a3 ls.length c3, .slice a4 0 c4, .slice none 0 0, .slice none 0 0] ∧ Below w.heap.size w W1 ∧ W1.heap.size = w.heap.size + 2 := ⟨_, rfl, cb2 w _ _ _ _⟩
  go_enter Try.func8, Try.ntmps8
  go_upto_region 1 with fail
  try rw [hW1]
  clear hW1
  obtain ⟨p0, p1, p2, p3, p4, p5⟩ := kA.c6
  obtain ⟨q0, q1, q2, q3, q4, q5⟩ := kX.c6
  go_wp2_with fail
  refine (eqBk0_any ls _ _ _ _ _ _ _ _ _ (h1.up hB1) (h2.up hB1)).mono ?_
  rintro e w2 ⟨rfl, hb2⟩
  have kA := kA.up hb2 (by omega)
  have kX := kX.up hb2 (by omega)
  clear p0 p1 p2 p3 p4 p5 q0 q1 q2 q3 q4 q5
  obtain ⟨p0, p1, p2, p3, p4, p5⟩ := kA.c6
  obtain ⟨q0, q1, q2, q3, q4, q5⟩ := kX.c6
  go_wp2_with fail
  refine (eqRbs0_any _ _ _ _ _).mono ?_
  rintro e w3 ⟨rfl, rfl⟩
  go_wp2_with fail
  refine (eqDns0_any _ _ _ _ _).mono ?_
  rintro e w3 ⟨rfl, rfl⟩
  go_wp2_with fail
  go_ret
  exact ⟨rfl, up_trans hB1 hb2⟩
set_option maxHeartbeats 2000000 in
theorem mkHo0_any (ls : List ByteArray) (base : Nat) (a1 a2 : Option Addr) (c1 c2 : Nat) (w : World) (h : OwnT w base (.slice a1 ls.length c1) ls) (hn : ls.length ≤ 1000) :
    Calls Try.prog 11 #[.agg #[.int .i64 0, .int .i64 0, .slice a1 ls.length c1, .slice a2 0 c2, .slice none 0 0, .slice none 0 0], .int .i64 1] w fun e w' => e = .returned (.int .i64 (1 + ls.length)) ∧ (∃ ys, ys.length = ls.length ∧ Marked ys 1 ls.length ∧ OwnT w' base (.slice a1 ls.length c1) ys) ∧ w.grownBy w' (Value.slice a1 ls.length c1).ownBlock := by
  obtain ⟨W1, hW1, kA, hB1, hs1⟩ : ∃ W1, w.alloc (.cells #[.int .i64 0, .int .i64 0, .slice a1 ls.length c1, .slice a2 0 c2, .slice none 0 0, .slice none 0 0] 30) = W1 ∧ CB W1 w.heap.size [.int .i64 0, .int .i64 0, .slice a1 ls.length c1, .slice a2 0 c2, .slice none 0 0, .slice none 0 0] ∧ Below w.heap.size w W1 ∧ W1.heap.size = w.heap.size + 1 := ⟨_, rfl, cb1 w _ _⟩
  have hlt : ∀ g, (Value.slice a1 ls.length c1).ownBlock = some g → g < w.heap.size := fun g hg => (h.lt g hg).2
  have hne : some w.heap.size ≠ (Value.slice a1 ls.length c1).ownBlock := fun e => by have := hlt _ e.symm; omega
  go_enter Try.func11, Try.ntmps11
  go_upto_region 1 with fail
  try rw [hW1]
  clear hW1
  obtain ⟨p0, p1, p2, p3, p4, p5⟩ := kA.c6
  go_wp2_with fail
  refine (mkBk0_any ls base _ _ _ _ _ (h.up hB1) hn).mono ?_
  rintro e w2 ⟨rfl, hy, hg2⟩
  have kA := kA.kept hg2 hne
  have hG := grown_trans (grown_below hB1) hg2
  clear p0 p1 p2 p3 p4 p5
  obtain ⟨p0, p1, p2, p3, p4, p5⟩ := kA.c6
  go_wp2_with fail
  refine (mkRbs0_any _ _ _ _).mono ?_
  rintro e w3 ⟨rfl, rfl⟩
  go_wp2_with fail
  refine (mkDns0_any _ _ _ _).mono ?_
  rintro e w3 ⟨rfl, rfl⟩
  go_wp2_with fail
  go_ret
  exact ⟨rfl, hy, hG⟩
set_option maxHeartbeats 2000000 in
theorem hdHo0_any (ys : List ByteArray) (n base : Nat) (a1 a2 : Option Addr) (c1 c2 : Nat) (w : World) (h : OwnT w base (.slice a1 n c1) ys) (hn : n ≤ 1000) (hl : ys.length = n) (hM : Marked ys 1 n) :
    Calls Try.prog 12 #[.agg #[.int .i64 0, .int .i64 0, .slice a1 n c1, .slice a2 0 c2, .slice none 0 0, .slice none 0 0], .int .i64 1] w fun e w' => e = .returned (.int .i64 (1 + n)) ∧ Below w.heap.size w w' := by
  obtain ⟨W1, hW1, kA, hB1, hs1⟩ : ∃ W1, w.alloc (.cells #[.int .i64 0, .int .i64 0, .slice a1 n c1, .slice a2 0 c2, .slice none 0 0, .slice none 0 0] 30) = W1 ∧ CB W1 w.heap.size [.int .i64 0, .int .i64 0, .slice a1 n c1, .slice a2 0 c2, .slice none 0 0, .slice none 0 0] ∧ Below w.heap.size w W1 ∧ W1.heap.size = w.heap.size + 1 := ⟨_, rfl, cb1 w _ _⟩
  have Hl : Hid (ys.length = n) := hl
  clear hl
  go_enter Try.func12, Try.ntmps12
  go_upto_region 1 with fail
  try rw [hW1]
  clear hW1
  obtain ⟨p0, p1, p2, p3, p4, p5⟩ := kA.c6
  go_wp2_with fail
  refine (hdBk0_any ys n base _ _ _ _ _ (h.up hB1) hn Hl.out hM).mono ?_
  rintro e w2 ⟨rfl, hb2⟩
  have kA := kA.up hb2 (by omega)
  have hn1 : ¬ (1 + (n : Int) < 0) := by omega
  clear p0 p1 p2 p3 p4 p5
  obtain ⟨p0, p1, p2, p3, p4, p5⟩ := kA.c6
  go_wp2_with fail
  refine (hdRbs0_any _ _ _ _).mono ?_
  rintro e w3 ⟨rfl, rfl⟩
  go_wp2_with fail
  refine (hdDns0_any _ _ _ _).mono ?_
  rintro e w3 ⟨rfl, rfl⟩
  go_wp2_with fail
  go_ret
  exact ⟨rfl, up_trans hB1 hb2⟩
end Go.Proofs.Ytkapodkidlgkjaf
