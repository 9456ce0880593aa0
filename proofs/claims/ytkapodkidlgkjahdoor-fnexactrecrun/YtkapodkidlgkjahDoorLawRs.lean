/- The laws' own helpers over lists of says. -/
import Derived.Test.YtkapodkidlgkjahDoorLawS
import Derived.Test.YtkapodkidlgkjahDoorLawRg
import Derived.Test.YtkapodkidlgkjahDoorMk3
import Derived.Test.YtkapodkidlgkjahDoorWh0
namespace Go.Proofs.YtkapodkidlgkjahDoor
open Go.RowKit

set_option maxHeartbeats 1000000 in
theorem szS2_any (ps : List Ph) (b o c : Nat) (l : Int) (w : World) (hl : 0 ≤ l) (hl' : l ≤ 1048576) (hr : RecAt w b o ps) (hb : b < w.heap.size) (hs : Sized ps) (hn : ps.length ≤ maxLen) :
    Calls Tryd.prog 8 #[.slice (some ⟨b, o, none⟩) ps.length c, .int .i64 l] w
      fun e' w' => (∃ x : Int, e' = .returned (.int .i64 x) ∧ (0 ≤ x → (ps.length : Int) ≤ l) ∧ x ≤ 1048576) ∧ Below w.heap.size w w' := by
  unfold maxLen at hn
  by_cases h0 : l - ps.length < 0
  · go_enter Tryd.func8, Tryd.ntmps8
    go_wp2
    go_ret
    exact ⟨⟨_, rfl, by omega, by omega⟩, Below.refl _ _⟩
  have H0 : Hid ((ps.length : Int) ≤ l) := by show _ ≤ _; omega
  go_enter Tryd.func8, Tryd.ntmps8
  go_wp2
  go_loopw [1, 5] (fun x i w' => ∃ (k : Nat) (y : Int), k ≤ ps.length ∧ i = .int .i64 k ∧ x = .int .i64 y ∧ 0 ≤ y ∧ y ≤ 1048576 ∧ Below w.heap.size w w') (fun _ i _ => ps.length - (intOf i).toNat)
  case atStart => exact ⟨0, _, by omega, rfl, rfl, by omega, by omega, Below.refl _ _⟩
  case round =>
    obtain ⟨k, y, hk, rfl, rfl, hy, hy', hB⟩ := hrel
    by_cases hp : k < ps.length
    · obtain ⟨c0, c1, c2, c3, c4, c5, c6, c7⟩ := hr.cells k hp
      obtain ⟨z0, z1, z2, z3, z4⟩ := hs ps[k] (by simp)
      obtain ⟨hc, hf⟩ := bcell hB
      go_wp2_with fail
      refine (szPhase_any _ _ _ _ _ _ _ _ _ _ hy hy' z0 z1 z2 z3 z4).mono ?_
      rintro e' w1 ⟨⟨x, rfl, hx1, -, -⟩, hb1⟩
      have hB1 := up_trans hB hb1
      by_cases hx : x < 0
      · go_wp2_with fail
        go_ret
        exact ⟨⟨_, rfl, by omega, by omega⟩, hB1⟩
      · go_wp2_with fail
        go_roundw
        case rel => exact ⟨k + 1, x, by omega, by go_num, rfl, by omega, by omega, hB1⟩
        case measure => simp [intOf]; omega
    · go_wp2_with fail
      go_ret
      exact ⟨⟨_, rfl, fun _ => H0.out, hy'⟩, hB⟩
theorem szS2_src (ps : List Ph) (v : Value) (w : World) (h : Src w v ps) (hs : Sized ps) :
    Calls Tryd.prog 8 #[v, .int .i64 1048576] w fun e' w' => (∃ x : Int, e' = .returned (.int .i64 x) ∧ (0 ≤ x → ps.length ≤ 1048576) ∧ x ≤ 1048576) ∧ Below w.heap.size w w' := by
  rcases h with ⟨a, c, rfl, rfl⟩ | ⟨b, o, c, rfl, hr, hb, hl⟩
  · refine (szS_nil a c _ w (by omega) (by omega)).mono fun e w' ⟨he, hw⟩ => ?_
    subst hw
    exact ⟨⟨_, he, fun _ => by simp, by omega⟩, Below.refl _ _⟩
  · refine (szS2_any ps b o c _ w (by omega) (by omega) hr hb hs hl).mono fun e w' ⟨⟨x, he, hx, hx2⟩, hB⟩ => ?_
    exact ⟨⟨x, he, fun h => by have := hx h; omega, hx2⟩, hB⟩

theorem szSay_any (a : Option Addr) (n c : Nat) (l : Int) (w : World) (hl : 0 ≤ l) (hl' : l ≤ 1048576) (hn : n ≤ maxLen) :
    Calls Tryd.prog 23 #[.slice a n c, .int .i64 l] w fun e' w' => (∃ x : Int, e' = .returned (.int .i64 x) ∧ (0 ≤ x → n ≤ 1048576)) ∧ w' = w := by
  unfold maxLen at hn
  go_enter Tryd.func23, Tryd.ntmps23
  go_wp2
  all_goals
    go_ret
    exact ⟨⟨_, rfl, by omega⟩, rfl⟩

/-- The says that are handed to a law. -/
def SaySrc (w : World) (v : Value) (ys : List Sy) : Prop := (∃ a c, v = .slice a 0 c ∧ ys = []) ∨ ∃ b o c, v = .slice (some ⟨b, o, none⟩) ys.length c ∧ SayAt w b o ys ∧ b < w.heap.size ∧ ys.length ≤ maxLen
theorem SaySrc.up {w w' : World} {v : Value} {ys : List Sy} (h : SaySrc w v ys) (hb : Below w.heap.size w w') : SaySrc w' v ys := by
  rcases h with h | ⟨b, o, c, rfl, hr, hlt, hl⟩
  · exact .inl h
  · exact .inr ⟨b, o, c, rfl, hr.up hb hlt, Nat.lt_of_lt_of_le hlt hb.size, hl⟩
theorem SaySrc.shape {w : World} {v : Value} {ys : List Sy} (h : SaySrc w v ys) : ∃ a c, v = .slice a ys.length c ∧ ys.length ≤ maxLen := by
  rcases h with ⟨a, c, rfl, rfl⟩ | ⟨b, o, c, rfl, _, _, hl⟩
  · exact ⟨a, c, rfl, by simp⟩
  · exact ⟨_, c, rfl, hl⟩
/-- Says in a block of their own. -/
def OwnY (w : World) (b : Nat) (ys : List Sy) : Prop := SayAt w b 0 ys ∧ w.there b 0 (ys.length * 2) ∧ b < w.heap.size
theorem OwnY.up {w w' : World} {b : Nat} {ys : List Sy} (h : OwnY w b ys) (hb : Below w.heap.size w w') : OwnY w' b ys :=
  ⟨h.1.up hb h.2.2, there_up h.2.1 hb h.2.2, Nat.lt_of_lt_of_le h.2.2 hb.size⟩
theorem infoSay : (Tryd.prog.info? 42).map (fun i => (i.zero, i.size, i.bytes)) = some (some (.agg #[.int .i64 0, .bool false]), 2, 16) := by kernel_rfl
theorem sizeSayL : (Tryd.prog.info? 42).map (·.size) = some 2 := by kernel_rfl
theorem run_makeSays (n : Nat) (hn : n ≤ 1048576) : ∃ C : Array Value, C.size = n * 2 ∧ ∀ w, (Instr.makeSlice 50 (.int .i64 (n : Int)) (.int .i64 (n : Int))).run Tryd.prog w = .ok (.slice (some ⟨w.heap.size, 0, none⟩) n n) (w.alloc (.cells C 42)) := by
  obtain ⟨i, hi, hz⟩ := Option.map_eq_some_iff.1 infoSay
  simp only [Prod.mk.injEq] at hz
  obtain ⟨hz, hs, hb⟩ := hz
  refine ⟨madeCells (Value.agg #[.int .i64 0, .bool false]).cells (n * 2), size_madeCells _ _, fun w => ?_⟩
  have := run_make (P := Tryd.prog) w 50 42 i _ Tryd.underlying50 hi hz .i64 .i64 (n : Int) (n : Int) (by omega) (by omega) (by rw [hb]; omega) (by omega)
  simp only [Int.toNat_natCast, hs] at this
  exact this
theorem sayAt_store {w1 : World} {b k : Nat} {ys : List Sy} (hk : k < ys.length) (h : SayAt w1 b 0 (ys.take k)) (ht : w1.there b 0 (ys.length * 2)) : SayAt (w1.setCells b (k * 2) (ys[k]).cellsR) b 0 (ys.take (k + 1)) := by
  intro i p hp
  by_cases hi : i < k
  · refine World.rangeAt_setCells_apart (h i p ?_) b (k * 2) _ (.inr (.inl ?_))
    · rw [List.getElem?_take] at hp ⊢; rw [if_pos (by omega)] at hp; rw [if_pos hi]; exact hp
    · simp [Sy.cellsR]; omega
  · have hik : i = k := by
      rw [List.getElem?_take] at hp
      split at hp
      · omega
      · cases hp
    subst hik
    rw [List.getElem?_take, if_pos (by omega), List.getElem?_eq_getElem hk] at hp
    obtain rfl := Option.some.inj hp
    rw [Nat.zero_add]
    refine World.rangeAt_setCells_same _ _ _ _ (fun j hj => ?_)
    have := ht (i * 2 + j) (by simp [Sy.cellsR] at hj; omega)
    simpa using this

theorem toY_nil (a : Option Addr) (c : Nat) (w : World) :
    Calls Tryd.prog 25 #[.slice a 0 c] w fun e w' => e = .returned (.slice (some ⟨w.heap.size, 0, none⟩) 0 0) ∧ OwnY w' w.heap.size [] ∧ Below w.heap.size w w' := by
  obtain ⟨C, hC, hmk⟩ := run_makeSays 0 (by omega)
  have HC : Hid (C.size = 0 * 2) := hC
  clear hC
  simp only [Int.natCast_zero] at hmk
  go_enter Tryd.func25, Tryd.ntmps25
  go_wp2
  go_rounds 1
  go_ret
  exact ⟨rfl, ⟨fun i p hp => by simp at hp, fun j hj => by simp at hj, by simp⟩, by go_grown⟩

set_option maxHeartbeats 1000000 in
theorem toY_any (ys : List Sy) (b o c : Nat) (w : World) (hr : SayAt w b o ys) (hb : b < w.heap.size) (hn : ys.length ≤ 1048576) :
    Calls Tryd.prog 25 #[.slice (some ⟨b, o, none⟩) ys.length c] w fun e w' => e = .returned (.slice (some ⟨w.heap.size, 0, none⟩) ys.length ys.length) ∧ OwnY w' w.heap.size ys ∧ Below w.heap.size w w' := by
  obtain ⟨C, hC, hmk⟩ := run_makeSays ys.length hn
  have HC : Hid (C.size = ys.length * 2) := hC
  clear hC
  go_enter Tryd.func25, Tryd.ntmps25
  go_wp2
  go_loopw [4] (fun i w' => ∃ k : Nat, k ≤ ys.length ∧ i = .int .i64 k ∧ SayAt w' w.heap.size 0 (ys.take k) ∧ w'.there w.heap.size 0 (ys.length * 2) ∧ w.heap.size < w'.heap.size ∧ Below w.heap.size w w') (fun i _ => ys.length - (intOf i).toNat)
  case atStart => exact ⟨0, by omega, rfl, fun i p hp => by simp at hp, by rw [← HC.out]; exact there_alloc _ _ _, by simp, by go_grown⟩
  case round =>
    obtain ⟨k, hk, rfl, hra, hth, hlt, hB⟩ := hrel
    have Hra : Hid (SayAt wr w.heap.size 0 (ys.take k)) := hra
    have Hth : Hid (wr.there w.heap.size 0 (ys.length * 2)) := hth
    clear hra hth
    by_cases hp : k < ys.length
    · obtain ⟨c0, c1⟩ := hr.cells k hp
      obtain ⟨hc, hf⟩ := bcell hB
      go_wp2_with fail
      refine (toSay_any ys[k] _).mono ?_
      rintro e' w1 ⟨rfl, hb1⟩
      clear hc hf c0 c1
      go_wp2_with (refine wpList_store_mid rfl 42 _ _ rfl w.heap.size (k * 2) _ rfl rfl (fun j hj => by
          have := there_up Hth.out hb1 hlt (k * 2 + j) (by simp at hj; omega)
          simpa using this) sizeSayL (by simp [Value.oneCell']) ?_)
      go_roundw
      case rel => exact ⟨k + 1, by omega, by go_num, sayAt_store hp (Hra.out.up hb1 hlt) (there_up Hth.out hb1 hlt), World.there_setCells (there_up Hth.out hb1 hlt) _ _ _, Nat.lt_of_lt_of_le (Nat.lt_of_lt_of_le hlt hb1.size) (size_setCells _ _ _ _), below_setCells _ _ _ _ _ _ (up_trans hB hb1) (Nat.le_refl _)⟩
      case measure => simp [intOf]; omega
    · go_wp2_with fail
      go_ret
      exact ⟨rfl, ⟨by have := Hra.out; rwa [List.take_of_length_le (by omega)] at this, Hth.out, hlt⟩, hB⟩
theorem toY_src (ys : List Sy) (v : Value) (w : World) (h : SaySrc w v ys) (hn : ys.length ≤ 1048576) :
    Calls Tryd.prog 25 #[v] w fun e w' => (∃ b, e = .returned (.slice (some ⟨b, 0, none⟩) ys.length ys.length) ∧ OwnY w' b ys ∧ w.heap.size ≤ b) ∧ Below w.heap.size w w' := by
  rcases h with ⟨a, c, rfl, rfl⟩ | ⟨b, o, c, rfl, hr, hb, hl⟩
  · exact (toY_nil a c w).mono fun e w' ⟨he, ho, hB⟩ => ⟨⟨_, he, ho, Nat.le_refl _⟩, hB⟩
  · exact (toY_any ys b o c w hr hb hn).mono fun e w' ⟨he, ho, hB⟩ => ⟨⟨_, he, ho, Nat.le_refl _⟩, hB⟩
end Go.Proofs.YtkapodkidlgkjahDoor
