/- The laws' own helpers over recipes. -/
import Derived.Test.YtkapodkidlgkjafGreatDoorJ0
import Derived.Test.YtkapodkidlgkjafGreatDoorLawP
import Derived.Test.YtkapodkidlgkjafGreatDoorPr
import Derived.Deep.RegionWith
namespace Go.Proofs.YtkapodkidlgkjafGreatDoor
open Go.RowKit

theorem szS_nil (a : Option Addr) (c : Nat) (l : Int) (w : World) (hl : 0 ≤ l) (hl' : l ≤ 1048576) :
    Calls Tryz.prog 23 #[.slice a 0 c, .int .i64 l] w fun e' w' => e' = .returned (.int .i64 l) ∧ w' = w := by
  go_enter Tryz.func23, Tryz.ntmps23
  go_wp2
  go_rounds 1
  go_ret
  exact ⟨rfl, rfl⟩

set_option maxHeartbeats 1000000 in
theorem szS_any (ps : List Ph) (b o c : Nat) (l : Int) (w : World) (hl : 0 ≤ l) (hl' : l ≤ 1048576) (hr : RecAt w b o ps) (hb : b < w.heap.size) (hs : Sized ps) (hn : ps.length ≤ maxLen) :
    Calls Tryz.prog 23 #[.slice (some ⟨b, o, none⟩) ps.length c, .int .i64 l] w
      fun e' w' => (∃ x : Int, e' = .returned (.int .i64 x) ∧ (0 ≤ x → (ps.length : Int) ≤ l) ∧ x ≤ 1048576) ∧ Below w.heap.size w w' := by
  unfold maxLen at hn
  by_cases h0 : l - ps.length < 0
  · go_enter Tryz.func23, Tryz.ntmps23
    go_wp2
    go_ret
    exact ⟨⟨_, rfl, by omega, by omega⟩, Below.refl _ _⟩
  have H0 : Hid ((ps.length : Int) ≤ l) := by show _ ≤ _; omega
  go_enter Tryz.func23, Tryz.ntmps23
  go_wp2
  go_loopw [1, 5] (fun x i w' => ∃ (k : Nat) (y : Int), k ≤ ps.length ∧ i = .int .i64 k ∧ x = .int .i64 y ∧ 0 ≤ y ∧ y ≤ 1048576 ∧ Below w.heap.size w w') (fun _ i _ => ps.length - (intOf i).toNat)
  case atStart => exact ⟨0, _, by omega, rfl, rfl, by omega, by omega, Below.refl _ _⟩
  case round =>
    obtain ⟨k, y, hk, rfl, rfl, hy, hy', hB⟩ := hrel
    by_cases hp : k < ps.length
    · obtain ⟨c0, c1, c2, c3, c4, c5, c6, c7⟩ := hr.cells k hp
      obtain ⟨z0, z1, z2, z3, z4⟩ := hs ps[k] (by simp)
      obtain ⟨hc, hf⟩ := bcell hB
      go_wp2_with fail
      refine (szPhase_any _ _ _ _ _ _ _ _ _ _ hy hy' z0 z1 z2 z3 z4).mono ?_
      rintro e' w1 ⟨⟨x, rfl, hx1, -, -⟩, hb1⟩
      have hB1 := up_trans hB hb1
      by_cases hx : x < 0
      · go_wp2_with fail
        go_ret
        exact ⟨⟨_, rfl, by omega, by omega⟩, hB1⟩
      · go_wp2_with fail
        go_roundw
        case rel => exact ⟨k + 1, x, by omega, by go_num, rfl, by omega, by omega, hB1⟩
        case measure => simp [intOf]; omega
    · go_wp2_with fail
      go_ret
      exact ⟨⟨_, rfl, fun _ => H0.out, hy'⟩, hB⟩

theorem infoPhase : (Tryz.prog.info? 75).map (fun i => (i.zero, i.size, i.bytes)) = some (some (.agg #[.string ⟨#[]⟩, .int .i64 0, .string ⟨#[]⟩, .string ⟨#[]⟩, .int .i64 0, .int .i64 0, .string ⟨#[]⟩, .string ⟨#[]⟩]), 8, 104) := by kernel_rfl
theorem sizePhase : (Tryz.prog.info? 75).map (·.size) = some 8 := by kernel_rfl

/-- A new slice of phases. -/
theorem run_makePhases (n : Nat) (hn : n ≤ 1048576) : ∃ C : Array Value, C.size = n * 8 ∧ ∀ w, (Instr.makeSlice 29 (.int .i64 (n : Int)) (.int .i64 (n : Int))).run Tryz.prog w = .ok (.slice (some ⟨w.heap.size, 0, none⟩) n n) (w.alloc (.cells C 75)) := by
  obtain ⟨i, hi, hz⟩ := Option.map_eq_some_iff.1 infoPhase
  simp only [Prod.mk.injEq] at hz
  obtain ⟨hz, hs, hb⟩ := hz
  refine ⟨madeCells (Value.agg #[.string ⟨#[]⟩, .int .i64 0, .string ⟨#[]⟩, .string ⟨#[]⟩, .int .i64 0, .int .i64 0, .string ⟨#[]⟩, .string ⟨#[]⟩]).cells (n * 8), size_madeCells _ _, fun w => ?_⟩
  have := run_make (P := Tryz.prog) w 29 75 i _ Tryz.underlying29 hi hz .i64 .i64 (n : Int) (n : Int) (by omega) (by omega) (by rw [hb]; omega) (by omega)
  simp only [Int.toNat_natCast, hs] at this
  exact this

/-- What the slice of phases is that is handed to a law. -/
def Src (w : World) (v : Value) (ps : List Ph) : Prop := (∃ a c, v = .slice a 0 c ∧ ps = []) ∨ ∃ b o c, v = .slice (some ⟨b, o, none⟩) ps.length c ∧ RecAt w b o ps ∧ b < w.heap.size ∧ ps.length ≤ maxLen
theorem Src.up {w w' : World} {v : Value} {ps : List Ph} (h : Src w v ps) (hb : Below w.heap.size w w') : Src w' v ps := by
  rcases h with h | ⟨b, o, c, rfl, hr, hlt, hl⟩
  · exact .inl h
  · exact .inr ⟨b, o, c, rfl, hr.up hb hlt, Nat.lt_of_lt_of_le hlt hb.size, hl⟩
/-- A recipe in a block of its own. -/
def Own (w : World) (b : Nat) (ps : List Ph) : Prop := RecAt w b 0 ps ∧ w.there b 0 (ps.length * 8) ∧ b < w.heap.size

theorem recAt_store {w1 : World} {b k : Nat} {ps : List Ph} (hk : k < ps.length) (h : RecAt w1 b 0 (ps.take k)) (ht : w1.there b 0 (ps.length * 8)) : RecAt (w1.setCells b (k * 8) (ps[k]).cells) b 0 (ps.take (k + 1)) := by
  intro i p hp
  by_cases hi : i < k
  · refine World.rangeAt_setCells_apart (h i p ?_) b (k * 8) _ (.inr (.inl ?_))
    · rw [List.getElem?_take] at hp ⊢; rw [if_pos (by omega)] at hp; rw [if_pos hi]; exact hp
    · simp [Ph.cells]; omega
  · have hik : i = k := by
      rw [List.getElem?_take] at hp
      split at hp
      · omega
      · cases hp
    subst hik
    rw [List.getElem?_take, if_pos (by omega), List.getElem?_eq_getElem hk] at hp
    obtain rfl := Option.some.inj hp
    rw [Nat.zero_add]
    refine World.rangeAt_setCells_same _ _ _ _ (fun j hj => ?_)
    have := ht (i * 8 + j) (by simp [Ph.cells] at hj; omega)
    simpa using this
theorem toS_nil (a : Option Addr) (c : Nat) (w : World) :
    Calls Tryz.prog 26 #[.slice a 0 c] w fun e w' => e = .returned (.slice (some ⟨w.heap.size, 0, none⟩) 0 0) ∧ Own w' w.heap.size [] ∧ Below w.heap.size w w' := by
  obtain ⟨C, hC, hmk⟩ := run_makePhases 0 (by omega)
  have HC : Hid (C.size = 0 * 8) := hC
  clear hC
  simp only [Int.natCast_zero] at hmk
  go_enter Tryz.func26, Tryz.ntmps26
  go_wp2
  go_rounds 1
  go_ret
  exact ⟨rfl, ⟨fun i p hp => by simp at hp, fun j hj => by simp at hj, by simp⟩, by go_grown⟩

set_option maxHeartbeats 1000000 in
theorem toS_any (ps : List Ph) (b o c : Nat) (w : World) (hr : RecAt w b o ps) (hb : b < w.heap.size) (hn : ps.length ≤ 1048576) :
    Calls Tryz.prog 26 #[.slice (some ⟨b, o, none⟩) ps.length c] w fun e w' => e = .returned (.slice (some ⟨w.heap.size, 0, none⟩) ps.length ps.length) ∧ Own w' w.heap.size ps ∧ Below w.heap.size w w' := by
  obtain ⟨C, hC, hmk⟩ := run_makePhases ps.length hn
  have HC : Hid (C.size = ps.length * 8) := hC
  clear hC
  go_enter Tryz.func26, Tryz.ntmps26
  go_wp2
  go_loopw [4] (fun i w' => ∃ k : Nat, k ≤ ps.length ∧ i = .int .i64 k ∧ RecAt w' w.heap.size 0 (ps.take k) ∧ w'.there w.heap.size 0 (ps.length * 8) ∧ w.heap.size < w'.heap.size ∧ Below w.heap.size w w') (fun i _ => ps.length - (intOf i).toNat)
  case atStart => exact ⟨0, by omega, rfl, fun i p hp => by simp at hp, by rw [← HC.out]; exact there_alloc _ _ _, by simp, by go_grown⟩
  case round =>
    obtain ⟨k, hk, rfl, hra, hth, hlt, hB⟩ := hrel
    have Hra : Hid (RecAt wr w.heap.size 0 (ps.take k)) := hra
    have Hth : Hid (wr.there w.heap.size 0 (ps.length * 8)) := hth
    clear hra hth
    by_cases hp : k < ps.length
    · obtain ⟨c0, c1, c2, c3, c4, c5, c6, c7⟩ := hr.cells k hp
      obtain ⟨hc, hf⟩ := bcell hB
      go_wp2_with fail
      refine (toPhase_any _ _ _ _ _ _ _ _ _).mono ?_
      rintro e' w1 ⟨rfl, hb1⟩
      clear hc hf c0 c1 c2 c3 c4 c5 c6 c7
      go_wp2_with (refine wpList_store_mid rfl 75 _ _ rfl w.heap.size (k * 8) _ rfl rfl (fun j hj => by
          have := there_up Hth.out hb1 hlt (k * 8 + j) (by simp at hj; omega)
          simpa using this) sizePhase (by simp [Value.oneCell']) ?_)
      go_roundw
      case rel => exact ⟨k + 1, by omega, by go_num, recAt_store hp (Hra.out.up hb1 hlt) (there_up Hth.out hb1 hlt), World.there_setCells (there_up Hth.out hb1 hlt) _ _ _, Nat.lt_of_lt_of_le (Nat.lt_of_lt_of_le hlt hb1.size) (size_setCells _ _ _ _), below_setCells _ _ _ _ _ _ (up_trans hB hb1) (Nat.le_refl _)⟩
      case measure => simp [intOf]; omega
    · go_wp2_with fail
      go_ret
      exact ⟨rfl, ⟨by have := Hra.out; rwa [List.take_of_length_le (by omega)] at this, Hth.out, hlt⟩, hB⟩

set_option maxHeartbeats 1000000 in
theorem eqPhase_any (nm : ByteArray) (k : Int) (a b : ByteArray) (n wi : Int) (t e : ByteArray) (w : World) :
    Calls Tryz.prog 85 #[.agg #[.string nm, .int .i64 k, .string a, .string b, .int .i64 n, .int .i64 wi, .string t, .string e], .agg #[.string nm, .int .i64 k, .string a, .string b, .int .i64 n, .int .i64 wi, .string t, .string e]] w fun e w' => e = .returned (.bool true) ∧ Below w.heap.size w w' := by
  go_enter Tryz.func85, Tryz.ntmps85
  go_wp2
  go_ret
  exact ⟨rfl, by go_grown⟩

set_option maxHeartbeats 1000000 in
theorem eqS_any (ps : List Ph) (b b2 cA cB : Nat) (w : World) (hr : RecAt w b 0 ps) (hb : b < w.heap.size) (hr2 : RecAt w b2 0 ps) (hb2 : b2 < w.heap.size) (hn : ps.length ≤ 1048576) :
    Calls Tryz.prog 29 #[.slice (some ⟨b, 0, none⟩) ps.length cA, .slice (some ⟨b2, 0, none⟩) ps.length cB] w fun e w' => e = .returned (.bool true) ∧ Below w.heap.size w w' := by
  go_enter Tryz.func29, Tryz.ntmps29
  go_wp2
  go_loopw [5] (fun i w' => ∃ k : Nat, k ≤ ps.length ∧ i = .int .i64 k ∧ Below w.heap.size w w') (fun i _ => ps.length - (intOf i).toNat)
  case atStart => exact ⟨0, by omega, rfl, Below.refl _ _⟩
  case round =>
    obtain ⟨k, hk, rfl, hB⟩ := hrel
    by_cases hp : k < ps.length
    · obtain ⟨c0, c1, c2, c3, c4, c5, c6, c7⟩ := hr.cells k hp
      obtain ⟨d0, d1, d2, d3, d4, d5, d6, d7⟩ := hr2.cells k hp
      simp only [Nat.zero_add] at c0 c1 c2 c3 c4 c5 c6 c7 d0 d1 d2 d3 d4 d5 d6 d7
      obtain ⟨hc, hf⟩ := bcell hB
      go_wp2_with fail
      go_region_with (go_at_call 85; refine (eqPhase_any _ _ _ _ _ _ _ _ _).mono ?_; rintro e w1 ⟨rfl, hb1⟩)
      all_goals
        have hB1 := up_trans hB.drew hb1
        clear hc hf c0 c1 c2 c3 c4 c5 c6 c7 d0 d1 d2 d3 d4 d5 d6 d7
        go_wp2_with fail
        go_roundw
        case rel => exact ⟨k + 1, by omega, by go_num, hB1⟩
        case measure => simp [intOf]; omega
    · go_wp2_with fail
      go_ret
      exact ⟨rfl, hB⟩
end Go.Proofs.YtkapodkidlgkjafGreatDoor
