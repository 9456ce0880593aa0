/- The laws' own helpers over a phase. -/
import Derived.Test.YtialglmnfchfmaeGreatDoorWa
import Derived.Test.YtialglmnfchfmaeGreatDoorGx
import Derived.Test.YtialglmnfchfmaeGreatDoorPr
import Derived.Deep.RegionWith
import Derived.Test.YtialglmnfchfmaeGreatDoorU1
import Derived.Test.YtialglmnfchfmaeGreatDoorU3
import Derived.Test.YtialglmnfchfmaeGreatDoorBy
import Derived.Laws.IdiomStrings
import Derived.Deep.RegionHeld
import Derived.Test.YtialglmnfchfmaeGreatDoorDq
namespace Go.Proofs.YtialglmnfchfmaeGreatDoor
open Go.RowKit

set_option maxHeartbeats 1000000 in
theorem toPhase_any (nm : ByteArray) (k : Int) (a b : ByteArray) (n wi : Int) (t e : ByteArray) (w : World) :
    Calls Tryz.prog 73 #[.agg #[.string nm, .int .i64 k, .string a, .string b, .int .i64 n, .int .i64 wi, .string t, .string e]] w fun e' w' => e' = .returned (.agg #[.string nm, .int .i64 k, .string a, .string b, .int .i64 n, .int .i64 wi, .string t, .string e]) ∧ Below w.heap.size w w' := by
  go_enter Tryz.func73, Tryz.ntmps73
  go_wp2
  go_returns
  exact ⟨rfl, by go_grown⟩

set_option maxHeartbeats 1000000 in
theorem szPhase_any (nm : ByteArray) (k : Int) (a b : ByteArray) (n wi : Int) (t e : ByteArray) (l : Int) (w : World) (hl : 0 ≤ l) (hl' : l ≤ 1048576) (hnm : nm.size ≤ maxLen) (ha : a.size ≤ maxLen) (hb : b.size ≤ maxLen) (ht : t.size ≤ maxLen) (he : e.size ≤ maxLen) :
    Calls Tryz.prog 62 #[.agg #[.string nm, .int .i64 k, .string a, .string b, .int .i64 n, .int .i64 wi, .string t, .string e], .int .i64 l] w
      fun e' w' => (∃ x : Int, e' = .returned (.int .i64 x) ∧ x ≤ l ∧ -1 ≤ x ∧ (0 ≤ x → nm.size + a.size + b.size + t.size + e.size ≤ l)) ∧ Below w.heap.size w w' := by
  unfold maxLen at *
  go_enter Tryz.func62, Tryz.ntmps62
  go_wp2
  all_goals
    go_ret
    exact ⟨⟨_, rfl, by omega, by omega, by omega⟩, (Below.refl _ _).alloc (Nat.le_refl _) _⟩

end Go.Proofs.YtialglmnfchfmaeGreatDoor

/- The laws' own helpers over recipes. -/
namespace Go.Proofs.YtialglmnfchfmaeGreatDoor
open Go.RowKit

theorem szS_nil (a : Option Addr) (c : Nat) (l : Int) (w : World) (hl : 0 ≤ l) (hl' : l ≤ 1048576) :
    Calls Tryz.prog 39 #[.slice a 0 c, .int .i64 l] w fun e' w' => e' = .returned (.int .i64 l) ∧ w' = w := by
  go_enter Tryz.func39, Tryz.ntmps39
  go_wp2
  go_rounds 1
  go_ret
  exact ⟨rfl, rfl⟩

set_option maxHeartbeats 1000000 in
theorem szS_any (ps : List Ph) (b o c : Nat) (l : Int) (w : World) (hl : 0 ≤ l) (hl' : l ≤ 1048576) (hr : RecAt w b o ps) (hb : b < w.heap.size) (hs : Sized ps) (hn : ps.length ≤ maxLen) :
    Calls Tryz.prog 39 #[.slice (some ⟨b, o, none⟩) ps.length c, .int .i64 l] w
      fun e' w' => (∃ x : Int, e' = .returned (.int .i64 x) ∧ (0 ≤ x → (ps.length : Int) ≤ l) ∧ x ≤ 1048576) ∧ Below w.heap.size w w' := by
  unfold maxLen at hn
  by_cases h0 : l - ps.length < 0
  · go_enter Tryz.func39, Tryz.ntmps39
    go_wp2
    go_ret
    exact ⟨⟨_, rfl, by omega, by omega⟩, Below.refl _ _⟩
  have H0 : Hid ((ps.length : Int) ≤ l) := by show _ ≤ _; omega
  go_enter Tryz.func39, Tryz.ntmps39
  go_wp2
  go_loopw [1, 5] (fun x i w' => ∃ (k : Nat) (y : Int), k ≤ ps.length ∧ i = .int .i64 k ∧ x = .int .i64 y ∧ 0 ≤ y ∧ y ≤ 1048576 ∧ Below w.heap.size w w') (fun _ i _ => ps.length - (intOf i).toNat)
  case atStart => exact ⟨0, _, by omega, rfl, rfl, by omega, by omega, Below.refl _ _⟩
  case round =>
    obtain ⟨k, y, hk, rfl, rfl, hy, hy', hB⟩ := hrel
    by_cases hp : k < ps.length
    · obtain ⟨c0, c1, c2, c3, c4, c5, c6, c7⟩ := hr.cells k hp
      obtain ⟨z0, z1, z2, z3, z4⟩ := hs ps[k] (by simp)
      obtain ⟨hc, hf⟩ := bcell hB
      go_wp2_with fail
      refine (szPhase_any _ _ _ _ _ _ _ _ _ _ hy hy' z0 z1 z2 z3 z4).mono ?_
      rintro e' w1 ⟨⟨x, rfl, hx1, -, -⟩, hb1⟩
      have hB1 := up_trans hB hb1
      by_cases hx : x < 0
      · go_wp2_with fail
        go_ret
        exact ⟨⟨_, rfl, by omega, by omega⟩, hB1⟩
      · go_wp2_with fail
        go_roundw
        case rel => exact ⟨k + 1, x, by omega, by go_num, rfl, by omega, by omega, hB1⟩
        case measure => simp [intOf]; omega
    · go_wp2_with fail
      go_ret
      exact ⟨⟨_, rfl, fun _ => H0.out, hy'⟩, hB⟩

theorem infoPhase : (Tryz.prog.info? 115).map (fun i => (i.zero, i.size, i.bytes)) = some (some (.agg #[.string ⟨#[]⟩, .int .i64 0, .string ⟨#[]⟩, .string ⟨#[]⟩, .int .i64 0, .int .i64 0, .string ⟨#[]⟩, .string ⟨#[]⟩]), 8, 104) := by kernel_rfl
theorem sizePhase : (Tryz.prog.info? 115).map (·.size) = some 8 := by kernel_rfl

/-- A new slice of phases. -/
theorem run_makePhases (n : Nat) (hn : n ≤ 1048576) : ∃ C : Array Value, C.size = n * 8 ∧ ∀ w, (Instr.makeSlice 47 (.int .i64 (n : Int)) (.int .i64 (n : Int))).run Tryz.prog w = .ok (.slice (some ⟨w.heap.size, 0, none⟩) n n) (w.alloc (.cells C 115)) := by
  obtain ⟨i, hi, hz⟩ := Option.map_eq_some_iff.1 infoPhase
  simp only [Prod.mk.injEq] at hz
  obtain ⟨hz, hs, hb⟩ := hz
  refine ⟨madeCells (Value.agg #[.string ⟨#[]⟩, .int .i64 0, .string ⟨#[]⟩, .string ⟨#[]⟩, .int .i64 0, .int .i64 0, .string ⟨#[]⟩, .string ⟨#[]⟩]).cells (n * 8), size_madeCells _ _, fun w => ?_⟩
  have := run_make (P := Tryz.prog) w 47 115 i _ Tryz.underlying47 hi hz .i64 .i64 (n : Int) (n : Int) (by omega) (by omega) (by rw [hb]; omega) (by omega)
  simp only [Int.toNat_natCast, hs] at this
  exact this

/-- What the slice of phases is that is handed to a law. -/
def Src (w : World) (v : Value) (ps : List Ph) : Prop := (∃ a c, v = .slice a 0 c ∧ ps = []) ∨ ∃ b o c, v = .slice (some ⟨b, o, none⟩) ps.length c ∧ RecAt w b o ps ∧ b < w.heap.size ∧ ps.length ≤ maxLen
theorem Src.up {w w' : World} {v : Value} {ps : List Ph} (h : Src w v ps) (hb : Below w.heap.size w w') : Src w' v ps := by
  rcases h with h | ⟨b, o, c, rfl, hr, hlt, hl⟩
  · exact .inl h
  · exact .inr ⟨b, o, c, rfl, hr.up hb hlt, Nat.lt_of_lt_of_le hlt hb.size, hl⟩
/-- A recipe in a block of its own. -/
def Own (w : World) (b : Nat) (ps : List Ph) : Prop := RecAt w b 0 ps ∧ w.there b 0 (ps.length * 8) ∧ b < w.heap.size

theorem recAt_store {w1 : World} {b k : Nat} {ps : List Ph} (hk : k < ps.length) (h : RecAt w1 b 0 (ps.take k)) (ht : w1.there b 0 (ps.length * 8)) : RecAt (w1.setCells b (k * 8) (ps[k]).cells) b 0 (ps.take (k + 1)) := by
  intro i p hp
  by_cases hi : i < k
  · refine World.rangeAt_setCells_apart (h i p ?_) b (k * 8) _ (.inr (.inl ?_))
    · rw [List.getElem?_take] at hp ⊢; rw [if_pos (by omega)] at hp; rw [if_pos hi]; exact hp
    · simp [Ph.cells]; omega
  · have hik : i = k := by
      rw [List.getElem?_take] at hp
      split at hp
      · omega
      · cases hp
    subst hik
    rw [List.getElem?_take, if_pos (by omega), List.getElem?_eq_getElem hk] at hp
    obtain rfl := Option.some.inj hp
    rw [Nat.zero_add]
    refine World.rangeAt_setCells_same _ _ _ _ (fun j hj => ?_)
    have := ht (i * 8 + j) (by simp [Ph.cells] at hj; omega)
    simpa using this
theorem toS_nil (a : Option Addr) (c : Nat) (w : World) :
    Calls Tryz.prog 44 #[.slice a 0 c] w fun e w' => e = .returned (.slice (some ⟨w.heap.size, 0, none⟩) 0 0) ∧ Own w' w.heap.size [] ∧ Below w.heap.size w w' := by
  obtain ⟨C, hC, hmk⟩ := run_makePhases 0 (by omega)
  have HC : Hid (C.size = 0 * 8) := hC
  clear hC
  simp only [Int.natCast_zero] at hmk
  go_enter Tryz.func44, Tryz.ntmps44
  go_wp2
  go_rounds 1
  go_ret
  exact ⟨rfl, ⟨fun i p hp => by simp at hp, fun j hj => by simp at hj, by simp⟩, by go_grown⟩

set_option maxHeartbeats 1000000 in
theorem toS_any (ps : List Ph) (b o c : Nat) (w : World) (hr : RecAt w b o ps) (hb : b < w.heap.size) (hn : ps.length ≤ 1048576) :
    Calls Tryz.prog 44 #[.slice (some ⟨b, o, none⟩) ps.length c] w fun e w' => e = .returned (.slice (some ⟨w.heap.size, 0, none⟩) ps.length ps.length) ∧ Own w' w.heap.size ps ∧ Below w.heap.size w w' := by
  obtain ⟨C, hC, hmk⟩ := run_makePhases ps.length hn
  have HC : Hid (C.size = ps.length * 8) := hC
  clear hC
  go_enter Tryz.func44, Tryz.ntmps44
  go_wp2
  go_loopw [4] (fun i w' => ∃ k : Nat, k ≤ ps.length ∧ i = .int .i64 k ∧ RecAt w' w.heap.size 0 (ps.take k) ∧ w'.there w.heap.size 0 (ps.length * 8) ∧ w.heap.size < w'.heap.size ∧ Below w.heap.size w w') (fun i _ => ps.length - (intOf i).toNat)
  case atStart => exact ⟨0, by omega, rfl, fun i p hp => by simp at hp, by rw [← HC.out]; exact there_alloc _ _ _, by simp, by go_grown⟩
  case round =>
    obtain ⟨k, hk, rfl, hra, hth, hlt, hB⟩ := hrel
    have Hra : Hid (RecAt wr w.heap.size 0 (ps.take k)) := hra
    have Hth : Hid (wr.there w.heap.size 0 (ps.length * 8)) := hth
    clear hra hth
    by_cases hp : k < ps.length
    · obtain ⟨c0, c1, c2, c3, c4, c5, c6, c7⟩ := hr.cells k hp
      obtain ⟨hc, hf⟩ := bcell hB
      go_wp2_with fail
      refine (toPhase_any _ _ _ _ _ _ _ _ _).mono ?_
      rintro e' w1 ⟨rfl, hb1⟩
      clear hc hf c0 c1 c2 c3 c4 c5 c6 c7
      go_wp2_with (refine wpList_store_mid rfl 115 _ _ rfl w.heap.size (k * 8) _ rfl rfl (fun j hj => by
          have := there_up Hth.out hb1 hlt (k * 8 + j) (by simp at hj; omega)
          simpa using this) sizePhase (by simp [Value.oneCell']) ?_)
      go_roundw
      case rel => exact ⟨k + 1, by omega, by go_num, recAt_store hp (Hra.out.up hb1 hlt) (there_up Hth.out hb1 hlt), World.there_setCells (there_up Hth.out hb1 hlt) _ _ _, Nat.lt_of_lt_of_le (Nat.lt_of_lt_of_le hlt hb1.size) (size_setCells _ _ _ _), below_setCells _ _ _ _ _ _ (up_trans hB hb1) (Nat.le_refl _)⟩
      case measure => simp [intOf]; omega
    · go_wp2_with fail
      go_ret
      exact ⟨rfl, ⟨by have := Hra.out; rwa [List.take_of_length_le (by omega)] at this, Hth.out, hlt⟩, hB⟩

set_option maxHeartbeats 1000000 in
theorem eqPhase_any (nm : ByteArray) (k : Int) (a b : ByteArray) (n wi : Int) (t e : ByteArray) (w : World) :
    Calls Tryz.prog 86 #[.agg #[.string nm, .int .i64 k, .string a, .string b, .int .i64 n, .int .i64 wi, .string t, .string e], .agg #[.string nm, .int .i64 k, .string a, .string b, .int .i64 n, .int .i64 wi, .string t, .string e]] w fun e w' => e = .returned (.bool true) ∧ Below w.heap.size w w' := by
  go_enter Tryz.func86, Tryz.ntmps86
  go_wp2
  go_ret
  exact ⟨rfl, by go_grown⟩

set_option maxHeartbeats 1000000 in
theorem eqS_any (ps : List Ph) (b b2 cA cB : Nat) (w : World) (hr : RecAt w b 0 ps) (hb : b < w.heap.size) (hr2 : RecAt w b2 0 ps) (hb2 : b2 < w.heap.size) (hn : ps.length ≤ 1048576) :
    Calls Tryz.prog 50 #[.slice (some ⟨b, 0, none⟩) ps.length cA, .slice (some ⟨b2, 0, none⟩) ps.length cB] w fun e w' => e = .returned (.bool true) ∧ Below w.heap.size w w' := by
  go_enter Tryz.func50, Tryz.ntmps50
  go_wp2
  go_loopw [5] (fun i w' => ∃ k : Nat, k ≤ ps.length ∧ i = .int .i64 k ∧ Below w.heap.size w w') (fun i _ => ps.length - (intOf i).toNat)
  case atStart => exact ⟨0, by omega, rfl, Below.refl _ _⟩
  case round =>
    obtain ⟨k, hk, rfl, hB⟩ := hrel
    by_cases hp : k < ps.length
    · obtain ⟨c0, c1, c2, c3, c4, c5, c6, c7⟩ := hr.cells k hp
      obtain ⟨d0, d1, d2, d3, d4, d5, d6, d7⟩ := hr2.cells k hp
      simp only [Nat.zero_add] at c0 c1 c2 c3 c4 c5 c6 c7 d0 d1 d2 d3 d4 d5 d6 d7
      obtain ⟨hc, hf⟩ := bcell hB
      go_wp2_with fail
      go_region_with (go_at_call 86; refine (eqPhase_any _ _ _ _ _ _ _ _ _).mono ?_; rintro e w1 ⟨rfl, hb1⟩)
      all_goals
        have hB1 := up_trans hB.drew hb1
        clear hc hf c0 c1 c2 c3 c4 c5 c6 c7 d0 d1 d2 d3 d4 d5 d6 d7
        go_wp2_with fail
        go_roundw
        case rel => exact ⟨k + 1, by omega, by go_num, hB1⟩
        case measure => simp [intOf]; omega
    · go_wp2_with fail
      go_ret
      exact ⟨rfl, hB⟩
end Go.Proofs.YtialglmnfchfmaeGreatDoor

/- The laws' helpers over what is handed to them. -/
namespace Go.Proofs.YtialglmnfchfmaeGreatDoor
open Go.RowKit

theorem szS_src (ps : List Ph) (v : Value) (w : World) (h : Src w v ps) (hs : Sized ps) :
    Calls Tryz.prog 39 #[v, .int .i64 1048576] w fun e' w' => (∃ x : Int, e' = .returned (.int .i64 x) ∧ (0 ≤ x → ps.length ≤ 1048576)) ∧ Below w.heap.size w w' := by
  rcases h with ⟨a, c, rfl, rfl⟩ | ⟨b, o, c, rfl, hr, hb, hl⟩
  · refine (szS_nil a c _ w (by omega) (by omega)).mono fun e w' ⟨he, hw⟩ => ?_
    subst hw
    exact ⟨⟨_, he, fun _ => by simp⟩, Below.refl _ _⟩
  · refine (szS_any ps b o c _ w (by omega) (by omega) hr hb hs hl).mono fun e w' ⟨⟨x, he, hx, _⟩, hB⟩ => ?_
    exact ⟨⟨x, he, fun h => by have := hx h; omega⟩, hB⟩
theorem toS_src (ps : List Ph) (v : Value) (w : World) (h : Src w v ps) (hn : ps.length ≤ 1048576) :
    Calls Tryz.prog 44 #[v] w fun e w' => (∃ b, e = .returned (.slice (some ⟨b, 0, none⟩) ps.length ps.length) ∧ Own w' b ps ∧ w.heap.size ≤ b) ∧ Below w.heap.size w w' := by
  rcases h with ⟨a, c, rfl, rfl⟩ | ⟨b, o, c, rfl, hr, hb, hl⟩
  · exact (toS_nil a c w).mono fun e w' ⟨he, ho, hB⟩ => ⟨⟨_, he, ho, Nat.le_refl _⟩, hB⟩
  · exact (toS_any ps b o c w hr hb hn).mono fun e w' ⟨he, ho, hB⟩ => ⟨⟨_, he, ho, Nat.le_refl _⟩, hB⟩
theorem Own.up {w w' : World} {b : Nat} {ps : List Ph} (h : Own w b ps) (hb : Below w.heap.size w w') : Own w' b ps :=
  ⟨h.1.up hb h.2.2, there_up h.2.1 hb h.2.2, Nat.lt_of_lt_of_le h.2.2 hb.size⟩
end Go.Proofs.YtialglmnfchfmaeGreatDoor

/- The laws' own helpers over slots of batches. -/
namespace Go.Proofs.YtialglmnfchfmaeGreatDoor
open Go.RowKit

/-- What the slice of slots is that is handed to a law. -/
def SlSrc (w : World) (v : Value) (l : List Sl) : Prop := (∃ a c, v = .slice a 0 c ∧ l = []) ∨ ∃ b o c, v = .slice (some ⟨b, o, none⟩) l.length c ∧ SlAt w b o l ∧ b < w.heap.size ∧ l.length ≤ maxLen
theorem SlSrc.up {w w' : World} {v : Value} {l : List Sl} (h : SlSrc w v l) (hb : Below w.heap.size w w') : SlSrc w' v l := by
  rcases h with h | ⟨b, o, c, rfl, hr, hlt, hl⟩
  · exact .inl h
  · exact .inr ⟨b, o, c, rfl, hr.up hb hlt, Nat.lt_of_lt_of_le hlt hb.size, hl⟩
theorem SlSrc.shape {w : World} {v : Value} {l : List Sl} (h : SlSrc w v l) : ∃ a c, v = .slice a l.length c := by
  rcases h with ⟨a, c, rfl, rfl⟩ | ⟨b, o, c, rfl, _⟩
  · exact ⟨a, c, rfl⟩
  · exact ⟨_, _, rfl⟩
theorem Src.shape {w : World} {v : Value} {ps : List Ph} (h : Src w v ps) : ∃ a c, v = .slice a ps.length c := by
  rcases h with ⟨a, c, rfl, rfl⟩ | ⟨b, o, c, rfl, _⟩
  · exact ⟨a, c, rfl⟩
  · exact ⟨_, _, rfl⟩
def SlZ (l : List Sl) : Prop := ∀ y ∈ l, y.s.size ≤ maxLen ∧ y.t.size ≤ maxLen
/-- Slots in a block of their own. -/
def OwnSl (w : World) (b : Nat) (l : List Sl) : Prop := SlAt w b 0 l ∧ w.there b 0 (l.length * 2) ∧ b < w.heap.size
theorem OwnSl.up {w w' : World} {b : Nat} {l : List Sl} (h : OwnSl w b l) (hb : Below w.heap.size w w') : OwnSl w' b l :=
  ⟨h.1.up hb h.2.2, there_up h.2.1 hb h.2.2, Nat.lt_of_lt_of_le h.2.2 hb.size⟩

theorem szSlot_any (x : Sl) (l : Int) (w : World) (hl : 0 ≤ l) (hl' : l ≤ 1048576) (hs : x.s.size ≤ maxLen) (ht : x.t.size ≤ maxLen) :
    Calls Tryz.prog 63 #[.agg #[.string x.s, .string x.t], .int .i64 l] w fun e' w' => (∃ y : Int, e' = .returned (.int .i64 y) ∧ y ≤ l ∧ -1 ≤ y) ∧ Below w.heap.size w w' := by
  unfold maxLen at *
  go_enter Tryz.func63, Tryz.ntmps63
  go_wp2
  all_goals
    go_ret
    exact ⟨⟨_, rfl, by omega, by omega⟩, (Below.refl _ _).alloc (Nat.le_refl _) _⟩
theorem szSlots_nil (a : Option Addr) (c : Nat) (l : Int) (w : World) (hl : 0 ≤ l) (hl' : l ≤ 1048576) :
    Calls Tryz.prog 40 #[.slice a 0 c, .int .i64 l] w fun e' w' => e' = .returned (.int .i64 l) ∧ w' = w := by
  go_enter Tryz.func40, Tryz.ntmps40
  go_wp2
  go_rounds 1
  go_ret
  exact ⟨rfl, rfl⟩
set_option maxHeartbeats 1000000 in
theorem szSlots_any (ls : List Sl) (b o c : Nat) (l : Int) (w : World) (hl : 0 ≤ l) (hl' : l ≤ 1048576) (hr : SlAt w b o ls) (hb : b < w.heap.size) (hs : SlZ ls) (hn : ls.length ≤ maxLen) :
    Calls Tryz.prog 40 #[.slice (some ⟨b, o, none⟩) ls.length c, .int .i64 l] w
      fun e' w' => (∃ x : Int, e' = .returned (.int .i64 x) ∧ (0 ≤ x → (ls.length : Int) ≤ l) ∧ x ≤ 1048576) ∧ Below w.heap.size w w' := by
  unfold maxLen at hn
  by_cases h0 : l - ls.length < 0
  · go_enter Tryz.func40, Tryz.ntmps40
    go_wp2
    go_ret
    exact ⟨⟨_, rfl, by omega, by omega⟩, Below.refl _ _⟩
  have H0 : Hid ((ls.length : Int) ≤ l) := by show _ ≤ _; omega
  go_enter Tryz.func40, Tryz.ntmps40
  go_wp2
  go_loopw [1, 5] (fun x i w' => ∃ (k : Nat) (y : Int), k ≤ ls.length ∧ i = .int .i64 k ∧ x = .int .i64 y ∧ 0 ≤ y ∧ y ≤ 1048576 ∧ Below w.heap.size w w') (fun _ i _ => ls.length - (intOf i).toNat)
  case atStart => exact ⟨0, _, by omega, rfl, rfl, by omega, by omega, Below.refl _ _⟩
  case round =>
    obtain ⟨k, y, hk, rfl, rfl, hy, hy', hB⟩ := hrel
    by_cases hp : k < ls.length
    · obtain ⟨c0, c1⟩ := hr.cells k hp
      obtain ⟨z0, z1⟩ := hs ls[k] (by simp)
      obtain ⟨hc, hf⟩ := bcell hB
      generalize ls[k] = s0 at *
      go_wp2_with fail
      refine (szSlot_any s0 _ _ hy hy' z0 z1).mono ?_
      rintro e' w1 ⟨⟨x, rfl, hx1, -⟩, hb1⟩
      have hB1 := up_trans hB hb1
      by_cases hx : x < 0
      · go_wp2_with fail
        go_ret
        exact ⟨⟨_, rfl, by omega, by omega⟩, hB1⟩
      · go_wp2_with fail
        go_roundw
        case rel => exact ⟨k + 1, x, by omega, by go_num, rfl, by omega, by omega, hB1⟩
        case measure => simp [intOf]; omega
    · go_wp2_with fail
      go_ret
      exact ⟨⟨_, rfl, fun _ => H0.out, hy'⟩, hB⟩
theorem szSlots_src (ls : List Sl) (v : Value) (l : Int) (w : World) (hl : 0 ≤ l) (hl' : l ≤ 1048576) (h : SlSrc w v ls) (hs : SlZ ls) :
    Calls Tryz.prog 40 #[v, .int .i64 l] w fun e' w' => (∃ x : Int, e' = .returned (.int .i64 x) ∧ (0 ≤ x → (ls.length : Int) ≤ l) ∧ x ≤ 1048576) ∧ Below w.heap.size w w' := by
  rcases h with ⟨a, c, rfl, rfl⟩ | ⟨b, o, c, rfl, hr, hb, hn⟩
  · refine (szSlots_nil a c _ w hl hl').mono fun e w' ⟨he, hw⟩ => ?_
    subst hw
    exact ⟨⟨_, he, fun _ => by simpa using hl, hl'⟩, Below.refl _ _⟩
  · exact szSlots_any ls b o c l w hl hl' hr hb hs hn
theorem szS_src2 (ps : List Ph) (v : Value) (l : Int) (w : World) (hl : 0 ≤ l) (hl' : l ≤ 1048576) (h : Src w v ps) (hs : Sized ps) :
    Calls Tryz.prog 39 #[v, .int .i64 l] w fun e' w' => (∃ x : Int, e' = .returned (.int .i64 x) ∧ (0 ≤ x → (ps.length : Int) ≤ l) ∧ x ≤ 1048576) ∧ Below w.heap.size w w' := by
  rcases h with ⟨a, c, rfl, rfl⟩ | ⟨b, o, c, rfl, hr, hb, hn⟩
  · refine (szS_nil a c _ w hl hl').mono fun e w' ⟨he, hw⟩ => ?_
    subst hw
    exact ⟨⟨_, he, fun _ => by simpa using hl, hl'⟩, Below.refl _ _⟩
  · exact szS_any ps b o c l w hl hl' hr hb hs hn

theorem infoSlot : (Tryz.prog.info? 121).map (fun i => (i.zero, i.size, i.bytes)) = some (some (.agg #[.string ⟨#[]⟩, .string ⟨#[]⟩]), 2, 32) := by kernel_rfl
theorem sizeSlot : (Tryz.prog.info? 121).map (·.size) = some 2 := by kernel_rfl
theorem run_makeSlots (n : Nat) (hn : n ≤ 1048576) : ∃ C : Array Value, C.size = n * 2 ∧ ∀ w, (Instr.makeSlice 48 (.int .i64 (n : Int)) (.int .i64 (n : Int))).run Tryz.prog w = .ok (.slice (some ⟨w.heap.size, 0, none⟩) n n) (w.alloc (.cells C 121)) := by
  obtain ⟨i, hi, hz⟩ := Option.map_eq_some_iff.1 infoSlot
  simp only [Prod.mk.injEq] at hz
  obtain ⟨hz, hs, hb⟩ := hz
  refine ⟨madeCells (Value.agg #[.string ⟨#[]⟩, .string ⟨#[]⟩]).cells (n * 2), size_madeCells _ _, fun w => ?_⟩
  have := run_make (P := Tryz.prog) w 48 121 i _ Tryz.underlying48 hi hz .i64 .i64 (n : Int) (n : Int) (by omega) (by omega) (by rw [hb]; omega) (by omega)
  simp only [Int.toNat_natCast, hs] at this
  exact this
theorem slAt_store {w1 : World} {b k : Nat} {l : List Sl} (hk : k < l.length) (h : SlAt w1 b 0 (l.take k)) (ht : w1.there b 0 (l.length * 2)) : SlAt (w1.setCells b (k * 2) (l[k]).cells) b 0 (l.take (k + 1)) := by
  intro i p hp
  by_cases hi : i < k
  · refine World.rangeAt_setCells_apart (h i p ?_) b (k * 2) _ (.inr (.inl ?_))
    · rw [List.getElem?_take] at hp ⊢; rw [if_pos (by omega)] at hp; rw [if_pos hi]; exact hp
    · simp [Sl.cells]; omega
  · have hik : i = k := by
      rw [List.getElem?_take] at hp
      split at hp
      · omega
      · cases hp
    subst hik
    rw [List.getElem?_take, if_pos (by omega), List.getElem?_eq_getElem hk] at hp
    obtain rfl := Option.some.inj hp
    rw [Nat.zero_add]
    refine World.rangeAt_setCells_same _ _ _ _ (fun j hj => ?_)
    have := ht (i * 2 + j) (by simp [Sl.cells] at hj; omega)
    simpa using this
theorem toSlot_any (x : Sl) (w : World) : Calls Tryz.prog 74 #[.agg #[.string x.s, .string x.t]] w fun e' w' => e' = .returned (.agg #[.string x.s, .string x.t]) ∧ Below w.heap.size w w' := by
  go_enter Tryz.func74, Tryz.ntmps74
  go_wp2
  go_returns
  exact ⟨rfl, by go_grown⟩
theorem toSlots_nil (a : Option Addr) (c : Nat) (w : World) :
    Calls Tryz.prog 45 #[.slice a 0 c] w fun e w' => e = .returned (.slice (some ⟨w.heap.size, 0, none⟩) 0 0) ∧ OwnSl w' w.heap.size [] ∧ Below w.heap.size w w' := by
  obtain ⟨C, hC, hmk⟩ := run_makeSlots 0 (by omega)
  have HC : Hid (C.size = 0 * 2) := hC
  clear hC
  simp only [Int.natCast_zero] at hmk
  go_enter Tryz.func45, Tryz.ntmps45
  go_wp2
  go_rounds 1
  go_ret
  exact ⟨rfl, ⟨fun i p hp => by simp at hp, fun j hj => by simp at hj, by simp⟩, by go_grown⟩
set_option maxHeartbeats 1000000 in
theorem toSlots_any (l : List Sl) (b o c : Nat) (w : World) (hr : SlAt w b o l) (hb : b < w.heap.size) (hn : l.length ≤ 1048576) :
    Calls Tryz.prog 45 #[.slice (some ⟨b, o, none⟩) l.length c] w fun e w' => e = .returned (.slice (some ⟨w.heap.size, 0, none⟩) l.length l.length) ∧ OwnSl w' w.heap.size l ∧ Below w.heap.size w w' := by
  obtain ⟨C, hC, hmk⟩ := run_makeSlots l.length hn
  have HC : Hid (C.size = l.length * 2) := hC
  clear hC
  go_enter Tryz.func45, Tryz.ntmps45
  go_wp2
  go_loopw [4] (fun i w' => ∃ k : Nat, k ≤ l.length ∧ i = .int .i64 k ∧ SlAt w' w.heap.size 0 (l.take k) ∧ w'.there w.heap.size 0 (l.length * 2) ∧ w.heap.size < w'.heap.size ∧ Below w.heap.size w w') (fun i _ => l.length - (intOf i).toNat)
  case atStart => exact ⟨0, by omega, rfl, fun i p hp => by simp at hp, by rw [← HC.out]; exact there_alloc _ _ _, by simp, by go_grown⟩
  case round =>
    obtain ⟨k, hk, rfl, hra, hth, hlt, hB⟩ := hrel
    have Hra : Hid (SlAt wr w.heap.size 0 (l.take k)) := hra
    have Hth : Hid (wr.there w.heap.size 0 (l.length * 2)) := hth
    clear hra hth
    by_cases hp : k < l.length
    · obtain ⟨c0, c1⟩ := hr.cells k hp
      obtain ⟨hc, hf⟩ := bcell hB
      have Hst : Hid (∀ w1, Below wr.heap.size wr w1 → SlAt (w1.setCells w.heap.size (k * 2) (l[k]).cells) w.heap.size 0 (l.take (k + 1))) := fun w1 hb1 => slAt_store hp (Hra.out.up hb1 hlt) (there_up Hth.out hb1 hlt)
      generalize l[k] = s0 at *
      go_wp2_with fail
      refine (toSlot_any s0 _).mono ?_
      rintro e' w1 ⟨rfl, hb1⟩
      clear hc hf c0 c1
      go_wp2_with (refine wpList_store_mid rfl 121 _ _ rfl w.heap.size (k * 2) _ rfl rfl (fun j hj => by
          have := there_up Hth.out hb1 hlt (k * 2 + j) (by simp at hj; omega)
          simpa using this) sizeSlot (by simp [Value.oneCell']) ?_)
      go_roundw
      case rel => exact ⟨k + 1, by omega, by go_num, Hst.out w1 hb1, World.there_setCells (there_up Hth.out hb1 hlt) _ _ _, Nat.lt_of_lt_of_le (Nat.lt_of_lt_of_le hlt hb1.size) (size_setCells _ _ _ _), below_setCells _ _ _ _ _ _ (up_trans hB hb1) (Nat.le_refl _)⟩
      case measure => simp [intOf]; omega
    · go_wp2_with fail
      go_ret
      exact ⟨rfl, ⟨by have := Hra.out; rwa [List.take_of_length_le (by omega)] at this, Hth.out, hlt⟩, hB⟩
theorem toSlots_src (l : List Sl) (v : Value) (w : World) (h : SlSrc w v l) (hn : l.length ≤ 1048576) :
    Calls Tryz.prog 45 #[v] w fun e w' => (∃ b, e = .returned (.slice (some ⟨b, 0, none⟩) l.length l.length) ∧ OwnSl w' b l ∧ w.heap.size ≤ b) ∧ Below w.heap.size w w' := by
  rcases h with ⟨a, c, rfl, rfl⟩ | ⟨b, o, c, rfl, hr, hb, hl⟩
  · exact (toSlots_nil a c w).mono fun e w' ⟨he, ho, hB⟩ => ⟨⟨_, he, ho, Nat.le_refl _⟩, hB⟩
  · exact (toSlots_any l b o c w hr hb hn).mono fun e w' ⟨he, ho, hB⟩ => ⟨⟨_, he, ho, Nat.le_refl _⟩, hB⟩
theorem eqSlot_any (x : Sl) (w : World) : Calls Tryz.prog 87 #[.agg #[.string x.s, .string x.t], .agg #[.string x.s, .string x.t]] w fun e w' => e = .returned (.bool true) ∧ Below w.heap.size w w' := by
  go_enter Tryz.func87, Tryz.ntmps87
  go_wp2
  go_ret
  exact ⟨rfl, by go_grown⟩
set_option maxHeartbeats 1000000 in
theorem eqSlots_any (l : List Sl) (b b2 cA cB : Nat) (w : World) (hr : SlAt w b 0 l) (hb : b < w.heap.size) (hr2 : SlAt w b2 0 l) (hb2 : b2 < w.heap.size) (hn : l.length ≤ 1048576) :
    Calls Tryz.prog 51 #[.slice (some ⟨b, 0, none⟩) l.length cA, .slice (some ⟨b2, 0, none⟩) l.length cB] w fun e w' => e = .returned (.bool true) ∧ Below w.heap.size w w' := by
  go_enter Tryz.func51, Tryz.ntmps51
  go_wp2
  go_loopw [5] (fun i w' => ∃ k : Nat, k ≤ l.length ∧ i = .int .i64 k ∧ Below w.heap.size w w') (fun i _ => l.length - (intOf i).toNat)
  case atStart => exact ⟨0, by omega, rfl, Below.refl _ _⟩
  case round =>
    obtain ⟨k, hk, rfl, hB⟩ := hrel
    by_cases hp : k < l.length
    · obtain ⟨c0, c1⟩ := hr.cells k hp
      obtain ⟨d0, d1⟩ := hr2.cells k hp
      simp only [Nat.zero_add] at c0 c1 d0 d1
      obtain ⟨hc, hf⟩ := bcell hB
      generalize l[k] = s0 at *
      go_wp2_with fail
      go_region_with (go_at_call 87; refine (eqSlot_any s0 _).mono ?_; rintro e w1 ⟨rfl, hb1⟩)
      all_goals
        have hB1 := up_trans hB.drew hb1
        clear hc hf c0 c1 d0 d1
        go_wp2_with fail
        go_roundw
        case rel => exact ⟨k + 1, by omega, by go_num, hB1⟩
        case measure => simp [intOf]; omega
    · go_wp2_with fail
      go_ret
      exact ⟨rfl, hB⟩
end Go.Proofs.YtialglmnfchfmaeGreatDoor

/- The laws' own helpers over batches: sizes, copies, held against each other. -/
namespace Go.Proofs.YtialglmnfchfmaeGreatDoor
open Go.RowKit

theorem CB.copy6 {w : World} {b : Nat} {y0 y1 y2 y3 y4 y5 : Value} (h : CB w b [y0, y1, y2, y3, y4, y5]) (x0 x1 x2 x3 x4 x5 : Value) :
    CB ((((((w.setCell ⟨b, 0, none⟩ x0).setCell ⟨b, 1, none⟩ x1).setCell ⟨b, 2, none⟩ x2).setCell ⟨b, 3, none⟩ x3).setCell ⟨b, 4, none⟩ x4).setCell ⟨b, 5, none⟩ x5) b [x0, x1, x2, x3, x4, x5] := h.copy [x0, x1, x2, x3, x4, x5] rfl
theorem CB.f6 {w : World} {b : Nat} {x0 x1 x2 x3 x4 x5 : Value} (h : CB w b [x0, x1, x2, x3, x4, x5]) :
    w.frozen? ⟨b, 0, none⟩ = false ∧ w.frozen? ⟨b, 1, none⟩ = false ∧ w.frozen? ⟨b, 2, none⟩ = false ∧ w.frozen? ⟨b, 3, none⟩ = false ∧ w.frozen? ⟨b, 4, none⟩ = false ∧ w.frozen? ⟨b, 5, none⟩ = false :=
  ⟨(h.2.1 0 (by simp)).2, (h.2.1 1 (by simp)).2, (h.2.1 2 (by simp)).2, (h.2.1 3 (by simp)).2, (h.2.1 4 (by simp)).2, (h.2.1 5 (by simp)).2⟩
theorem end_cb6 {P : Program} {fn : Func} {q : Tmp} {T : TypeId} (h : fn.results = #[.cell q T]) {d : TypeDesc} (hu : P.underlying T = some d) (hd : d.isRow = true) (hi : (P.info? T).map (·.size) = some 6) {R : Ending → World → Prop} {tmps : Array Value} {w : World} {rk : Nat} {y0 y1 y2 y3 y4 y5 x0 x1 x2 x3 x4 x5 : Value}
    (k : CB w rk [y0, y1, y2, y3, y4, y5]) (ht : tmps.getD q undef = .pointer (some ⟨rk, 0, none⟩)) (hR : R (.returned (.agg #[x0, x1, x2, x3, x4, x5])) ((((((w.setCell ⟨rk, 0, none⟩ x0).setCell ⟨rk, 1, none⟩ x1).setCell ⟨rk, 2, none⟩ x2).setCell ⟨rk, 3, none⟩ x3).setCell ⟨rk, 4, none⟩ x4).setCell ⟨rk, 5, none⟩ x5)) :
    bodyPost P fn R .ret { tmps := tmps, defers := [] } ((((((w.setCell ⟨rk, 0, none⟩ x0).setCell ⟨rk, 1, none⟩ x1).setCell ⟨rk, 2, none⟩ x2).setCell ⟨rk, 3, none⟩ x3).setCell ⟨rk, 4, none⟩ x4).setCell ⟨rk, 5, none⟩ x5) :=
  bodyPost_ret (ret_cb (cs := [x0, x1, x2, x3, x4, x5]) h hu hd hi ht (k.copy6 x0 x1 x2 x3 x4 x5)) rfl hR
theorem k12_drew {W w0 : World} {q r : Nat} {x0 x1 x2 x3 x4 x5 x6 x7 x8 x9 x10 x11 : Value} (h : Below W.heap.size W w0 ∧ w0.cell? ⟨q, 0, none⟩ = some x0 ∧ w0.cell? ⟨q, 1, none⟩ = some x1 ∧ w0.cell? ⟨q, 2, none⟩ = some x2 ∧ w0.cell? ⟨q, 3, none⟩ = some x3 ∧ w0.cell? ⟨q, 4, none⟩ = some x4 ∧ w0.cell? ⟨q, 5, none⟩ = some x5 ∧ w0.cell? ⟨r, 0, none⟩ = some x6 ∧ w0.cell? ⟨r, 1, none⟩ = some x7 ∧ w0.cell? ⟨r, 2, none⟩ = some x8 ∧ w0.cell? ⟨r, 3, none⟩ = some x9 ∧ w0.cell? ⟨r, 4, none⟩ = some x10 ∧ w0.cell? ⟨r, 5, none⟩ = some x11) : Below W.heap.size W w0.drew ∧ w0.drew.cell? ⟨q, 0, none⟩ = some x0 ∧ w0.drew.cell? ⟨q, 1, none⟩ = some x1 ∧ w0.drew.cell? ⟨q, 2, none⟩ = some x2 ∧ w0.drew.cell? ⟨q, 3, none⟩ = some x3 ∧ w0.drew.cell? ⟨q, 4, none⟩ = some x4 ∧ w0.drew.cell? ⟨q, 5, none⟩ = some x5 ∧ w0.drew.cell? ⟨r, 0, none⟩ = some x6 ∧ w0.drew.cell? ⟨r, 1, none⟩ = some x7 ∧ w0.drew.cell? ⟨r, 2, none⟩ = some x8 ∧ w0.drew.cell? ⟨r, 3, none⟩ = some x9 ∧ w0.drew.cell? ⟨r, 4, none⟩ = some x10 ∧ w0.drew.cell? ⟨r, 5, none⟩ = some x11 :=
  ⟨h.1.drew, h.2⟩
theorem k12_up {W w0 w1 : World} {q r : Nat} {x0 x1 x2 x3 x4 x5 x6 x7 x8 x9 x10 x11 : Value} (hq : q < W.heap.size) (hr : r < W.heap.size) (h : Below W.heap.size W w0 ∧ w0.cell? ⟨q, 0, none⟩ = some x0 ∧ w0.cell? ⟨q, 1, none⟩ = some x1 ∧ w0.cell? ⟨q, 2, none⟩ = some x2 ∧ w0.cell? ⟨q, 3, none⟩ = some x3 ∧ w0.cell? ⟨q, 4, none⟩ = some x4 ∧ w0.cell? ⟨q, 5, none⟩ = some x5 ∧ w0.cell? ⟨r, 0, none⟩ = some x6 ∧ w0.cell? ⟨r, 1, none⟩ = some x7 ∧ w0.cell? ⟨r, 2, none⟩ = some x8 ∧ w0.cell? ⟨r, 3, none⟩ = some x9 ∧ w0.cell? ⟨r, 4, none⟩ = some x10 ∧ w0.cell? ⟨r, 5, none⟩ = some x11) (hB : Below w0.heap.size w0 w1) : Below W.heap.size W w1 ∧ w1.cell? ⟨q, 0, none⟩ = some x0 ∧ w1.cell? ⟨q, 1, none⟩ = some x1 ∧ w1.cell? ⟨q, 2, none⟩ = some x2 ∧ w1.cell? ⟨q, 3, none⟩ = some x3 ∧ w1.cell? ⟨q, 4, none⟩ = some x4 ∧ w1.cell? ⟨q, 5, none⟩ = some x5 ∧ w1.cell? ⟨r, 0, none⟩ = some x6 ∧ w1.cell? ⟨r, 1, none⟩ = some x7 ∧ w1.cell? ⟨r, 2, none⟩ = some x8 ∧ w1.cell? ⟨r, 3, none⟩ = some x9 ∧ w1.cell? ⟨r, 4, none⟩ = some x10 ∧ w1.cell? ⟨r, 5, none⟩ = some x11 := by
  obtain ⟨h0, a0, a1, a2, a3, a4, a5, a6, a7, a8, a9, a10, a11⟩ := h
  have lq : q < w0.heap.size := Nat.lt_of_lt_of_le hq h0.size
  have lr : r < w0.heap.size := Nat.lt_of_lt_of_le hr h0.size
  exact ⟨up_trans h0 hB, (hB.cell (p := ⟨q, 0, none⟩) lq).trans a0, (hB.cell (p := ⟨q, 1, none⟩) lq).trans a1, (hB.cell (p := ⟨q, 2, none⟩) lq).trans a2, (hB.cell (p := ⟨q, 3, none⟩) lq).trans a3, (hB.cell (p := ⟨q, 4, none⟩) lq).trans a4, (hB.cell (p := ⟨q, 5, none⟩) lq).trans a5, (hB.cell (p := ⟨r, 0, none⟩) lr).trans a6, (hB.cell (p := ⟨r, 1, none⟩) lr).trans a7, (hB.cell (p := ⟨r, 2, none⟩) lr).trans a8, (hB.cell (p := ⟨r, 3, none⟩) lr).trans a9, (hB.cell (p := ⟨r, 4, none⟩) lr).trans a10, (hB.cell (p := ⟨r, 5, none⟩) lr).trans a11⟩
theorem sizeRb : (Tryz.prog.info? 50).map (·.size) = some 6 := by kernel_rfl

/-- A batch as it is handed to a law. -/
structure RbSrc (w : World) (x : Rb) (rv sv : Value) : Prop where
  r : Src w rv x.ps
  s : SlSrc w sv x.sl
  zp : Sized x.ps
  zs : SlZ x.sl
  zn : x.nm.size ≤ maxLen
  za : x.ad.size ≤ maxLen
theorem RbSrc.up {w w' : World} {x : Rb} {rv sv : Value} (h : RbSrc w x rv sv) (hb : Below w.heap.size w w') : RbSrc w' x rv sv := ⟨h.r.up hb, h.s.up hb, h.zp, h.zs, h.zn, h.za⟩
/-- A batch whose lists lie in blocks of their own. -/
structure RbO (w : World) (base : Nat) (x : Rb) (b1 b2 : Nat) : Prop where
  r : Own w b1 x.ps
  s : OwnSl w b2 x.sl
  l1 : base ≤ b1
  l2 : b1 < b2
theorem RbO.up {w w' : World} {base : Nat} {x : Rb} {b1 b2 : Nat} (h : RbO w base x b1 b2) (hb : Below w.heap.size w w') : RbO w' base x b1 b2 := ⟨h.r.up hb, h.s.up hb, h.l1, h.l2⟩
theorem RbO.low {w : World} {base base' : Nat} {x : Rb} {b1 b2 : Nat} (h : RbO w base x b1 b2) (hb : base' ≤ base) : RbO w base' x b1 b2 := ⟨h.r, h.s, Nat.le_trans hb h.l1, h.l2⟩
theorem RbO.v {w : World} {base : Nat} {x : Rb} {b1 b2 : Nat} (h : RbO w base x b1 b2) {rv sv : Value} {W : World} (hx : RbSrc W x rv sv) (np : x.ps.length ≤ 1048576) (ns : x.sl.length ≤ 1048576) : RbV w x (.slice (some ⟨b1, 0, none⟩) x.ps.length x.ps.length) (.slice (some ⟨b2, 0, none⟩) x.sl.length x.sl.length) :=
  ⟨⟨b1, 0, _, rfl, h.r.1, h.r.2.2, Nat.le_refl _, by omega⟩, ⟨b2, 0, _, rfl, h.s.1, h.s.2.2⟩, hx.zp, hx.zs, hx.zn, np, ns⟩
theorem Own.other {w : World} {b r j : Nat} {u : Value} {ps : List Ph} (h : Own w b ps) (hne : b ≠ r) : Own (w.setCell ⟨r, j, none⟩ u) b ps := by
  have hk : (w.setCell ⟨r, j, none⟩ u).heap[b]? = w.heap[b]? := Below.heap_setCell _ _ _ _ (fun e => hne e)
  refine ⟨fun i p hp k v hv => ?_, fun k hk' => ?_, by simpa using h.2.2⟩
  · rw [World.cell?_of_block (w := w) (a := ⟨b, 0 + i * 8 + k, none⟩) hk]; exact h.1 i p hp k v hv
  · rw [World.cell?_of_block (w := w) (a := ⟨b, 0 + k, none⟩) hk, World.frozen?_of_block (w := w) (a := ⟨b, 0 + k, none⟩) hk]; exact h.2.1 k hk'
theorem OwnSl.other {w : World} {b r j : Nat} {u : Value} {l : List Sl} (h : OwnSl w b l) (hne : b ≠ r) : OwnSl (w.setCell ⟨r, j, none⟩ u) b l := by
  have hk : (w.setCell ⟨r, j, none⟩ u).heap[b]? = w.heap[b]? := Below.heap_setCell _ _ _ _ (fun e => hne e)
  refine ⟨fun i p hp k v hv => ?_, fun k hk' => ?_, by simpa using h.2.2⟩
  · rw [World.cell?_of_block (w := w) (a := ⟨b, 0 + i * 2 + k, none⟩) hk]; exact h.1 i p hp k v hv
  · rw [World.cell?_of_block (w := w) (a := ⟨b, 0 + k, none⟩) hk, World.frozen?_of_block (w := w) (a := ⟨b, 0 + k, none⟩) hk]; exact h.2.1 k hk'
theorem RbO.set {w : World} {base r j b1 b2 : Nat} {u : Value} {x : Rb} (h : RbO w base x b1 b2) (hr : r < base) : RbO (w.setCell ⟨r, j, none⟩ u) base x b1 b2 :=
  ⟨h.r.other (by have := h.l1; omega), h.s.other (by have := h.l1; have := h.l2; omega), h.l1, h.l2⟩

set_option maxRecDepth 20000 in
set_option maxHeartbeats 2000000 in
theorem szRb_any (x : Rb) (rv sv : Value) (w : World) (h : RbSrc w x rv sv) (l : Int) (hl : 0 ≤ l) (hl' : l ≤ 1048576) :
    Calls Tryz.prog 19 #[.agg #[.string x.nm, rv, sv, .string x.ad, .int .i64 x.si, .int .i64 x.st], .int .i64 l] w fun e' w' => (∃ y : Int, e' = .returned (.int .i64 y) ∧ (0 ≤ y → x.ps.length ≤ 1048576 ∧ x.sl.length ≤ 1048576 ∧ x.nm.size ≤ 1048576) ∧ y ≤ 1048576) ∧ Below w.heap.size w w' := by
  obtain ⟨a1, c1, hrv⟩ := h.r.shape
  obtain ⟨a2, c2, hsv⟩ := h.s.shape
  subst hrv hsv
  have zn := h.zn
  have za := h.za
  unfold maxLen at zn za
  have hC : CB (w.alloc (.cells #[.string x.nm, .slice a1 x.ps.length c1, .slice a2 x.sl.length c2, .string x.ad, .int .i64 x.si, .int .i64 x.st] 44)) w.heap.size [.string x.nm, .slice a1 x.ps.length c1, .slice a2 x.sl.length c2, .string x.ad, .int .i64 x.si, .int .i64 x.st] := cb_alloc w _ _
  have hB0 := (Below.refl w.heap.size w).alloc (Nat.le_refl _) (.cells #[.string x.nm, .slice a1 x.ps.length c1, .slice a2 x.sl.length c2, .string x.ad, .int .i64 x.si, .int .i64 x.st] 44)
  go_enter Tryz.func19, Tryz.ntmps19
  go_upto_region 1 with fail
  generalize w.alloc (.cells #[.string x.nm, .slice a1 x.ps.length c1, .slice a2 x.sl.length c2, .string x.ad, .int .i64 x.si, .int .i64 x.st] 44) = W1 at *
  have hlt := hC.2.2
  obtain ⟨d0, d1, d2, d3, d4, d5⟩ := hC.c6
  by_cases h1 : l - x.nm.size < 0
  · go_wp2_with fail
    go_ret
    exact ⟨⟨_, rfl, by omega, by omega⟩, hB0⟩
  go_wp2_with fail
  refine (szS_src2 x.ps _ _ _ (by omega) (by omega) (h.r.up hB0) h.zp).mono ?_
  rintro e w2 ⟨⟨y2, rfl, hy2, hy2'⟩, hB2⟩
  by_cases h2 : y2 < 0
  · go_wp2_with fail
    go_ret
    exact ⟨⟨_, rfl, by omega, by omega⟩, up_trans hB0 hB2⟩
  have hn2 := hy2 (by omega)
  obtain ⟨e0, e1, e2, e3, e4, e5⟩ := (hC.up hB2 hlt).c6
  clear d0 d1 d2 d3 d4 d5 hy2
  have hB02 := up_trans hB0 hB2
  go_wp2_with fail
  refine (szSlots_src x.sl _ _ _ (by omega) (by omega) (h.s.up hB02) h.zs).mono ?_
  rintro e w3 ⟨⟨y3, rfl, hy3, hy3'⟩, hB3⟩
  have hB03 := up_trans hB02 hB3
  by_cases h3 : y3 < 0
  · go_wp2_with fail
    go_ret
    exact ⟨⟨_, rfl, by omega, by omega⟩, hB03⟩
  have hn3 := hy3 (by omega)
  obtain ⟨f0, f1, f2, f3, f4, f5⟩ := (hC.up (up_trans hB2 hB3) hlt).c6
  clear e0 e1 e2 e3 e4 e5 hy3
  by_cases h4 : y3 - x.ad.size < 0
  · go_wp2_with fail
    go_ret
    exact ⟨⟨_, rfl, by omega, by omega⟩, hB03⟩
  go_wp2_with fail
  go_ret
  exact ⟨⟨_, rfl, by omega, by omega⟩, hB03⟩

set_option maxRecDepth 20000 in
set_option maxHeartbeats 4000000 in
theorem toRb_any (x : Rb) (rv sv : Value) (w : World) (h : RbSrc w x rv sv) (np : x.ps.length ≤ 1048576) (ns : x.sl.length ≤ 1048576) :
    Calls Tryz.prog 21 #[.agg #[.string x.nm, rv, sv, .string x.ad, .int .i64 x.si, .int .i64 x.st]] w fun e w' => (∃ b1 b2, e = .returned (.agg #[.string x.nm, .slice (some ⟨b1, 0, none⟩) x.ps.length x.ps.length, .slice (some ⟨b2, 0, none⟩) x.sl.length x.sl.length, .string x.ad, .int .i64 x.si, .int .i64 x.st]) ∧ RbO w' w.heap.size x b1 b2) ∧ Below w.heap.size w w' := by
  obtain ⟨a1, c1, hrv⟩ := h.r.shape
  obtain ⟨a2, c2, hsv⟩ := h.s.shape
  subst hrv hsv
  go_enter Tryz.func21, Tryz.ntmps21
  go_upto_region 2 with fail
  obtain ⟨W1, hW1, kP, kR, kO, hB1, hs1⟩ : ∃ W1, ((w.alloc (.cells #[.string x.nm, .slice a1 x.ps.length c1, .slice a2 x.sl.length c2, .string x.ad, .int .i64 x.si, .int .i64 x.st] 44)).alloc (.cells #[.string ⟨#[]⟩, .slice none 0 0, .slice none 0 0, .string ⟨#[]⟩, .int .i64 0, .int .i64 0] 50)).alloc (.cells #[.string ⟨#[]⟩, .slice none 0 0, .slice none 0 0, .string ⟨#[]⟩, .int .i64 0, .int .i64 0] 50) = W1 ∧ CB W1 w.heap.size [.string x.nm, .slice a1 x.ps.length c1, .slice a2 x.sl.length c2, .string x.ad, .int .i64 x.si, .int .i64 x.st] ∧ CB W1 (w.heap.size + 1) [.string ⟨#[]⟩, .slice none 0 0, .slice none 0 0, .string ⟨#[]⟩, .int .i64 0, .int .i64 0] ∧ CB W1 (w.heap.size + 2) [.string ⟨#[]⟩, .slice none 0 0, .slice none 0 0, .string ⟨#[]⟩, .int .i64 0, .int .i64 0] ∧ Below w.heap.size w W1 ∧ W1.heap.size = w.heap.size + 3 := ⟨_, rfl, cb3 w [.string x.nm, .slice a1 x.ps.length c1, .slice a2 x.sl.length c2, .string x.ad, .int .i64 x.si, .int .i64 x.st] [.string ⟨#[]⟩, .slice none 0 0, .slice none 0 0, .string ⟨#[]⟩, .int .i64 0, .int .i64 0] [.string ⟨#[]⟩, .slice none 0 0, .slice none 0 0, .string ⟨#[]⟩, .int .i64 0, .int .i64 0] _ _ _⟩
  rw [hW1]
  clear hW1
  obtain ⟨W2, hW2, kP2, kR2, kO2, hB2, hs2⟩ : ∃ W2, W1.setCell ⟨w.heap.size + 2, 0, none⟩ (.string x.nm) = W2 ∧ CB W2 w.heap.size [.string x.nm, .slice a1 x.ps.length c1, .slice a2 x.sl.length c2, .string x.ad, .int .i64 x.si, .int .i64 x.st] ∧ CB W2 (w.heap.size + 1) [.string ⟨#[]⟩, .slice none 0 0, .slice none 0 0, .string ⟨#[]⟩, .int .i64 0, .int .i64 0] ∧ CB W2 (w.heap.size + 2) [.string x.nm, .slice none 0 0, .slice none 0 0, .string ⟨#[]⟩, .int .i64 0, .int .i64 0] ∧ Below w.heap.size w W2 ∧ W2.heap.size = w.heap.size + 3 := ⟨_, rfl, kP.other (by omega), kR.other (by omega), kO.set (j := 0) (by simp), hB1.setCell (p := ⟨w.heap.size + 2, 0, none⟩) (by simp) _, by simpa using hs1⟩
  obtain ⟨p0, p1, p2, p3, p4, p5⟩ := kP.c6
  obtain ⟨o0, o1, o2, o3, o4, o5⟩ := kO.c6
  obtain ⟨f0, f1, f2, f3, f4, f5⟩ := kO.f6
  go_upto_region 3 with fail
  try rw [hW2]
  clear hW2 p0 p1 p2 p3 p4 p5 o0 o1 o2 o3 o4 o5 f0 f1 f2 f3 f4 f5 kP kR kO hB1 hs1
  obtain ⟨p0, p1, p2, p3, p4, p5⟩ := kP2.c6
  go_wp2_with fail
  refine (toS_src x.ps _ _ (h.r.up hB2) np).mono ?_
  rintro e w3 ⟨⟨b1, rfl, ho1, hb1⟩, hb3⟩
  rw [hs2] at hb1
  have hz3 := hb3.size
  have kP3 := kP2.up hb3 (by omega)
  have kR3 := kR2.up hb3 (by omega)
  have kO3 := kO2.up hb3 (by omega)
  have hB3 := up_trans hB2 hb3
  clear p0 p1 p2 p3 p4 p5 kP2 kR2 kO2 hB2 hb3
  obtain ⟨W4, hW4, kP4, kR4, kO4, ho4, hB4, hs4⟩ : ∃ W4, w3.setCell ⟨w.heap.size + 2, 1, none⟩ (.slice (some ⟨b1, 0, none⟩) x.ps.length x.ps.length) = W4 ∧ CB W4 w.heap.size [.string x.nm, .slice a1 x.ps.length c1, .slice a2 x.sl.length c2, .string x.ad, .int .i64 x.si, .int .i64 x.st] ∧ CB W4 (w.heap.size + 1) [.string ⟨#[]⟩, .slice none 0 0, .slice none 0 0, .string ⟨#[]⟩, .int .i64 0, .int .i64 0] ∧ CB W4 (w.heap.size + 2) [.string x.nm, .slice (some ⟨b1, 0, none⟩) x.ps.length x.ps.length, .slice none 0 0, .string ⟨#[]⟩, .int .i64 0, .int .i64 0] ∧ Own W4 b1 x.ps ∧ Below w.heap.size w W4 ∧ W4.heap.size = w3.heap.size :=
    ⟨_, rfl, kP3.other (by omega), kR3.other (by omega), kO3.set (j := 1) (by simp), ho1.other (by omega), hB3.setCell (p := ⟨w.heap.size + 2, 1, none⟩) (by simp) _, by simp⟩
  obtain ⟨o0, o1, o2, o3, o4, o5⟩ := kO3.c6
  obtain ⟨f0, f1, f2, f3, f4, f5⟩ := kO3.f6
  go_upto_region 4 with fail
  try rw [hW4]
  clear hW4 o0 o1 o2 o3 o4 o5 f0 f1 f2 f3 f4 f5 kP3 kR3 kO3 hB3
  have hlt4 := ho4.2.2
  clear ho1
  obtain ⟨p0, p1, p2, p3, p4, p5⟩ := kP4.c6
  go_wp2_with fail
  refine (toSlots_src x.sl _ _ (h.s.up hB4) ns).mono ?_
  rintro e w5 ⟨⟨b2, rfl, ho2, hb2⟩, hb5⟩
  have hz5 := hb5.size
  have kP5 := kP4.up hb5 (by omega)
  have kR5 := kR4.up hb5 (by omega)
  have kO5 := kO4.up hb5 (by omega)
  have hO5 : RbO w5 (w.heap.size + 3) x b1 b2 := ⟨ho4.up hb5, ho2, hb1, Nat.lt_of_lt_of_le hlt4 hb2⟩
  have hB5 := up_trans hB4 hb5
  clear p0 p1 p2 p3 p4 p5 kP4 kR4 kO4 hB4 hb5 ho4 ho2
  obtain ⟨p0, p1, p2, p3, p4, p5⟩ := kP5.c6
  obtain ⟨o0, o1, o2, o3, o4, o5⟩ := kO5.c6
  obtain ⟨f0, f1, f2, f3, f4, f5⟩ := kO5.f6
  obtain ⟨r0, r1, r2, r3, r4, r5⟩ := kR5.c6
  obtain ⟨g0, g1, g2, g3, g4, g5⟩ := kR5.f6
  have hR6 := (((kR5.other (q := w.heap.size + 2) (j := 2) (u := .slice (some ⟨b2, 0, none⟩) x.sl.length x.sl.length) (by omega)).other (q := w.heap.size + 2) (j := 3) (u := .string x.ad) (by omega)).other (q := w.heap.size + 2) (j := 4) (u := .int .i64 x.si) (by omega)).other (q := w.heap.size + 2) (j := 5) (u := .int .i64 x.st) (by omega)
  go_wp2_with fail
  refine end_cb6 Tryz.results21 Tryz.underlying50 rfl sizeRb hR6 rfl ?_
  refine ⟨⟨b1, b2, rfl, ?_⟩, ?_⟩
  · exact ((((((((((hO5.set (by omega)).set (by omega)).set (by omega)).set (by omega)).set (by omega)).set (by omega)).set (by omega)).set (by omega)).set (by omega)).set (by omega)).low (by omega)
  · exact (((((((((hB5.setCell (p := ⟨w.heap.size + 2, 2, none⟩) (by simp) _).setCell (p := ⟨w.heap.size + 2, 3, none⟩) (by simp) _).setCell (p := ⟨w.heap.size + 2, 4, none⟩) (by simp) _).setCell (p := ⟨w.heap.size + 2, 5, none⟩) (by simp) _).setCell (p := ⟨w.heap.size + 1, 0, none⟩) (by simp) _).setCell (p := ⟨w.heap.size + 1, 1, none⟩) (by simp) _).setCell (p := ⟨w.heap.size + 1, 2, none⟩) (by simp) _).setCell (p := ⟨w.heap.size + 1, 3, none⟩) (by simp) _).setCell (p := ⟨w.heap.size + 1, 4, none⟩) (by simp) _).setCell (p := ⟨w.heap.size + 1, 5, none⟩) (by simp) _

set_option maxRecDepth 20000 in
set_option maxHeartbeats 4000000 in
theorem eqRb_any (x : Rb) (p1 p2 q1 q2 base base' : Nat) (w : World) (h : RbO w base x p1 p2) (h' : RbO w base' x q1 q2) (np : x.ps.length ≤ 1048576) (ns : x.sl.length ≤ 1048576) :
    Calls Tryz.prog 23 #[.agg #[.string x.nm, .slice (some ⟨p1, 0, none⟩) x.ps.length x.ps.length, .slice (some ⟨p2, 0, none⟩) x.sl.length x.sl.length, .string x.ad, .int .i64 x.si, .int .i64 x.st], .agg #[.string x.nm, .slice (some ⟨q1, 0, none⟩) x.ps.length x.ps.length, .slice (some ⟨q2, 0, none⟩) x.sl.length x.sl.length, .string x.ad, .int .i64 x.si, .int .i64 x.st]] w fun e w' => e = .returned (.bool true) ∧ Below w.heap.size w w' := by
  go_enter Tryz.func23, Tryz.ntmps23
  go_upto_region 1 with fail
  obtain ⟨W1, hW1, kP, kR, hB1, hs1⟩ : ∃ W1, (w.alloc (.cells #[.string x.nm, .slice (some ⟨p1, 0, none⟩) x.ps.length x.ps.length, .slice (some ⟨p2, 0, none⟩) x.sl.length x.sl.length, .string x.ad, .int .i64 x.si, .int .i64 x.st] 50)).alloc (.cells #[.string x.nm, .slice (some ⟨q1, 0, none⟩) x.ps.length x.ps.length, .slice (some ⟨q2, 0, none⟩) x.sl.length x.sl.length, .string x.ad, .int .i64 x.si, .int .i64 x.st] 50) = W1 ∧ CB W1 w.heap.size (#[.string x.nm, .slice (some ⟨p1, 0, none⟩) x.ps.length x.ps.length, .slice (some ⟨p2, 0, none⟩) x.sl.length x.sl.length, .string x.ad, .int .i64 x.si, .int .i64 x.st]).toList ∧ CB W1 (w.heap.size + 1) (#[.string x.nm, .slice (some ⟨q1, 0, none⟩) x.ps.length x.ps.length, .slice (some ⟨q2, 0, none⟩) x.sl.length x.sl.length, .string x.ad, .int .i64 x.si, .int .i64 x.st]).toList ∧ Below w.heap.size w W1 ∧ W1.heap.size = w.heap.size + 2 := ⟨_, rfl, cb2 w (#[.string x.nm, .slice (some ⟨p1, 0, none⟩) x.ps.length x.ps.length, .slice (some ⟨p2, 0, none⟩) x.sl.length x.sl.length, .string x.ad, .int .i64 x.si, .int .i64 x.st]).toList (#[.string x.nm, .slice (some ⟨q1, 0, none⟩) x.ps.length x.ps.length, .slice (some ⟨q2, 0, none⟩) x.sl.length x.sl.length, .string x.ad, .int .i64 x.si, .int .i64 x.st]).toList _ _⟩
  rw [hW1]
  clear hW1
  obtain ⟨d0, d1, d2, d3, d4, d5⟩ := kP.c6
  obtain ⟨e0, e1, e2, e3, e4, e5⟩ := kR.c6
  have o1 := h.r.up hB1
  have o2 := h'.r.up hB1
  go_wp2_with fail
  refine (eqS_any x.ps p1 q1 _ _ _ o1.1 o1.2.2 o2.1 o2.2.2 np).mono ?_
  rintro e w2 ⟨rfl, hB2⟩
  have hB12 := up_trans hB1 hB2
  clear d0 d1 d2 d3 d4 d5 e0 e1 e2 e3 e4 e5
  obtain ⟨d0, d1, d2, d3, d4, d5⟩ := (kP.up hB2 (by omega)).c6
  obtain ⟨e0, e1, e2, e3, e4, e5⟩ := (kR.up hB2 (by omega)).c6
  have s1 := h.s.up hB12
  have s2 := h'.s.up hB12
  go_wp2_with fail
  refine (eqSlots_any x.sl p2 q2 _ _ _ s1.1 s1.2.2 s2.1 s2.2.2 ns).mono ?_
  rintro e w3 ⟨rfl, hB3⟩
  have hB13 := up_trans hB12 hB3
  clear d0 d1 d2 d3 d4 d5 e0 e1 e2 e3 e4 e5
  obtain ⟨d0, d1, d2, d3, d4, d5⟩ := (kP.up (up_trans hB2 hB3) (by omega)).c6
  obtain ⟨e0, e1, e2, e3, e4, e5⟩ := (kR.up (up_trans hB2 hB3) (by omega)).c6
  go_wp2_with fail
  go_ret
  exact ⟨rfl, hB13⟩
end Go.Proofs.YtialglmnfchfmaeGreatDoor

/- The laws' marks: a text of a number. -/
namespace Go.Proofs.YtialglmnfchfmaeGreatDoor
open Go.RowKit

def mkD (k : Nat) (out : ByteArray) : ByteArray := if k = 0 then out else mkD (k / 10) (⟨#[48 + UInt8.ofNat (k % 10)]⟩ ++ out)
termination_by k
decreasing_by omega
def mkB (k : Int) : ByteArray := if k ≤ 0 then ⟨#[109, 48]⟩ else ⟨#[109]⟩ ++ mkD k.toNat ⟨#[]⟩
theorem mkD_size : ∀ (k : Nat) (out : ByteArray), (mkD k out).size ≤ out.size + k := by
  intro k
  induction k using Nat.strongRecOn with
  | ind k ih =>
    intro out
    unfold mkD
    split
    · omega
    · have := ih (k / 10) (by omega) (⟨#[48 + UInt8.ofNat (k % 10)]⟩ ++ out)
      rw [ByteArray.size_append] at this
      have h1 : (⟨#[48 + UInt8.ofNat (k % 10)]⟩ : ByteArray).size = 1 := rfl
      omega
theorem byte_str (w : World) (x : Int) (h0 : 0 ≤ x) (h1 : x < 256) :
    (convert 104 9 (.slice (some ⟨w.heap.size, 0, none⟩) 1 1)).run Tryz.prog (w.alloc (.cells #[.int .u8 x] 5)) = .ok (.string ⟨#[UInt8.ofNat x.toNat]⟩) (w.alloc (.cells #[.int .u8 x] 5)) := by
  refine run_convert_bytes_back (P := Tryz.prog) (w.alloc (.cells #[.int .u8 x] 5)) 104 9 5 ⟨w.heap.size, 0, none⟩ 1 [UInt8.ofNat x.toNat] Tryz.underlying104 Tryz.underlying5 Tryz.underlying9 (fun j hj => ?_)
  obtain rfl : j = 0 := by simpa using hj
  have e : ((UInt8.ofNat x.toNat).toNat : Int) = x := by
    rw [UInt8.toNat_ofNat']; omega
  simp only [List.getElem_cons_zero, e]
  simp [go_sem, Addr.add]

set_option maxRecDepth 20000 in
set_option maxHeartbeats 1000000 in
theorem mark_any (k : Int) (w : World) (hk : k ≤ 9000000000000) :
    Calls Tryz.prog 37 #[.int .i64 k] w fun e w' => e = .returned (.string (mkB k)) ∧ Below w.heap.size w w' := by
  by_cases h0 : k ≤ 0
  · have HV : Hid (mkB k = ⟨#[109, 48]⟩) := by show _ = _; rw [mkB, if_pos h0]
    go_enter Tryz.func37, Tryz.ntmps37
    go_wp2_with fail
    go_ret
    exact ⟨by rw [HV.out]; rfl, Below.refl _ _⟩
  obtain ⟨K, rfl⟩ : ∃ K : Nat, k = (K : Int) := ⟨k.toNat, by omega⟩
  have HV : Hid (mkB K = ⟨#[109]⟩ ++ mkD K ⟨#[]⟩) := by show _ = _; rw [mkB, if_neg h0]; rfl
  have Hz : Hid ((mkD K ⟨#[]⟩).size ≤ K) := by
    show _ ≤ _
    have := mkD_size K ⟨#[]⟩
    have h1 : (⟨#[]⟩ : ByteArray).size = 0 := rfl
    omega
  go_enter Tryz.func37, Tryz.ntmps37
  go_wp2_with fail
  go_loopw [0, 3] (fun kk o w' => ∃ (n : Nat) (s : ByteArray), kk = .int .i64 (n : Int) ∧ o = .string s ∧ mkD n s = mkD K ⟨#[]⟩ ∧ s.size + n ≤ K ∧ Below w.heap.size w w') (fun kk _ _ => (intOf kk).toNat)
  case atStart => exact ⟨K, ⟨#[]⟩, rfl, rfl, rfl, Nat.le_of_eq (Nat.zero_add _), Below.refl _ _⟩
  case round =>
    obtain ⟨n, s, rfl, rfl, hm, hs, hB⟩ := hrel
    have Hm : Hid (mkD n s = mkD K ⟨#[]⟩) := hm
    clear hm
    by_cases hn : n = 0
    · subst hn
      go_wp2_with fail
      go_ret
      have h9 := Hm.out
      unfold mkD at h9
      rw [if_pos rfl] at h9
      refine ⟨?_, hB⟩
      rw [HV.out]
      unfold mkD
      rw [← h9]; rfl
    · have hcv := byte_str wr (48 + (n : Int) % 10) (by omega) (by omega)
      have He : Hid (mkD n s = mkD (n / 10) (⟨#[48 + UInt8.ofNat (n % 10)]⟩ ++ s)) := by
        show _ = _
        rw [mkD, if_neg hn]
      go_wp2_with fail
      refine ⟨⟨n / 10, ⟨#[48 + UInt8.ofNat (n % 10)]⟩ ++ s, by rw [Int.natCast_ediv]; rfl, rfl, by rw [← He.out]; exact Hm.out, ?_, hB.alloc hB.size _⟩, by simp only [intOf]; omega⟩
      rw [ByteArray.size_append]
      have h1 : (⟨#[48 + UInt8.ofNat (n % 10)]⟩ : ByteArray).size = 1 := rfl
      omega
end Go.Proofs.YtialglmnfchfmaeGreatDoor

/- The laws' helpers over lists of texts: alike, marked, held. -/
namespace Go.Proofs.YtialglmnfchfmaeGreatDoor
open Go.RowKit

set_option maxHeartbeats 1000000 in
theorem eqStr_any (ss : List ByteArray) (va vb : Value) (w : World) (ha : Lst w va ss) (hb : Lst w vb ss) (hn : ss.length ≤ 1000) :
    Calls Tryz.prog 13 #[va, vb] w fun e w' => e = .returned (.bool true) ∧ Below w.heap.size w w' := by
  by_cases h0 : ss = []
  · subst h0
    obtain ⟨a1, c1, rfl⟩ := ha.shape
    obtain ⟨a2, c2, rfl⟩ := hb.shape
    simp only [List.length_nil]
    go_enter Tryz.func13, Tryz.ntmps13
    go_wp2
    go_rounds 1
    go_ret
    exact ⟨rfl, Below.refl _ _⟩
  rcases ha with ⟨_, h⟩ | ha
  · exact absurd h h0
  rcases hb with ⟨_, h⟩ | hb
  · exact absurd h h0
  obtain ⟨g1, c1, rfl, hS1, hg1, _, _⟩ := ha
  obtain ⟨g2, c2, rfl, hS2, hg2, _, _⟩ := hb
  go_enter Tryz.func13, Tryz.ntmps13
  go_wp2
  go_loopw [5] (fun i w' => ∃ k : Nat, k ≤ ss.length ∧ i = .int .i64 k ∧ Below w.heap.size w w') (fun i _ => ss.length - (intOf i).toNat)
  case atStart => exact ⟨0, by omega, rfl, Below.refl _ _⟩
  case round =>
    obtain ⟨k, hk, rfl, hB⟩ := hrel
    by_cases hp : k < ss.length
    · have c1 := (hB.cell (p := ⟨g1, 0 + k, none⟩) hg1).trans (hS1 k ss[k] (by simp))
      have c2 := (hB.cell (p := ⟨g2, 0 + k, none⟩) hg2).trans (hS2 k ss[k] (by simp))
      simp only [Nat.zero_add] at c1 c2
      go_wp2_with fail
      go_quiet (fail)
      go_wp2_with fail
      go_roundw
      case rel => exact ⟨k + 1, by omega, by go_num, below_drewN hB nq⟩
      case measure => simp [intOf]; omega
    · go_wp2_with fail
      go_ret
      exact ⟨rfl, hB⟩

/-- From place 0 to k the marks from m on. -/
def Marked (ys : List ByteArray) (m : Int) (k : Nat) : Prop := ∀ i : Nat, i < k → ys[i]? = some (mkB (m + i))
theorem Marked.set {ys : List ByteArray} {m : Int} {k : Nat} (h : Marked ys m k) (hk : k < ys.length) : Marked (ys.set k (mkB (m + k))) m (k + 1) := fun i hi => by
  rw [List.getElem?_set]
  by_cases e : k = i
  · subst e; rw [if_pos rfl, if_pos hk]
  · rw [if_neg e]; exact h i (by omega)

set_option maxHeartbeats 1000000 in
theorem markS_any (ss : List ByteArray) (base : Nat) (u : Value) (m : Int) (w : World) (h : OwnT w base u ss) (hn : ss.length ≤ 1000) (hm : 1 ≤ m) (hm9 : m ≤ 1000000) :
    Calls Tryz.prog 15 #[u, .int .i64 m] w fun e w' => e = .returned (.int .i64 (m + ss.length)) ∧ (∃ ys, ys.length = ss.length ∧ Marked ys m ss.length ∧ OwnT w' base u ys) ∧ w.grownBy w' u.ownBlock := by
  by_cases h0 : ss = []
  · subst h0
    obtain ⟨a1, c1, rfl⟩ := h.lst.shape
    simp only [List.length_nil]
    have HO : Hid (OwnT w base (.slice a1 0 c1) []) := h
    clear h
    go_enter Tryz.func15, Tryz.ntmps15
    go_wp2
    go_rounds 1
    go_ret
    exact ⟨by simp, ⟨[], rfl, fun i hi => by omega, HO.out⟩, grown_refl _ _⟩
  have hpos : 0 < ss.length := by
    rcases Nat.eq_zero_or_pos ss.length with h1 | h1
    · exact absurd (List.length_eq_zero_iff.1 h1) h0
    · exact h1
  obtain ⟨g, cap, rfl⟩ := own_ptr2 h hpos
  go_enter Tryz.func15, Tryz.ntmps15
  go_wp2
  go_loopw [1, 5] (fun kk i w' => ∃ (k : Nat) (ys : List ByteArray), k ≤ ss.length ∧ i = .int .i64 k ∧ kk = .int .i64 (m + k) ∧ ys.length = ss.length ∧ Marked ys m k ∧ w'.ownsRow base 9 1 (.slice (some ⟨g, 0, none⟩) ss.length cap) ss.length (ys.map Value.string) ∧ w.grownBy w' (some g)) (fun _ i _ => ss.length - (intOf i).toNat)
  case atStart => exact ⟨0, ss, by omega, rfl, by simp, rfl, fun i hi => by omega, h, grown_refl _ _⟩
  case round =>
    obtain ⟨k, ys, hk, rfl, rfl, hyl, hM, hown, hG⟩ := hrel
    by_cases hp : k < ss.length
    · go_wp2_with fail
      refine (mark_any (m + k) wr (by omega)).mono ?_
      rintro e w1 ⟨rfl, hB1⟩
      have hown1 := own_up hown hB1
      have hG1 := grown_trans hG (grown_below (r := some g) hB1)
      have c0 := hown1.cellAt k (by omega)
      rw [List.getElem?_map, List.getElem?_eq_getElem (by omega)] at c0
      have f0 := hown1.frozenAt k
      have hst := hown1.stored k (.string (mkB (m + k)))
      have hM' := hM.set (by omega)
      have Hst : Hid ((w1.setCell ⟨g, k, none⟩ (.string (mkB (m + k)))).ownsRow base 9 1 (.slice (some ⟨g, 0, none⟩) ss.length cap) ss.length ((ys.set k (mkB (m + k))).map Value.string) ∧ w.grownBy (w1.setCell ⟨g, k, none⟩ (.string (mkB (m + k)))) (some g)) := by
        refine ⟨?_, grown_trans hG1 hst.2⟩
        rw [List.map_set]; exact hst.1
      have HM : Hid (Marked (ys.set k (mkB (m + k))) m (k + 1)) := hM'
      have hyl' : (ys.set k (mkB (m + k))).length = ss.length := by rw [List.length_set]; exact hyl
      have Hyl : Hid ((ys.set k (mkB (m + k))).length = ss.length) := hyl'
      clear hown hB1 hG hown1 hG1 hst hM' hM hyl'
      simp only [Option.map_some] at c0
      generalize mkB (m + k) = mb at *
      go_wp2_with fail
      go_roundw
      case rel => exact ⟨k + 1, ys.set k mb, by omega, by go_num, by go_num, Hyl.out, HM.out, Hst.out.1, Hst.out.2⟩
      case measure => simp [intOf]; omega
    · obtain rfl : k = ss.length := by omega
      go_wp2_with fail
      go_ret
      exact ⟨rfl, ⟨ys, hyl, hM, by unfold OwnT; rw [hyl]; exact hown⟩, hG⟩

set_option maxHeartbeats 1000000 in
theorem heldS_any (ys : List ByteArray) (base : Nat) (u : Value) (m : Int) (w : World) (h : OwnT w base u ys) (hM : Marked ys m ys.length) (hn : ys.length ≤ 1000) (hm : 1 ≤ m) (hm9 : m ≤ 1000000) :
    Calls Tryz.prog 25 #[u, .int .i64 m] w fun e w' => e = .returned (.int .i64 (m + ys.length)) ∧ Below w.heap.size w w' := by
  by_cases h0 : ys = []
  · subst h0
    obtain ⟨a1, c1, rfl⟩ := h.lst.shape
    simp only [List.length_nil]
    clear h hM
    go_enter Tryz.func25, Tryz.ntmps25
    go_wp2
    go_rounds 1
    go_ret
    exact ⟨by simp, Below.refl _ _⟩
  have hpos : 0 < ys.length := by
    rcases Nat.eq_zero_or_pos ys.length with h1 | h1
    · exact absurd (List.length_eq_zero_iff.1 h1) h0
    · exact h1
  obtain ⟨g, cap, rfl⟩ := own_ptr2 h hpos
  have hg := (h.lt g rfl).2
  have hcell : ∀ k, k < ys.length → w.cell? ⟨g, k, none⟩ = some (.string (mkB (m + k))) := fun k hk => by
    rw [h.cellAt k (by omega), List.getElem?_map, hM k hk]; rfl
  have Hcell : Hid (∀ k, k < ys.length → w.cell? ⟨g, k, none⟩ = some (.string (mkB (m + k)))) := hcell
  clear hcell h hM
  go_enter Tryz.func25, Tryz.ntmps25
  go_wp2
  go_loopw [1, 5] (fun kk i w' => ∃ k : Nat, k ≤ ys.length ∧ i = .int .i64 k ∧ kk = .int .i64 (m + k) ∧ Below w.heap.size w w') (fun _ i _ => ys.length - (intOf i).toNat)
  case atStart => exact ⟨0, by omega, rfl, by simp, Below.refl _ _⟩
  case round =>
    obtain ⟨k, hk, rfl, rfl, hB⟩ := hrel
    by_cases hp : k < ys.length
    · have c0 := (hB.cell (p := ⟨g, k, none⟩) hg).trans (Hcell.out k hp)
      go_wp2_with fail
      have hS : Below w.heap.size w wr ∧ wr.cell? ⟨g, k, none⟩ = some (.string (mkB (m + k))) := ⟨hB, c0⟩
      clear c0
      go_region_held (fun w' => Below w.heap.size w w' ∧ w'.cell? ⟨g, k, none⟩ = some (.string (mkB (m + k)))) (first | exact ⟨hS.1.drew, hS.2⟩ | exact keep1 hg (by assumption) (by assumption))
        (first | (go_at_call 37; refine (mark_any (m + k) _ (by omega)).mono ?_; rintro e w1 ⟨rfl, hB1⟩))
      rename_i hHeld
      have hB3 := hHeld.1
      clear hHeld hS hB
      generalize mkB (m + k) = mb at *
      go_wp2_with fail
      go_roundw
      case rel => exact ⟨k + 1, by omega, by go_num, by go_num, hB3⟩
      case measure => simp [intOf]; omega
    · obtain rfl : k = ys.length := by omega
      go_wp2_with fail
      go_ret
      exact ⟨rfl, hB⟩
end Go.Proofs.YtialglmnfchfmaeGreatDoor

/- The laws mark a recipe. -/
namespace Go.Proofs.YtialglmnfchfmaeGreatDoor
open Go.RowKit

theorem cell_there {w : World} {b n j : Nat} (h : w.there b 0 n) (hj : j < n) : (∃ x, w.cell? ⟨b, j, none⟩ = some x) ∧ w.frozen? ⟨b, j, none⟩ = false := by
  have := h j hj
  rw [Nat.zero_add] at this
  exact ⟨Option.isSome_iff_exists.1 this.1, this.2⟩
theorem there_low {w w' : World} {b n : Nat} (h : w.there b 0 n) (hb : Below w.heap.size w w') (hlt : b < w.heap.size) : w'.there b 0 n := there_up h hb hlt

/-- While a recipe is marked. -/
def MkS (w0 w : World) (b N : Nat) : Prop := w.there b 0 (N * 8) ∧ b < w.heap.size ∧ w0.grownBy w (some b)
theorem MkS.set {w0 w : World} {b N : Nat} (h : MkS w0 w b N) (off : Nat) (u : Value) : MkS w0 (w.setCell ⟨b, off, none⟩ u) b N :=
  ⟨there_set h.1, by simpa using h.2.1, grown_setCell h.2.2 u⟩
theorem MkS.below {w0 w w' : World} {b N : Nat} (h : MkS w0 w b N) (hB : Below w.heap.size w w') : MkS w0 w' b N :=
  ⟨there_low h.1 hB h.2.1, Nat.lt_of_lt_of_le h.2.1 hB.size, grown_trans h.2.2 (grown_below hB)⟩

set_option maxRecDepth 20000 in
set_option maxHeartbeats 4000000 in
theorem markP_any (N b c : Nat) (w : World) (ht : w.there b 0 (N * 8)) (hb : b < w.heap.size) (hN : N ≤ 1048576) :
    Calls Tryz.prog 52 #[.slice (some ⟨b, 0, none⟩) N c, .int .i64 1] w fun e w' => (∃ x : Int, e = .returned (.int .i64 x) ∧ 0 ≤ x ∧ x ≤ 9000000) ∧ w.grownBy w' (some b) := by
  go_enter Tryz.func52, Tryz.ntmps52
  go_wp2
  go_loopw [1, 5] (fun kk i w' => ∃ k : Nat, k ≤ N ∧ i = .int .i64 k ∧ kk = .int .i64 (1 + 8 * (k : Int)) ∧ w'.there b 0 (N * 8) ∧ b < w'.heap.size ∧ w.grownBy w' (some b)) (fun _ i _ => N - (intOf i).toNat)
  case atStart => exact ⟨0, by omega, rfl, by simp, ht, hb, grown_refl _ _⟩
  case round =>
    clear ht
    obtain ⟨k, hk, rfl, rfl, ht, hbw, hG⟩ := hrel
    by_cases hp : k < N
    · have hS0 : MkS w wr b N := ⟨ht, hbw, hG⟩
      clear ht hbw hG
      go_wp2_with fail
      refine (mark_any _ _ (by omega)).mono ?_
      rintro e w1 ⟨rfl, hB1⟩
      have hS1 := hS0.below hB1
      clear hB1 hS0
      obtain ⟨⟨x0, c0⟩, f0⟩ := cell_there hS1.1 (j := k * 8) (by omega)
      obtain ⟨⟨x1, c1⟩, f1⟩ := cell_there hS1.1 (j := k * 8 + 1) (by omega)
      generalize mkB _ = s1 at *
      have hT1 := ((hS1.set (k * 8) (.string s1)).set (k * 8 + 1) (.int .i64 (1 + 8 * (k : Int) + 1)))
      go_wp2_with fail
      refine (mark_any _ _ (by omega)).mono ?_
      rintro e w2 ⟨rfl, hB2⟩
      have hS2 := hT1.below hB2
      clear hB2 hT1
      obtain ⟨⟨x2, c2⟩, f2⟩ := cell_there hS2.1 (j := k * 8 + 2) (by omega)
      generalize mkB _ = s2 at *
      have hT2 := (hS2.set (k * 8 + 2) (.string s2))
      go_wp2_with fail
      refine (mark_any _ _ (by omega)).mono ?_
      rintro e w3 ⟨rfl, hB3⟩
      have hS3 := hT2.below hB3
      clear hB3 hT2
      obtain ⟨⟨x3, c3⟩, f3⟩ := cell_there hS3.1 (j := k * 8 + 3) (by omega)
      obtain ⟨⟨x4, c4⟩, f4⟩ := cell_there hS3.1 (j := k * 8 + 4) (by omega)
      obtain ⟨⟨x5, c5⟩, f5⟩ := cell_there hS3.1 (j := k * 8 + 5) (by omega)
      generalize mkB _ = s3 at *
      have hT3 := (((hS3.set (k * 8 + 3) (.string s3)).set (k * 8 + 4) (.int .i64 (1 + 8 * (k : Int) + 1 + 1 + 1 + 1))).set (k * 8 + 5) (.int .i64 (1 + 8 * (k : Int) + 1 + 1 + 1 + 1 + 1)))
      go_wp2_with fail
      refine (mark_any _ _ (by omega)).mono ?_
      rintro e w4 ⟨rfl, hB4⟩
      have hS4 := hT3.below hB4
      clear hB4 hT3
      obtain ⟨⟨x6, c6⟩, f6⟩ := cell_there hS4.1 (j := k * 8 + 6) (by omega)
      generalize mkB _ = s4 at *
      have hT4 := (hS4.set (k * 8 + 6) (.string s4))
      go_wp2_with fail
      refine (mark_any _ _ (by omega)).mono ?_
      rintro e w5 ⟨rfl, hB5⟩
      have hS5 := hT4.below hB5
      clear hB5 hT4
      obtain ⟨⟨x7, c7⟩, f7⟩ := cell_there hS5.1 (j := k * 8 + 7) (by omega)
      generalize mkB _ = s5 at *
      have hT5 := (hS5.set (k * 8 + 7) (.string s5))
      go_wp2_with fail
      go_roundw
      case rel => exact ⟨k + 1, by omega, by go_num, by go_num, hT5.1, hT5.2.1, hT5.2.2⟩
      case measure => simp [intOf]; omega
    · go_wp2_with fail
      go_ret
      exact ⟨⟨_, rfl, by omega, by omega⟩, hG⟩
end Go.Proofs.YtialglmnfchfmaeGreatDoor

/- The laws mark a batch. -/
namespace Go.Proofs.YtialglmnfchfmaeGreatDoor
open Go.RowKit

/-- While slots are marked. -/
def MkL (w0 w : World) (b N : Nat) : Prop := w.there b 0 (N * 2) ∧ b < w.heap.size ∧ w0.grownBy w (some b)
theorem MkL.set {w0 w : World} {b N : Nat} (h : MkL w0 w b N) (off : Nat) (u : Value) : MkL w0 (w.setCell ⟨b, off, none⟩ u) b N :=
  ⟨there_set h.1, by simpa using h.2.1, grown_setCell h.2.2 u⟩
theorem MkL.below {w0 w w' : World} {b N : Nat} (h : MkL w0 w b N) (hB : Below w.heap.size w w') : MkL w0 w' b N :=
  ⟨there_low h.1 hB h.2.1, Nat.lt_of_lt_of_le h.2.1 hB.size, grown_trans h.2.2 (grown_below hB)⟩
set_option maxRecDepth 20000 in
set_option maxHeartbeats 4000000 in
theorem markL_any (N b c : Nat) (m : Int) (w : World) (ht : w.there b 0 (N * 2)) (hb : b < w.heap.size) (hN : N ≤ 1048576) (hm : 0 ≤ m) (hm9 : m ≤ 9000000) :
    Calls Tryz.prog 53 #[.slice (some ⟨b, 0, none⟩) N c, .int .i64 m] w fun e w' => (∃ x : Int, e = .returned (.int .i64 x) ∧ 0 ≤ x) ∧ w.grownBy w' (some b) := by
  go_enter Tryz.func53, Tryz.ntmps53
  go_wp2
  go_loopw [1, 5] (fun kk i w' => ∃ k : Nat, k ≤ N ∧ i = .int .i64 k ∧ kk = .int .i64 (m + 2 * (k : Int)) ∧ w'.there b 0 (N * 2) ∧ b < w'.heap.size ∧ w.grownBy w' (some b)) (fun _ i _ => N - (intOf i).toNat)
  case atStart => exact ⟨0, by omega, rfl, by simp, ht, hb, grown_refl _ _⟩
  case round =>
    clear ht
    obtain ⟨k, hk, rfl, rfl, ht, hbw, hG⟩ := hrel
    by_cases hp : k < N
    · have hS0 : MkL w wr b N := ⟨ht, hbw, hG⟩
      clear ht hbw hG
      go_wp2_with fail
      refine (mark_any _ _ (by omega)).mono ?_
      rintro e w1 ⟨rfl, hB1⟩
      have hS1 := hS0.below hB1
      clear hB1 hS0
      obtain ⟨⟨x0, c0⟩, f0⟩ := cell_there hS1.1 (j := k * 2) (by omega)
      generalize mkB _ = s1 at *
      have hT1 := hS1.set (k * 2) (.string s1)
      go_wp2_with fail
      refine (mark_any _ _ (by omega)).mono ?_
      rintro e w2 ⟨rfl, hB2⟩
      have hS2 := hT1.below hB2
      clear hB2 hT1
      obtain ⟨⟨x1, c1⟩, f1⟩ := cell_there hS2.1 (j := k * 2 + 1) (by omega)
      generalize mkB _ = s2 at *
      have hT2 := hS2.set (k * 2 + 1) (.string s2)
      go_wp2_with fail
      go_roundw
      case rel => exact ⟨k + 1, by omega, by go_num, by go_num, hT2.1, hT2.2.1, hT2.2.2⟩
      case measure => simp [intOf]; omega
    · go_wp2_with fail
      go_ret
      exact ⟨⟨_, rfl, by omega⟩, hG⟩

/-- Nothing has turned but two blocks, and what is new. -/
def But2 (w w' : World) (b1 b2 : Nat) : Prop := ∃ m, w.grownBy m (some b1) ∧ ∃ m', m.grownBy m' (some b2) ∧ m' = w'
set_option maxRecDepth 20000 in
set_option maxHeartbeats 4000000 in
theorem markRb_any (x : Rb) (b1 b2 base : Nat) (w : World) (h : RbO w base x b1 b2) (np : x.ps.length ≤ 1048576) (ns : x.sl.length ≤ 1048576) :
    Calls Tryz.prog 24 #[.agg #[.string x.nm, .slice (some ⟨b1, 0, none⟩) x.ps.length x.ps.length, .slice (some ⟨b2, 0, none⟩) x.sl.length x.sl.length, .string x.ad, .int .i64 x.si, .int .i64 x.st], .int .i64 1] w fun e w' => (∃ y : Int, e = .returned (.int .i64 y) ∧ 0 ≤ y) ∧ ∃ m1 m2, Below w.heap.size w m1 ∧ m1.grownBy m2 (some b1) ∧ m2.grownBy w' (some b2) := by
  go_enter Tryz.func24, Tryz.ntmps24
  go_upto_region 1 with fail
  obtain ⟨W1, hW1, kP, hB1, hs1⟩ : ∃ W1, w.alloc (.cells #[.string x.nm, .slice (some ⟨b1, 0, none⟩) x.ps.length x.ps.length, .slice (some ⟨b2, 0, none⟩) x.sl.length x.sl.length, .string x.ad, .int .i64 x.si, .int .i64 x.st] 50) = W1 ∧ CB W1 w.heap.size (#[.string x.nm, .slice (some ⟨b1, 0, none⟩) x.ps.length x.ps.length, .slice (some ⟨b2, 0, none⟩) x.sl.length x.sl.length, .string x.ad, .int .i64 x.si, .int .i64 x.st]).toList ∧ Below w.heap.size w W1 ∧ W1.heap.size = w.heap.size + 1 := ⟨_, rfl, cb1 w (#[.string x.nm, .slice (some ⟨b1, 0, none⟩) x.ps.length x.ps.length, .slice (some ⟨b2, 0, none⟩) x.sl.length x.sl.length, .string x.ad, .int .i64 x.si, .int .i64 x.st]).toList _⟩
  rw [hW1]
  clear hW1
  obtain ⟨d0, d1, d2, d3, d4, d5⟩ := kP.c6
  have h1 := h.up hB1
  have hl1 := h.r.2.2
  have hl2 := h.s.2.2
  have hl12 := h.l2
  go_wp2_with fail
  refine (markP_any x.ps.length b1 _ _ h1.r.2.1 h1.r.2.2 np).mono ?_
  rintro e w2 ⟨⟨y2, rfl, hy0, hy9⟩, hg2⟩
  have hc2 : w2.cell? ⟨w.heap.size, 2, none⟩ = some (.slice (some ⟨b2, 0, none⟩) x.sl.length x.sl.length) := hg2.cell d2 (by simp; omega)
  have ht2 : w2.there b2 0 (x.sl.length * 2) := fun j hj => by
    have hbk := hg2.block b2 h1.s.2.2 (by simp; omega)
    rw [World.cell?_of_block (w := W1) (a := ⟨b2, 0 + j, none⟩) hbk, World.frozen?_of_block (w := W1) (a := ⟨b2, 0 + j, none⟩) hbk]
    exact h1.s.2.1 j hj
  have hb2 : b2 < w2.heap.size := Nat.lt_of_lt_of_le h1.s.2.2 hg2.size
  clear d0 d1 d2 d3 d4 d5
  go_wp2_with fail
  refine (markL_any x.sl.length b2 _ _ _ ht2 hb2 ns hy0 hy9).mono ?_
  rintro e w3 ⟨⟨y3, rfl, hy3⟩, hg3⟩
  clear hc2
  go_wp2_with fail
  go_ret
  exact ⟨⟨_, rfl, hy3⟩, W1, w2, hB1, hg2, hg3⟩
end Go.Proofs.YtialglmnfchfmaeGreatDoor
