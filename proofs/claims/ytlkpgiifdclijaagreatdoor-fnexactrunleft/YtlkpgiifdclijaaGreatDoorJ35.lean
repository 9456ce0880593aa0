/- The laws' helpers over what is handed to them. -/
import Derived.Test.YtlkpgiifdclijaaGreatDoorJ34
import Derived.Test.YtlkpgiifdclijaaGreatDoorJ9
import Derived.Test.YtlkpgiifdclijaaGreatDoorJ28
namespace Go.Proofs.YtlkpgiifdclijaaGreatDoor
open Go.RowKit

theorem szS_src (ps : List Ph) (v : Value) (w : World) (h : Src w v ps) (hs : Sized ps) :
    Calls Tryz.prog 74 #[v, .int .i64 1048576] w fun e' w' => (∃ x : Int, e' = .returned (.int .i64 x) ∧ (0 ≤ x → ps.length ≤ 1048576)) ∧ Below w.heap.size w w' := by
  rcases h with ⟨a, c, rfl, rfl⟩ | ⟨b, o, c, rfl, hr, hb, hl⟩
  · refine (szS_nil a c _ w (by omega) (by omega)).mono fun e w' ⟨he, hw⟩ => ?_
    subst hw
    exact ⟨⟨_, he, fun _ => by simp⟩, Below.refl _ _⟩
  · refine (szS_any ps b o c _ w (by omega) (by omega) hr hb hs hl).mono fun e w' ⟨⟨x, he, hx, _⟩, hB⟩ => ?_
    exact ⟨⟨x, he, fun h => by have := hx h; omega⟩, hB⟩
theorem toS_src (ps : List Ph) (v : Value) (w : World) (h : Src w v ps) (hn : ps.length ≤ 1048576) :
    Calls Tryz.prog 85 #[v] w fun e w' => (∃ b, e = .returned (.slice (some ⟨b, 0, none⟩) ps.length ps.length) ∧ Own w' b ps ∧ w.heap.size ≤ b) ∧ Below w.heap.size w w' := by
  rcases h with ⟨a, c, rfl, rfl⟩ | ⟨b, o, c, rfl, hr, hb, hl⟩
  · exact (toS_nil a c w).mono fun e w' ⟨he, ho, hB⟩ => ⟨⟨_, he, ho, Nat.le_refl _⟩, hB⟩
  · exact (toS_any ps b o c w hr hb hn).mono fun e w' ⟨he, ho, hB⟩ => ⟨⟨_, he, ho, Nat.le_refl _⟩, hB⟩
theorem Own.up {w w' : World} {b : Nat} {ps : List Ph} (h : Own w b ps) (hb : Below w.heap.size w w') : Own w' b ps :=
  ⟨h.1.up hb h.2.2, there_up h.2.1 hb h.2.2, Nat.lt_of_lt_of_le h.2.2 hb.size⟩
end Go.Proofs.YtlkpgiifdclijaaGreatDoor

/- The laws' own helpers over slots of batches. -/
namespace Go.Proofs.YtlkpgiifdclijaaGreatDoor
open Go.RowKit

/-- What the slice of slots is that is handed to a law. -/
def SlSrc (w : World) (v : Value) (l : List Sl) : Prop := (∃ a c, v = .slice a 0 c ∧ l = []) ∨ ∃ b o c, v = .slice (some ⟨b, o, none⟩) l.length c ∧ SlAt w b o l ∧ b < w.heap.size ∧ l.length ≤ maxLen
theorem SlSrc.up {w w' : World} {v : Value} {l : List Sl} (h : SlSrc w v l) (hb : Below w.heap.size w w') : SlSrc w' v l := by
  rcases h with h | ⟨b, o, c, rfl, hr, hlt, hl⟩
  · exact .inl h
  · exact .inr ⟨b, o, c, rfl, hr.up hb hlt, Nat.lt_of_lt_of_le hlt hb.size, hl⟩
theorem SlSrc.shape {w : World} {v : Value} {l : List Sl} (h : SlSrc w v l) : ∃ a c, v = .slice a l.length c := by
  rcases h with ⟨a, c, rfl, rfl⟩ | ⟨b, o, c, rfl, _⟩
  · exact ⟨a, c, rfl⟩
  · exact ⟨_, _, rfl⟩
theorem Src.shape {w : World} {v : Value} {ps : List Ph} (h : Src w v ps) : ∃ a c, v = .slice a ps.length c := by
  rcases h with ⟨a, c, rfl, rfl⟩ | ⟨b, o, c, rfl, _⟩
  · exact ⟨a, c, rfl⟩
  · exact ⟨_, _, rfl⟩
def SlZ (l : List Sl) : Prop := ∀ y ∈ l, y.s.size ≤ maxLen ∧ y.t.size ≤ maxLen
/-- Slots in a block of their own. -/
def OwnSl (w : World) (b : Nat) (l : List Sl) : Prop := SlAt w b 0 l ∧ w.there b 0 (l.length * 2) ∧ b < w.heap.size
theorem OwnSl.up {w w' : World} {b : Nat} {l : List Sl} (h : OwnSl w b l) (hb : Below w.heap.size w w') : OwnSl w' b l :=
  ⟨h.1.up hb h.2.2, there_up h.2.1 hb h.2.2, Nat.lt_of_lt_of_le h.2.2 hb.size⟩

theorem szSlot_any (x : Sl) (l : Int) (w : World) (hl : 0 ≤ l) (hl' : l ≤ 1048576) (hs : x.s.size ≤ maxLen) (ht : x.t.size ≤ maxLen) :
    Calls Tryz.prog 111 #[.agg #[.string x.s, .string x.t], .int .i64 l] w fun e' w' => (∃ y : Int, e' = .returned (.int .i64 y) ∧ y ≤ l ∧ -1 ≤ y) ∧ Below w.heap.size w w' := by
  unfold maxLen at *
  go_enter Tryz.func111, Tryz.ntmps111
  go_wp2
  all_goals
    go_ret
    exact ⟨⟨_, rfl, by omega, by omega⟩, (Below.refl _ _).alloc (Nat.le_refl _) _⟩
theorem szSlots_nil (a : Option Addr) (c : Nat) (l : Int) (w : World) (hl : 0 ≤ l) (hl' : l ≤ 1048576) :
    Calls Tryz.prog 75 #[.slice a 0 c, .int .i64 l] w fun e' w' => e' = .returned (.int .i64 l) ∧ w' = w := by
  go_enter Tryz.func75, Tryz.ntmps75
  go_wp2
  go_rounds 1
  go_ret
  exact ⟨rfl, rfl⟩
set_option maxHeartbeats 1000000 in
theorem szSlots_any (ls : List Sl) (b o c : Nat) (l : Int) (w : World) (hl : 0 ≤ l) (hl' : l ≤ 1048576) (hr : SlAt w b o ls) (hb : b < w.heap.size) (hs : SlZ ls) (hn : ls.length ≤ maxLen) :
    Calls Tryz.prog 75 #[.slice (some ⟨b, o, none⟩) ls.length c, .int .i64 l] w
      fun e' w' => (∃ x : Int, e' = .returned (.int .i64 x) ∧ (0 ≤ x → (ls.length : Int) ≤ l) ∧ x ≤ 1048576) ∧ Below w.heap.size w w' := by
  unfold maxLen at hn
  by_cases h0 : l - ls.length < 0
  · go_enter Tryz.func75, Tryz.ntmps75
    go_wp2
    go_ret
    exact ⟨⟨_, rfl, by omega, by omega⟩, Below.refl _ _⟩
  have H0 : Hid ((ls.length : Int) ≤ l) := by show _ ≤ _; omega
  go_enter Tryz.func75, Tryz.ntmps75
  go_wp2
  go_loopw [1, 5] (fun x i w' => ∃ (k : Nat) (y : Int), k ≤ ls.length ∧ i = .int .i64 k ∧ x = .int .i64 y ∧ 0 ≤ y ∧ y ≤ 1048576 ∧ Below w.heap.size w w') (fun _ i _ => ls.length - (intOf i).toNat)
  case atStart => exact ⟨0, _, by omega, rfl, rfl, by omega, by omega, Below.refl _ _⟩
  case round =>
    obtain ⟨k, y, hk, rfl, rfl, hy, hy', hB⟩ := hrel
    by_cases hp : k < ls.length
    · obtain ⟨c0, c1⟩ := hr.cells k hp
      obtain ⟨z0, z1⟩ := hs ls[k] (by simp)
      obtain ⟨hc, hf⟩ := bcell hB
      generalize ls[k] = s0 at *
      go_wp2_with fail
      refine (szSlot_any s0 _ _ hy hy' z0 z1).mono ?_
      rintro e' w1 ⟨⟨x, rfl, hx1, -⟩, hb1⟩
      have hB1 := up_trans hB hb1
      by_cases hx : x < 0
      · go_wp2_with fail
        go_ret
        exact ⟨⟨_, rfl, by omega, by omega⟩, hB1⟩
      · go_wp2_with fail
        go_roundw
        case rel => exact ⟨k + 1, x, by omega, by go_num, rfl, by omega, by omega, hB1⟩
        case measure => simp [intOf]; omega
    · go_wp2_with fail
      go_ret
      exact ⟨⟨_, rfl, fun _ => H0.out, hy'⟩, hB⟩
theorem szSlots_src (ls : List Sl) (v : Value) (l : Int) (w : World) (hl : 0 ≤ l) (hl' : l ≤ 1048576) (h : SlSrc w v ls) (hs : SlZ ls) :
    Calls Tryz.prog 75 #[v, .int .i64 l] w fun e' w' => (∃ x : Int, e' = .returned (.int .i64 x) ∧ (0 ≤ x → (ls.length : Int) ≤ l) ∧ x ≤ 1048576) ∧ Below w.heap.size w w' := by
  rcases h with ⟨a, c, rfl, rfl⟩ | ⟨b, o, c, rfl, hr, hb, hn⟩
  · refine (szSlots_nil a c _ w hl hl').mono fun e w' ⟨he, hw⟩ => ?_
    subst hw
    exact ⟨⟨_, he, fun _ => by simpa using hl, hl'⟩, Below.refl _ _⟩
  · exact szSlots_any ls b o c l w hl hl' hr hb hs hn
theorem szS_src2 (ps : List Ph) (v : Value) (l : Int) (w : World) (hl : 0 ≤ l) (hl' : l ≤ 1048576) (h : Src w v ps) (hs : Sized ps) :
    Calls Tryz.prog 74 #[v, .int .i64 l] w fun e' w' => (∃ x : Int, e' = .returned (.int .i64 x) ∧ (0 ≤ x → (ps.length : Int) ≤ l) ∧ x ≤ 1048576) ∧ Below w.heap.size w w' := by
  rcases h with ⟨a, c, rfl, rfl⟩ | ⟨b, o, c, rfl, hr, hb, hn⟩
  · refine (szS_nil a c _ w hl hl').mono fun e w' ⟨he, hw⟩ => ?_
    subst hw
    exact ⟨⟨_, he, fun _ => by simpa using hl, hl'⟩, Below.refl _ _⟩
  · exact szS_any ps b o c l w hl hl' hr hb hs hn

theorem infoSlot : (Tryz.prog.info? 113).map (fun i => (i.zero, i.size, i.bytes)) = some (some (.agg #[.string ⟨#[]⟩, .string ⟨#[]⟩]), 2, 32) := by kernel_rfl
theorem sizeSlot : (Tryz.prog.info? 113).map (·.size) = some 2 := by kernel_rfl
theorem run_makeSlots (n : Nat) (hn : n ≤ 1048576) : ∃ C : Array Value, C.size = n * 2 ∧ ∀ w, (Instr.makeSlice 49 (.int .i64 (n : Int)) (.int .i64 (n : Int))).run Tryz.prog w = .ok (.slice (some ⟨w.heap.size, 0, none⟩) n n) (w.alloc (.cells C 113)) := by
  obtain ⟨i, hi, hz⟩ := Option.map_eq_some_iff.1 infoSlot
  simp only [Prod.mk.injEq] at hz
  obtain ⟨hz, hs, hb⟩ := hz
  refine ⟨madeCells (Value.agg #[.string ⟨#[]⟩, .string ⟨#[]⟩]).cells (n * 2), size_madeCells _ _, fun w => ?_⟩
  have := run_make (P := Tryz.prog) w 49 113 i _ Tryz.underlying49 hi hz .i64 .i64 (n : Int) (n : Int) (by omega) (by omega) (by rw [hb]; omega) (by omega)
  simp only [Int.toNat_natCast, hs] at this
  exact this
theorem slAt_store {w1 : World} {b k : Nat} {l : List Sl} (hk : k < l.length) (h : SlAt w1 b 0 (l.take k)) (ht : w1.there b 0 (l.length * 2)) : SlAt (w1.setCells b (k * 2) (l[k]).cells) b 0 (l.take (k + 1)) := by
  intro i p hp
  by_cases hi : i < k
  · refine World.rangeAt_setCells_apart (h i p ?_) b (k * 2) _ (.inr (.inl ?_))
    · rw [List.getElem?_take] at hp ⊢; rw [if_pos (by omega)] at hp; rw [if_pos hi]; exact hp
    · simp [Sl.cells]; omega
  · have hik : i = k := by
      rw [List.getElem?_take] at hp
      split at hp
      · omega
      · cases hp
    subst hik
    rw [List.getElem?_take, if_pos (by omega), List.getElem?_eq_getElem hk] at hp
    obtain rfl := Option.some.inj hp
    rw [Nat.zero_add]
    refine World.rangeAt_setCells_same _ _ _ _ (fun j hj => ?_)
    have := ht (i * 2 + j) (by simp [Sl.cells] at hj; omega)
    simpa using this
theorem toSlot_any (x : Sl) (w : World) : Calls Tryz.prog 123 #[.agg #[.string x.s, .string x.t]] w fun e' w' => e' = .returned (.agg #[.string x.s, .string x.t]) ∧ Below w.heap.size w w' := by
  go_enter Tryz.func123, Tryz.ntmps123
  go_wp2
  go_returns
  exact ⟨rfl, by go_grown⟩
theorem toSlots_nil (a : Option Addr) (c : Nat) (w : World) :
    Calls Tryz.prog 86 #[.slice a 0 c] w fun e w' => e = .returned (.slice (some ⟨w.heap.size, 0, none⟩) 0 0) ∧ OwnSl w' w.heap.size [] ∧ Below w.heap.size w w' := by
  obtain ⟨C, hC, hmk⟩ := run_makeSlots 0 (by omega)
  have HC : Hid (C.size = 0 * 2) := hC
  clear hC
  simp only [Int.natCast_zero] at hmk
  go_enter Tryz.func86, Tryz.ntmps86
  go_wp2
  go_rounds 1
  go_ret
  exact ⟨rfl, ⟨fun i p hp => by simp at hp, fun j hj => by simp at hj, by simp⟩, by go_grown⟩
set_option maxHeartbeats 1000000 in
theorem toSlots_any (l : List Sl) (b o c : Nat) (w : World) (hr : SlAt w b o l) (hb : b < w.heap.size) (hn : l.length ≤ 1048576) :
    Calls Tryz.prog 86 #[.slice (some ⟨b, o, none⟩) l.length c] w fun e w' => e = .returned (.slice (some ⟨w.heap.size, 0, none⟩) l.length l.length) ∧ OwnSl w' w.heap.size l ∧ Below w.heap.size w w' := by
  obtain ⟨C, hC, hmk⟩ := run_makeSlots l.length hn
  have HC : Hid (C.size = l.length * 2) := hC
  clear hC
  go_enter Tryz.func86, Tryz.ntmps86
  go_wp2
  go_loopw [4] (fun i w' => ∃ k : Nat, k ≤ l.length ∧ i = .int .i64 k ∧ SlAt w' w.heap.size 0 (l.take k) ∧ w'.there w.heap.size 0 (l.length * 2) ∧ w.heap.size < w'.heap.size ∧ Below w.heap.size w w') (fun i _ => l.length - (intOf i).toNat)
  case atStart => exact ⟨0, by omega, rfl, fun i p hp => by simp at hp, by rw [← HC.out]; exact there_alloc _ _ _, by simp, by go_grown⟩
  case round =>
    obtain ⟨k, hk, rfl, hra, hth, hlt, hB⟩ := hrel
    have Hra : Hid (SlAt wr w.heap.size 0 (l.take k)) := hra
    have Hth : Hid (wr.there w.heap.size 0 (l.length * 2)) := hth
    clear hra hth
    by_cases hp : k < l.length
    · obtain ⟨c0, c1⟩ := hr.cells k hp
      obtain ⟨hc, hf⟩ := bcell hB
      have Hst : Hid (∀ w1, Below wr.heap.size wr w1 → SlAt (w1.setCells w.heap.size (k * 2) (l[k]).cells) w.heap.size 0 (l.take (k + 1))) := fun w1 hb1 => slAt_store hp (Hra.out.up hb1 hlt) (there_up Hth.out hb1 hlt)
      generalize l[k] = s0 at *
      go_wp2_with fail
      refine (toSlot_any s0 _).mono ?_
      rintro e' w1 ⟨rfl, hb1⟩
      clear hc hf c0 c1
      go_wp2_with (refine wpList_store_mid rfl 113 _ _ rfl w.heap.size (k * 2) _ rfl rfl (fun j hj => by
          have := there_up Hth.out hb1 hlt (k * 2 + j) (by simp at hj; omega)
          simpa using this) sizeSlot (by simp [Value.oneCell']) ?_)
      go_roundw
      case rel => exact ⟨k + 1, by omega, by go_num, Hst.out w1 hb1, World.there_setCells (there_up Hth.out hb1 hlt) _ _ _, Nat.lt_of_lt_of_le (Nat.lt_of_lt_of_le hlt hb1.size) (size_setCells _ _ _ _), below_setCells _ _ _ _ _ _ (up_trans hB hb1) (Nat.le_refl _)⟩
      case measure => simp [intOf]; omega
    · go_wp2_with fail
      go_ret
      exact ⟨rfl, ⟨by have := Hra.out; rwa [List.take_of_length_le (by omega)] at this, Hth.out, hlt⟩, hB⟩
theorem toSlots_src (l : List Sl) (v : Value) (w : World) (h : SlSrc w v l) (hn : l.length ≤ 1048576) :
    Calls Tryz.prog 86 #[v] w fun e w' => (∃ b, e = .returned (.slice (some ⟨b, 0, none⟩) l.length l.length) ∧ OwnSl w' b l ∧ w.heap.size ≤ b) ∧ Below w.heap.size w w' := by
  rcases h with ⟨a, c, rfl, rfl⟩ | ⟨b, o, c, rfl, hr, hb, hl⟩
  · exact (toSlots_nil a c w).mono fun e w' ⟨he, ho, hB⟩ => ⟨⟨_, he, ho, Nat.le_refl _⟩, hB⟩
  · exact (toSlots_any l b o c w hr hb hn).mono fun e w' ⟨he, ho, hB⟩ => ⟨⟨_, he, ho, Nat.le_refl _⟩, hB⟩
theorem eqSlot_any (x : Sl) (w : World) : Calls Tryz.prog 150 #[.agg #[.string x.s, .string x.t], .agg #[.string x.s, .string x.t]] w fun e w' => e = .returned (.bool true) ∧ Below w.heap.size w w' := by
  go_enter Tryz.func150, Tryz.ntmps150
  go_wp2
  go_ret
  exact ⟨rfl, by go_grown⟩
set_option maxHeartbeats 1000000 in
theorem eqSlots_any (l : List Sl) (b b2 cA cB : Nat) (w : World) (hr : SlAt w b 0 l) (hb : b < w.heap.size) (hr2 : SlAt w b2 0 l) (hb2 : b2 < w.heap.size) (hn : l.length ≤ 1048576) :
    Calls Tryz.prog 105 #[.slice (some ⟨b, 0, none⟩) l.length cA, .slice (some ⟨b2, 0, none⟩) l.length cB] w fun e w' => e = .returned (.bool true) ∧ Below w.heap.size w w' := by
  go_enter Tryz.func105, Tryz.ntmps105
  go_wp2
  go_loopw [5] (fun i w' => ∃ k : Nat, k ≤ l.length ∧ i = .int .i64 k ∧ Below w.heap.size w w') (fun i _ => l.length - (intOf i).toNat)
  case atStart => exact ⟨0, by omega, rfl, Below.refl _ _⟩
  case round =>
    obtain ⟨k, hk, rfl, hB⟩ := hrel
    by_cases hp : k < l.length
    · obtain ⟨c0, c1⟩ := hr.cells k hp
      obtain ⟨d0, d1⟩ := hr2.cells k hp
      simp only [Nat.zero_add] at c0 c1 d0 d1
      obtain ⟨hc, hf⟩ := bcell hB
      generalize l[k] = s0 at *
      go_wp2_with fail
      go_region_with (go_at_call 150; refine (eqSlot_any s0 _).mono ?_; rintro e w1 ⟨rfl, hb1⟩)
      all_goals
        have hB1 := up_trans hB.drew hb1
        clear hc hf c0 c1 d0 d1
        go_wp2_with fail
        go_roundw
        case rel => exact ⟨k + 1, by omega, by go_num, hB1⟩
        case measure => simp [intOf]; omega
    · go_wp2_with fail
      go_ret
      exact ⟨rfl, hB⟩
end Go.Proofs.YtlkpgiifdclijaaGreatDoor

/- The laws' own helpers over those that ended. -/
namespace Go.Proofs.YtlkpgiifdclijaaGreatDoor
open Go.RowKit

def Done.cells (x : Done) : List Value := [.string x.nm, .int .i64 x.e, .int .i64 x.t]
theorem DnsAt.cells {w : World} {b o : Nat} {l : List Done} (h : DnsAt w b o l) (i : Nat) (hi : i < l.length) : w.cell? ⟨b, o + i * 3, none⟩ = some (.string (l[i]).nm) ∧ w.cell? ⟨b, o + i * 3 + 1, none⟩ = some (.int .i64 (l[i]).e) ∧ w.cell? ⟨b, o + i * 3 + 2, none⟩ = some (.int .i64 (l[i]).t) := by
  have hr := (h i l[i] (by simp)).1
  exact ⟨hr 0 _ rfl, hr 1 _ rfl, hr 2 _ rfl⟩
theorem szDone_any (x : Done) (l : Int) (w : World) (hl : 0 ≤ l) (hl' : l ≤ 1048576) (hs : x.nm.size ≤ maxLen) :
    Calls Tryz.prog 41 #[.agg #[.string x.nm, .int .i64 x.e, .int .i64 x.t], .int .i64 l] w fun e' w' => (∃ y : Int, e' = .returned (.int .i64 y) ∧ y ≤ l ∧ -1 ≤ y) ∧ Below w.heap.size w w' := by
  unfold maxLen at *
  go_enter Tryz.func41, Tryz.ntmps41
  go_wp2
  all_goals
    go_ret
    exact ⟨⟨_, rfl, by omega, by omega⟩, (Below.refl _ _).alloc (Nat.le_refl _) _⟩
set_option maxHeartbeats 1000000 in
theorem szDones_any (ls : List Done) (v : Value) (l : Int) (w : World) (hl : 0 ≤ l) (hl' : l ≤ 1048576) (h : Dns w v ls) :
    Calls Tryz.prog 14 #[v, .int .i64 l] w
      fun e' w' => (∃ x : Int, e' = .returned (.int .i64 x) ∧ (0 ≤ x → (ls.length : Int) ≤ l) ∧ x ≤ 1048576) ∧ Below w.heap.size w w' := by
  obtain ⟨a, c, rfl, hn, hpos⟩ := h
  unfold maxLen at hn
  by_cases h0 : l - ls.length < 0
  · go_enter Tryz.func14, Tryz.ntmps14
    go_wp2
    go_ret
    exact ⟨⟨_, rfl, by omega, by omega⟩, Below.refl _ _⟩
  have H0 : Hid ((ls.length : Int) ≤ l) := by show _ ≤ _; omega
  go_enter Tryz.func14, Tryz.ntmps14
  go_wp2
  go_loopw [1, 5] (fun x i w' => ∃ (k : Nat) (y : Int), k ≤ ls.length ∧ i = .int .i64 k ∧ x = .int .i64 y ∧ 0 ≤ y ∧ y ≤ 1048576 ∧ Below w.heap.size w w') (fun _ i _ => ls.length - (intOf i).toNat)
  case atStart => exact ⟨0, _, by omega, rfl, rfl, by omega, by omega, Below.refl _ _⟩
  case round =>
    obtain ⟨k, y, hk, rfl, rfl, hy, hy', hB⟩ := hrel
    by_cases hp : k < ls.length
    · obtain ⟨b, o, ha, hr, hb⟩ := hpos (by omega)
      subst ha
      obtain ⟨c0, c1, c2⟩ := hr.cells k hp
      have z0 := (hr k _ (List.getElem?_eq_getElem hp)).2
      obtain ⟨hc, hf⟩ := bcell hB
      generalize ls[k] = s0 at *
      go_wp2_with fail
      refine (szDone_any s0 _ _ hy hy' z0).mono ?_
      rintro e' w1 ⟨⟨x, rfl, hx1, -⟩, hb1⟩
      have hB1 := up_trans hB hb1
      by_cases hx : x < 0
      · go_wp2_with fail
        go_ret
        exact ⟨⟨_, rfl, by omega, by omega⟩, hB1⟩
      · go_wp2_with fail
        go_roundw
        case rel => exact ⟨k + 1, x, by omega, by go_num, rfl, by omega, by omega, hB1⟩
        case measure => simp [intOf]; omega
    · go_wp2_with fail
      go_ret
      exact ⟨⟨_, rfl, fun _ => H0.out, hy'⟩, hB⟩
theorem toDone_any (x : Done) (w : World) : Calls Tryz.prog 55 #[.agg #[.string x.nm, .int .i64 x.e, .int .i64 x.t]] w fun e' w' => e' = .returned (.agg #[.string x.nm, .int .i64 x.e, .int .i64 x.t]) ∧ Below w.heap.size w w' := by
  go_enter Tryz.func55, Tryz.ntmps55
  go_wp2
  go_returns
  exact ⟨rfl, by go_grown⟩
theorem eqDone_any (x : Done) (w : World) : Calls Tryz.prog 71 #[.agg #[.string x.nm, .int .i64 x.e, .int .i64 x.t], .agg #[.string x.nm, .int .i64 x.e, .int .i64 x.t]] w fun e w' => e = .returned (.bool true) ∧ Below w.heap.size w w' := by
  go_enter Tryz.func71, Tryz.ntmps71
  go_wp2
  go_ret
  exact ⟨rfl, by go_grown⟩
end Go.Proofs.YtlkpgiifdclijaaGreatDoor
