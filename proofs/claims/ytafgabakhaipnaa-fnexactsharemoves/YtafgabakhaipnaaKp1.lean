/- The program's walks over names and lists of texts (chapter 11). -/
import Derived.Test.YtafgabakhaipnaaJ14
import Derived.Test.YtafgabakhaipnaaJ0
import Derived.Test.YtafgabakhaipnaaJ17
namespace Go.Proofs.Ytafgabakhaipnaa
open Go.RowKit

theorem indexN_any (ss : List ByteArray) (v : Value) (s : ByteArray) (w : World) (h : Ls w v ss) :
    Calls Try.prog 74 #[v, .string s] w fun e w' => e = .returned (.int .i64 (idxI ss s)) ∧ w' = w := by
  obtain ⟨a, c, rfl, hn, -, hpos⟩ := h
  unfold maxLen at hn
  go_enter Try.func74, Try.ntmps74
  go_wp2
  go_loop [8] (fun i => ∃ k : Nat, k ≤ ss.length ∧ i = .int .i64 k ∧ memS (ss.take k) s = false) (fun i => ss.length - (intOf i).toNat)
  case atStart => exact ⟨0, by omega, rfl, rfl⟩
  case round =>
    obtain ⟨k, hk, rfl, hal⟩ := hrel
    have Hal : Hid (memS (ss.take k) s = false) := hal
    clear hal
    by_cases hp : k < ss.length
    · obtain ⟨b, o, rfl, hS, hb⟩ := hpos (by omega)
      have c0 := hS.cell hp
      cases hq : (s.toList == (ss[k]).toList)
      · have Hq : Hid (((ss[k]).toList == s.toList) = false) := by show _ = _; rw [beq_flip]; exact hq
        go_wp2
        go_round
        case rel => exact ⟨k + 1, by omega, by go_num, memS_take hp Hal.out Hq.out⟩
        case measure => simp [intOf]; omega
      · have Hq : Hid (((ss[k]).toList == s.toList) = true) := by show _ = _; rw [beq_flip]; exact hq
        go_wp2
        go_ret
        exact ⟨ret_int (idxI_found hp Hal.out Hq.out).symm, rfl⟩
    · go_wp2
      go_ret
      exact ⟨ret_int (idxI_none (memS_all hp Hal.out)).symm, rfl⟩

theorem containsN_any (ss : List ByteArray) (v : Value) (s : ByteArray) (w : World) (h : Ls w v ss) :
    Calls Try.prog 52 #[v, .string s] w fun e w' => e = .returned (.bool (memS ss s)) ∧ w' = w := by
  obtain ⟨a, c, rfl, -⟩ := id h
  go_enter Try.func52, Try.ntmps52
  go_wp2_with (go_at_call 74; refine (indexN_any ss _ _ _ h).mono ?_; rintro e w' ⟨rfl, hw⟩; obtain rfl := hw.symm; clear hw)
  all_goals
    go_ret
    refine ⟨ret_bool ?_, rfl⟩
    rw [← idxI_mem]
    try simp_all

theorem asc_any (ss : List ByteArray) (u : Value) (w : World) (h : Ls w u ss) :
    Calls Try.prog 42 #[u] w fun e w' => e = .returned (.bool (pB (Asc ss))) ∧ Below w.heap.size w w' := by
  obtain ⟨a, c, rfl, hn, -, hpos⟩ := h
  unfold maxLen at hn
  go_enter Try.func42, Try.ntmps42
  go_wp2
  go_loopw [3] (fun i w' => ∃ k : Nat, (k + 1 ≤ ss.length ∨ k = 0) ∧ i = .int .i64 (k + 1) ∧ AscTo ss (k + 1) ∧ Below w.heap.size w w') (fun i _ => ss.length - (intOf i).toNat)
  case atStart => exact ⟨0, .inr rfl, rfl, AscTo.one _, Below.refl _ _⟩
  case round =>
    obtain ⟨k, hk, rfl, hasc, hB⟩ := hrel
    have Hasc : Hid (AscTo ss (k + 1)) := hasc
    clear hasc
    by_cases hp : k + 1 < ss.length
    · obtain ⟨b, o, rfl, hS, hb⟩ := hpos (by omega)
      have c0 := (hS.up hB hb).cell hp
      have c1 := (hS.up hB hb).cell (k := k) (by omega)
      clear hk
      cases hl : ltS ss[k] ss[k + 1]
      · have Hl : Hid (¬ Asc ss) := fun h => by rw [asc_at h hp] at hl; cases hl
        unfold ltS at hl
        go_wp2_with fail
        go_quiet (fail)
        go_wp2
        go_ret
        exact ⟨ret_bool (pB_no Hl.out).symm, below_drewN hB _⟩
      · have Hl : Hid (AscTo ss (k + 2)) := Hasc.out.step hp hl
        unfold ltS at hl
        go_wp2_with fail
        go_quiet (fail)
        go_wp2
        go_roundw
        case rel => exact ⟨k + 1, .inl (by omega), by go_num, Hl.out, below_drewN hB _⟩
        case measure => simp [intOf]; omega
    · go_wp2
      go_ret
      exact ⟨ret_bool (pB_yes (asc_end Hasc.out hp)).symm, hB⟩

theorem ordered_any (ss : List ByteArray) (u : Value) (w : World) (h : Ls w u ss) :
    Calls Try.prog 33 #[u] w fun e w' => e = .returned (.bool (pB (Names ss ∧ Asc ss))) ∧ Below w.heap.size w w' := by
  have h0 := h
  obtain ⟨a, c, rfl, hn, hz, hpos⟩ := h
  unfold maxLen at hn
  go_enter Try.func33, Try.ntmps33
  go_wp2
  go_loopw [4, 7] (fun _ i w' => ∃ k : Nat, k ≤ ss.length ∧ i = .int .i64 k ∧ NamesTo ss k ∧ Below w.heap.size w w') (fun _ i _ => ss.length - (intOf i).toNat)
  case atStart => exact ⟨0, by omega, rfl, NamesTo.zero _, Below.refl _ _⟩
  case round =>
    obtain ⟨k, hk, rfl, hal, hB⟩ := hrel
    have Hal : Hid (NamesTo ss k) := hal
    clear hal
    by_cases hp : k < ss.length
    · obtain ⟨b, o, rfl, hS, hb⟩ := hpos (by omega)
      have c0 := (hS.up hB hb).cell hp
      have z0 := hz ss[k] (by simp)
      cases hq : nameB ss[k]
      · have Hq : Hid (¬ (Names ss ∧ Asc ss)) := fun h => by rw [names_at h.1 hp] at hq; cases hq
        go_wp2_with (go_at_call 41; refine (shName_any _ _ z0).mono ?_; rintro e w1 ⟨rfl, hb1⟩; (first | replace hB := up_trans hB hb1 | have hB := hb1); clear hb1; (try clear hc hf); obtain ⟨hc, hf⟩ := bcell hB)
        go_ret
        exact ⟨ret_bool (pB_no Hq.out).symm, hB⟩
      · have Hq : Hid (NamesTo ss (k + 1)) := Hal.out.step hp hq
        go_wp2_with (go_at_call 41; refine (shName_any _ _ z0).mono ?_; rintro e w1 ⟨rfl, hb1⟩; (first | replace hB := up_trans hB hb1 | have hB := hb1); clear hb1; (try clear hc hf); obtain ⟨hc, hf⟩ := bcell hB)
        go_roundw
        case rel => exact ⟨k + 1, by omega, by go_num, Hq.out, hB⟩
        case measure => simp [intOf]; omega
    · have Hq : Hid (Names ss) := names_end Hal.out hp
      have Hp : Hid (pB (Names ss ∧ Asc ss) = pB (Asc ss)) := by
        show _ = _
        have := Hq.out
        unfold pB; simp [this]
      go_wp2_with (go_at_call 42; refine (asc_any ss _ _ (h0.up hB)).mono ?_; rintro e w1 ⟨rfl, hb1⟩; (first | replace hB := up_trans hB hb1 | have hB := hb1); clear hb1; (try clear hc hf); obtain ⟨hc, hf⟩ := bcell hB)
      go_ret
      exact ⟨ret_bool Hp.out.symm, hB⟩

theorem partOf_any (ss all : List ByteArray) (u v : Value) (w : World) (h : Ls w u ss) (h2 : Ls w v all) :
    Calls Try.prog 43 #[u, v] w fun e w' => e = .returned (.bool (pB (PartOk ss all))) ∧ Below w.heap.size w w' := by
  have h0 := h
  obtain ⟨a, c, rfl, hn, hz, hpos⟩ := h
  obtain ⟨a2, c2, rfl, -⟩ := id h2
  unfold maxLen at hn
  go_enter Try.func43, Try.ntmps43
  go_wp2
  go_loopw [6, 9] (fun _ i w' => ∃ k : Nat, k ≤ ss.length ∧ i = .int .i64 k ∧ PartTo ss all k ∧ Below w.heap.size w w') (fun _ i _ => ss.length - (intOf i).toNat)
  case atStart => exact ⟨0, by omega, rfl, PartTo.zero _ _, Below.refl _ _⟩
  case round =>
    obtain ⟨k, hk, rfl, hal, hB⟩ := hrel
    have Hal : Hid (PartTo ss all k) := hal
    clear hal
    by_cases hp : k < ss.length
    · obtain ⟨b, o, rfl, hS, hb⟩ := hpos (by omega)
      have c0 := (hS.up hB hb).cell hp
      cases hq : memS all ss[k]
      · have Hq : Hid (¬ PartOk ss all) := fun h => by rw [part_at h.1 hp] at hq; cases hq
        go_wp2_with (go_at_call 52; refine (containsN_any all _ _ _ (h2.up hB)).mono ?_; rintro e w' ⟨rfl, hw⟩; obtain rfl := hw.symm; clear hw)
        go_ret
        exact ⟨ret_bool (pB_no Hq.out).symm, hB⟩
      · have Hq : Hid (PartTo ss all (k + 1)) := Hal.out.step hp hq
        go_wp2_with (go_at_call 52; refine (containsN_any all _ _ _ (h2.up hB)).mono ?_; rintro e w' ⟨rfl, hw⟩; obtain rfl := hw.symm; clear hw)
        go_roundw
        case rel => exact ⟨k + 1, by omega, by go_num, Hq.out, hB⟩
        case measure => simp [intOf]; omega
    · have Hq : Hid (Part ss all) := part_end Hal.out hp
      have Hp : Hid (pB (PartOk ss all) = pB (Asc ss)) := by
        show _ = _
        have := Hq.out
        unfold pB PartOk; simp [this]
      go_wp2_with (go_at_call 42; refine (asc_any ss _ _ (h0.up hB)).mono ?_; rintro e w1 ⟨rfl, hb1⟩; (first | replace hB := up_trans hB hb1 | have hB := hb1); clear hb1; (try clear hc hf); obtain ⟨hc, hf⟩ := bcell hB)
      go_ret
      exact ⟨ret_bool Hp.out.symm, hB⟩

set_option maxHeartbeats 1000000 in
theorem batchOk_any (x : Ba) (things : List ByteArray) (hv nv tv : Value) (w : World) (h1 : Ls w hv x.has) (h2 : Ls w nv x.needs) (h3 : Ls w tv things) :
    Calls Try.prog 35 #[.agg #[.string x.nm, hv, nv], tv] w fun e w' => e = .returned (.bool (pB (BaOk things x))) ∧ Below w.heap.size w w' := by
  obtain ⟨a1, c1, rfl, -⟩ := id h1
  obtain ⟨a2, c2, rfl, -⟩ := id h2
  obtain ⟨a3, c3, rfl, -⟩ := id h3
  have hC : CB (w.alloc (.cells #[.string x.nm, .slice a1 x.has.length c1, .slice a2 x.needs.length c2] 41)) w.heap.size [.string x.nm, .slice a1 x.has.length c1, .slice a2 x.needs.length c2] := cb_alloc w _ _
  have hB0 := (Below.refl w.heap.size w).alloc (Nat.le_refl _) (.cells #[.string x.nm, .slice a1 x.has.length c1, .slice a2 x.needs.length c2] 41)
  go_enter Try.func35, Try.ntmps35
  go_upto_region 1 with fail
  generalize w.alloc (.cells #[.string x.nm, .slice a1 x.has.length c1, .slice a2 x.needs.length c2] 41) = W1 at *
  obtain ⟨⟨d0, d1, d2⟩, -⟩ := hC.c3
  have hlt := hC.2.2
  have l1 := h1.up hB0
  have l2 := h2.up hB0
  have l3 := h3.up hB0
  have hB : Below W1.heap.size W1 W1 := Below.refl _ _
  obtain ⟨hc, hf⟩ := bcell hB
  cases hq : pB (PartOk x.needs things)
  · have Hq : Hid (pB (BaOk things x) = false) := pB_no fun h => pB_not.1 hq h.1
    go_wp2_with (go_at_call 43; refine (partOf_any x.needs things _ _ _ (l2.up hB) (l3.up hB)).mono ?_; rintro e w1 ⟨rfl, hb1⟩; (first | replace hB := up_trans hB hb1 | have hB := hb1); clear hb1; (try clear hc hf); obtain ⟨hc, hf⟩ := bcell hB)
    go_ret
    exact ⟨ret_bool Hq.out.symm, up_trans hB0 hB⟩
  · have Hq : Hid (pB (BaOk things x) = pB (PartOk x.has x.needs)) := by
      show _ = _
      have := pB_iff.1 hq
      unfold pB BaOk; simp [this]
    go_wp2_with (first | (revert hq; intro hq; (go_at_call 43; refine (partOf_any x.needs things _ _ _ (l2.up hB) (l3.up hB)).mono ?_; rintro e w1 ⟨rfl, hb1⟩; (first | replace hB := up_trans hB hb1 | have hB := hb1); clear hb1; (try clear hc hf); obtain ⟨hc, hf⟩ := bcell hB); clear l3) | (go_at_call 43; refine (partOf_any x.has x.needs _ _ _ (l1.up hB) (l2.up hB)).mono ?_; rintro e w1 ⟨rfl, hb1⟩; (first | replace hB := up_trans hB hb1 | have hB := hb1); clear hb1; (try clear hc hf); obtain ⟨hc, hf⟩ := bcell hB))
    go_ret
    exact ⟨ret_bool Hq.out.symm, up_trans hB0 hB⟩
end Go.Proofs.Ytafgabakhaipnaa
