/- The specification's walks over names and lists of texts (chapter 11). -/
import Derived.Test.YtlkpgiifdclijaaGreatDoorJ21
namespace Go.Proofs.YtlkpgiifdclijaaGreatDoor
open Go.RowKit

theorem in11_any (n lo hi : Int) (w : World) :
    Calls Tryz.prog 152 #[.int .i64 n, .int .i64 lo, .int .i64 hi] w fun e w' => e = .returned (.bool (inB n lo hi)) ∧ w' = w := by
  by_cases h1 : lo ≤ n <;> by_cases h2 : n ≤ hi
  all_goals
    go_enter Tryz.func152, Tryz.ntmps152
    go_wp2
    go_ret
    exact ⟨ret_bool (by simp [inB, h1, h2]), rfl⟩

theorem name11_any (s : ByteArray) (w : World) (hs : s.size ≤ maxLen) :
    Calls Tryz.prog 113 #[.string s] w fun e w' => e = .returned (.bool (nameB s)) ∧ w' = w := by
  unfold maxLen at hs
  by_cases h1 : 1 ≤ s.size ∧ s.size ≤ 8
  case neg =>
    have h2 : inB s.size 1 8 = false := (inB_no _ _ _).2 (by omega)
    go_enter Tryz.func113, Tryz.ntmps113
    go_wp2_with (go_at_call 152; refine (in11_any _ _ _ _).mono ?_; rintro e w' ⟨rfl, hw⟩; obtain rfl := hw.symm; clear hw)
    go_ret
    exact ⟨ret_bool (by simp only [nameB]; simp; omega), rfl⟩
  have hn : Hid (nameB s = allB s.data.toList) := by show nameB s = _; simp [nameB, h1]
  have h2 : inB s.size 1 8 = true := (inB_iff _ _ _).2 (by omega)
  go_enter Tryz.func113, Tryz.ntmps113
  go_wp2_with (go_at_call 152; refine (in11_any _ _ _ _).mono ?_; rintro e w' ⟨rfl, hw⟩; obtain rfl := hw.symm; clear hw)
  go_loop [3] (fun i => ∃ k : Nat, k ≤ s.size ∧ i = .int .i64 k ∧ allB (s.data.toList.take k) = true) (fun i => s.size - (intOf i).toNat)
  case atStart => exact ⟨0, by omega, rfl, rfl⟩
  case round =>
    obtain ⟨k, hk, rfl, hal⟩ := hrel
    have Hal : Hid (allB (s.data.toList.take k) = true) := hal
    clear hal
    by_cases hp : k < s.size
    · have HS : Hid (nbB (s[k]'hp).toNat = true → allB (s.data.toList.take (k + 1)) = true) := by show _ → _; intro hb; rw [allB_take s k hp, Hal.out, hb]; rfl
      have HN : Hid (nbB (s[k]'hp).toNat = false → allB s.data.toList = false) := allB_no s k hp
      go_wp2
      all_goals first
        | (go_ret; exact ⟨ret_bool (by rw [hn.out]; exact (HN.out (by rw [← Bool.not_eq_true, nbB_iff]; go_light; simp at *; omega)).symm), rfl⟩)
        | (go_round
           case rel => exact ⟨k + 1, by omega, by go_num, HS.out (by rw [nbB_iff]; go_light; simp at *; omega)⟩
           case measure => simp [intOf]; omega)
    · go_wp2
      go_ret
      exact ⟨ret_bool (by rw [hn.out, allB_yes s k hp Hal.out]), rfl⟩

theorem has11_any (ss : List ByteArray) (v : Value) (s : ByteArray) (w : World) (h : Ls w v ss) :
    Calls Tryz.prog 82 #[v, .string s] w fun e w' => e = .returned (.bool (memS ss s)) ∧ w' = w := by
  obtain ⟨a, c, rfl, hn, -, hpos⟩ := h
  unfold maxLen at hn
  go_enter Tryz.func82, Tryz.ntmps82
  go_wp2
  go_loop [5] (fun i => ∃ k : Nat, k ≤ ss.length ∧ i = .int .i64 k ∧ memS (ss.take k) s = false) (fun i => ss.length - (intOf i).toNat)
  case atStart => exact ⟨0, by omega, rfl, rfl⟩
  case round =>
    obtain ⟨k, hk, rfl, hal⟩ := hrel
    have Hal : Hid (memS (ss.take k) s = false) := hal
    clear hal
    by_cases hp : k < ss.length
    · obtain ⟨b, o, rfl, hS, hb⟩ := hpos (by omega)
      have c0 := hS.cell hp
      cases hq : ((ss[k]).toList == s.toList)
      · have Hq : Hid (((ss[k]).toList == s.toList) = false) := hq
        go_wp2
        go_round
        case rel => exact ⟨k + 1, by omega, by go_num, memS_take hp Hal.out Hq.out⟩
        case measure => simp [intOf]; omega
      · have Hq : Hid (((ss[k]).toList == s.toList) = true) := hq
        go_wp2
        go_ret
        exact ⟨ret_bool (memS_found hp Hq.out).symm, rfl⟩
    · go_wp2
      go_ret
      exact ⟨ret_bool (memS_all hp Hal.out).symm, rfl⟩

theorem share11_any (xs ys : List ByteArray) (u v : Value) (w : World) (h : Ls w u xs) (h2 : Ls w v ys) :
    Calls Tryz.prog 115 #[u, v] w fun e w' => e = .returned (.bool (shareB xs ys)) ∧ w' = w := by
  obtain ⟨a, c, rfl, hn, -, hpos⟩ := h
  obtain ⟨a2, c2, rfl, -⟩ := id h2
  unfold maxLen at hn
  go_enter Tryz.func115, Tryz.ntmps115
  go_wp2
  go_loop [5] (fun i => ∃ k : Nat, k ≤ xs.length ∧ i = .int .i64 k ∧ shareB (xs.take k) ys = false) (fun i => xs.length - (intOf i).toNat)
  case atStart => exact ⟨0, by omega, rfl, rfl⟩
  case round =>
    obtain ⟨k, hk, rfl, hal⟩ := hrel
    have Hal : Hid (shareB (xs.take k) ys = false) := hal
    clear hal
    by_cases hp : k < xs.length
    · obtain ⟨b, o, rfl, hS, hb⟩ := hpos (by omega)
      have c0 := hS.cell hp
      cases hq : memS ys xs[k]
      · have Hq : Hid (memS ys xs[k] = false) := hq
        go_wp2_with (go_at_call 82; refine (has11_any ys _ _ _ h2).mono ?_; rintro e w' ⟨rfl, hw⟩; obtain rfl := hw.symm; clear hw)
        go_round
        case rel => exact ⟨k + 1, by omega, by go_num, shareB_take hp Hal.out Hq.out⟩
        case measure => simp [intOf]; omega
      · have Hq : Hid (memS ys xs[k] = true) := hq
        go_wp2_with (go_at_call 82; refine (has11_any ys _ _ _ h2).mono ?_; rintro e w' ⟨rfl, hw⟩; obtain rfl := hw.symm; clear hw)
        go_ret
        exact ⟨ret_bool (shareB_found hp Hq.out).symm, rfl⟩
    · go_wp2
      go_ret
      exact ⟨ret_bool (shareB_all hp Hal.out).symm, rfl⟩
theorem drew_more {w w' : World} {m n : Nat} (h : w' = w.drewN m) : ∃ k, w'.drewN n = w.drewN k := ⟨_, by rw [h, World.drewN_drewN]⟩

set_option maxHeartbeats 1000000 in
theorem namesOk11_any (ss all : List ByteArray) (u v : Value) (w : World) (h : Ls w u ss) (h2 : Ls w v all) :
    Calls Tryz.prog 114 #[u, v] w fun e w' => e = .returned (.bool (pB (PartOk ss all))) ∧ ∃ m, w' = w.drewN m := by
  obtain ⟨a, c, rfl, hn, -, hpos⟩ := h
  obtain ⟨a2, c2, rfl, -⟩ := id h2
  unfold maxLen at hn
  go_enter Tryz.func114, Tryz.ntmps114
  go_wp2
  go_loopw [5] (fun i w' => ∃ k m : Nat, k ≤ ss.length ∧ i = .int .i64 k ∧ PartTo ss all k ∧ AscTo ss k ∧ w' = w.drewN m) (fun i _ => ss.length - (intOf i).toNat)
  case atStart => exact ⟨0, 0, by omega, rfl, PartTo.zero _ _, AscTo.zero _, rfl⟩
  case round =>
    obtain ⟨k, m, hk, rfl, hal, hasc, hw⟩ := hrel
    have Hw : Hid (wr = w.drewN m) := hw
    clear hw
    have Hal : Hid (PartTo ss all k) := hal
    have Hasc : Hid (AscTo ss k) := hasc
    clear hal hasc
    by_cases hp : k < ss.length
    · obtain ⟨b, o, rfl, hS, hb⟩ := hpos (by omega)
      have c0 : wr.cell? ⟨b, o + k, none⟩ = some (.string ss[k]) := by rw [Hw.out]; exact hS.cell hp
      cases hq : memS all ss[k]
      · have Hq : Hid (¬ PartOk ss all) := fun h => by rw [part_at h.1 hp] at hq; cases hq
        go_wp2_with fail
        go_quiet ((go_at_call 82; exact Calls.quiet_of_same (has11_any all _ _ _ (by have e := Hw.out; subst e; exact h2))))
        go_wp2
        go_ret
        exact ⟨ret_bool (pB_no Hq.out).symm, drew_more Hw.out⟩
      have Hq : Hid (PartTo ss all (k + 1)) := Hal.out.step hp hq
      cases k with
      | zero =>
        simp only [Nat.add_zero] at c0
        go_wp2_with fail
        go_quiet ((go_at_call 82; exact Calls.quiet_of_same (has11_any all _ _ _ (by have e := Hw.out; subst e; exact h2))))
        go_wp2
        go_roundw
        case rel => obtain ⟨m', hm'⟩ := drew_more (n := nq) Hw.out; exact ⟨1, m', by omega, by go_num, Hq.out, AscTo.one _, hm'⟩
        case measure => simp [intOf]; omega
      | succ k =>
        have c1 : wr.cell? ⟨b, o + k, none⟩ = some (.string ss[k]) := by rw [Hw.out]; exact hS.cell (k := k) (by omega)
        cases hl : ltS ss[k] ss[k + 1]
        · have Hl : Hid (¬ PartOk ss all) := fun h => by rw [asc_at h.2 hp] at hl; cases hl
          unfold ltS at hl
          go_wp2_with fail
          go_quiet ((go_at_call 82; exact Calls.quiet_of_same (has11_any all _ _ _ (by have e := Hw.out; subst e; exact h2))))
          go_wp2
          go_ret
          exact ⟨ret_bool (pB_no Hl.out).symm, drew_more Hw.out⟩
        · have Hl : Hid (AscTo ss (k + 2)) := Hasc.out.step hp hl
          unfold ltS at hl
          go_wp2_with fail
          go_quiet ((go_at_call 82; exact Calls.quiet_of_same (has11_any all _ _ _ (by have e := Hw.out; subst e; exact h2))))
          go_wp2
          go_roundw
          case rel => obtain ⟨m', hm'⟩ := drew_more (n := nq) Hw.out; exact ⟨k + 1 + 1, m', by omega, by go_num, Hq.out, Hl.out, hm'⟩
          case measure => simp [intOf]; omega
    · go_wp2
      go_ret
      exact ⟨ret_bool (pB_yes ⟨part_end Hal.out hp, asc_end Hasc.out hp⟩).symm, _, Hw.out⟩

set_option maxHeartbeats 1000000 in
theorem thingsOk11_any (ss : List ByteArray) (u : Value) (w : World) (h : Ls w u ss) :
    Calls Tryz.prog 112 #[u] w fun e w' => e = .returned (.bool (pB (ThingsOk ss))) ∧ ∃ m, w' = w.drewN m := by
  obtain ⟨a, c, rfl, hn, hz, hpos⟩ := h
  unfold maxLen at hn
  by_cases h8 : 8 < ss.length
  · go_enter Tryz.func112, Tryz.ntmps112
    go_wp2
    go_ret
    exact ⟨ret_bool (pB_no fun h => by have := h.1; omega).symm, 0, rfl⟩
  have H8 : Hid (ss.length ≤ 8) := by show _ ≤ _; omega
  go_enter Tryz.func112, Tryz.ntmps112
  go_wp2
  go_loopw [3] (fun i w' => ∃ k m : Nat, k ≤ ss.length ∧ i = .int .i64 k ∧ NamesTo ss k ∧ AscTo ss k ∧ w' = w.drewN m) (fun i _ => ss.length - (intOf i).toNat)
  case atStart => exact ⟨0, 0, by omega, rfl, NamesTo.zero _, AscTo.zero _, rfl⟩
  case round =>
    obtain ⟨k, m, hk, rfl, hal, hasc, hw⟩ := hrel
    have Hw : Hid (wr = w.drewN m) := hw
    clear hw
    have Hal : Hid (NamesTo ss k) := hal
    have Hasc : Hid (AscTo ss k) := hasc
    clear hal hasc
    by_cases hp : k < ss.length
    · obtain ⟨b, o, rfl, hS, hb⟩ := hpos (by omega)
      have c0 : wr.cell? ⟨b, o + k, none⟩ = some (.string ss[k]) := by rw [Hw.out]; exact hS.cell hp
      have z0 := hz ss[k] (by simp)
      cases hq : nameB ss[k]
      · have Hq : Hid (¬ ThingsOk ss) := fun h => by rw [names_at h.2.1 hp] at hq; cases hq
        go_wp2_with fail
        go_quiet ((go_at_call 113; exact Calls.quiet_of_same (name11_any _ _ z0)))
        go_wp2
        go_ret
        exact ⟨ret_bool (pB_no Hq.out).symm, drew_more Hw.out⟩
      have Hq : Hid (NamesTo ss (k + 1)) := Hal.out.step hp hq
      cases k with
      | zero =>
        simp only [Nat.add_zero] at c0
        go_wp2_with fail
        go_quiet ((go_at_call 113; exact Calls.quiet_of_same (name11_any _ _ z0)))
        go_wp2
        go_roundw
        case rel => obtain ⟨m', hm'⟩ := drew_more (n := nq) Hw.out; exact ⟨1, m', by omega, by go_num, Hq.out, AscTo.one _, hm'⟩
        case measure => simp [intOf]; omega
      | succ k =>
        have c1 : wr.cell? ⟨b, o + k, none⟩ = some (.string ss[k]) := by rw [Hw.out]; exact hS.cell (k := k) (by omega)
        cases hl : ltS ss[k] ss[k + 1]
        · have Hl : Hid (¬ ThingsOk ss) := fun h => by rw [asc_at h.2.2 hp] at hl; cases hl
          unfold ltS at hl
          go_wp2_with fail
          go_quiet ((go_at_call 113; exact Calls.quiet_of_same (name11_any _ _ z0)))
          go_wp2
          go_ret
          exact ⟨ret_bool (pB_no Hl.out).symm, drew_more Hw.out⟩
        · have Hl : Hid (AscTo ss (k + 2)) := Hasc.out.step hp hl
          unfold ltS at hl
          go_wp2_with fail
          go_quiet ((go_at_call 113; exact Calls.quiet_of_same (name11_any _ _ z0)))
          go_wp2
          go_roundw
          case rel => obtain ⟨m', hm'⟩ := drew_more (n := nq) Hw.out; exact ⟨k + 1 + 1, m', by omega, by go_num, Hq.out, Hl.out, hm'⟩
          case measure => simp [intOf]; omega
    · go_wp2
      go_ret
      exact ⟨ret_bool (pB_yes ⟨H8.out, names_end Hal.out hp, asc_end Hasc.out hp⟩).symm, _, Hw.out⟩
end Go.Proofs.YtlkpgiifdclijaaGreatDoor

/- The specification's helpers of chapter 22: lists alike, part of another one; the place of a batch; those that ended. -/
namespace Go.Proofs.YtlkpgiifdclijaaGreatDoor
open Go.RowKit

set_option maxHeartbeats 2000000 in
theorem alikeS_at (sa sb : List ByteArray) (n m : Nat) (a1 a2 : Option Addr) (c1 c2 : Nat) (w : World) (Hn : Hid (sa.length = n)) (Hm : Hid (sb.length = m)) (hn9 : n ≤ maxLen) (hpa : 0 < n → ∃ b o, a1 = some ⟨b, o, none⟩ ∧ StrsAt w b o sa ∧ b < w.heap.size) (hpb : 0 < m → ∃ b o, a2 = some ⟨b, o, none⟩ ∧ StrsAt w b o sb ∧ b < w.heap.size) :
    Calls Tryz.prog 48 #[.slice a1 n c1, .slice a2 m c2] w fun e w' => e = .returned (.bool (pB (sa = sb))) ∧ Below w.heap.size w w' := by
  unfold maxLen at hn9
  by_cases hll : n = m
  case neg =>
    have HN : Hid (pB (sa = sb) = false) := pB_no fun e => hll (by rw [← Hn.out, ← Hm.out, e])
    go_enter Tryz.func48, Tryz.ntmps48
    go_wp2_with fail
    go_ret
    exact ⟨ret_bool HN.out.symm, Below.refl _ _⟩
  subst hll
  go_enter Tryz.func48, Tryz.ntmps48
  go_wp2_with fail
  go_loopw [5] (fun i w' => ∃ k : Nat, k ≤ n ∧ i = .int .i64 k ∧ (∀ i, i < k → sa[i]? = sb[i]?) ∧ Below w.heap.size w w') (fun i _ => n - (intOf i).toNat)
  case atStart => exact ⟨0, by omega, rfl, fun i hi => by omega, Below.refl _ _⟩
  case round =>
    obtain ⟨k, hk, rfl, hal, hB⟩ := hrel
    have Hal : Hid (∀ i, i < k → sa[i]? = sb[i]?) := hal
    clear hal
    by_cases hp : k < n
    · obtain ⟨b1, o1, rfl, hS1, hb1⟩ := hpa (by omega)
      obtain ⟨b2, o2, rfl, hS2, hb2⟩ := hpb (by omega)
      have h1 : k < sa.length := by have := Hn.out; omega
      have h2 : k < sb.length := by have := Hm.out; omega
      have e1 := (hB.cell (p := ⟨b1, o1 + k, none⟩) hb1).trans (hS1 k sa[k] (List.getElem?_eq_getElem h1))
      have e2 := (hB.cell (p := ⟨b2, o2 + k, none⟩) hb2).trans (hS2 k sb[k] (List.getElem?_eq_getElem h2))
      have N1 : Hid (((sa[k]).toList == (sb[k]).toList) = false → ¬ sa = sb) := fun hq e => by
        subst e; simp at hq
      have N2 : Hid (((sa[k]).toList == (sb[k]).toList) = true → ∀ i, i < k + 1 → sa[i]? = sb[i]?) := fun hq i hi => by
        rcases Nat.lt_or_ge i k with h' | h'
        · exact Hal.out i h'
        · obtain rfl : i = k := by omega
          have e : sa[i] = sb[i] := toL_eq (by simpa using hq)
          rw [List.getElem?_eq_getElem h1, List.getElem?_eq_getElem h2, e]
      generalize sa[k] = s1 at *
      generalize sb[k] = s2 at *
      clear hS1 hS2
      cases hq : (s1.toList == s2.toList)
      · have HN : Hid (pB (sa = sb) = false) := pB_no (N1.out hq)
        go_wp2_with fail
        go_quiet (fail)
        go_wp2_with fail
        go_ret
        exact ⟨ret_bool HN.out.symm, below_drewN hB _⟩
      · have HY : Hid (∀ i, i < k + 1 → sa[i]? = sb[i]?) := N2.out hq
        go_wp2_with fail
        go_quiet (fail)
        go_wp2_with fail
        go_roundw
        case rel => exact ⟨k + 1, by omega, by go_num, HY.out, below_drewN hB _⟩
        case measure => simp [intOf]; omega
    · have HY : Hid (pB (sa = sb) = true) := pB_yes (List.ext_getElem? fun i => by
        by_cases hi : i < k
        · exact Hal.out i hi
        · rw [List.getElem?_eq_none (by have := Hn.out; omega), List.getElem?_eq_none (by have := Hm.out; omega)])
      go_wp2_with fail
      go_ret
      exact ⟨ret_bool HY.out.symm, hB⟩
theorem alikeS_any (sa sb : List ByteArray) (va vb : Value) (w : World) (ha : Ls w va sa) (hb : Ls w vb sb) :
    Calls Tryz.prog 48 #[va, vb] w fun e w' => e = .returned (.bool (pB (sa = sb))) ∧ Below w.heap.size w w' := by
  obtain ⟨a1, c1, rfl, hn1, -, hp1⟩ := ha
  obtain ⟨a2, c2, rfl, -, -, hp2⟩ := hb
  exact alikeS_at sa sb _ _ a1 a2 c1 c2 w rfl rfl hn1 hp1 hp2

theorem all22_any (sa sb : List ByteArray) (va vb : Value) (w : World) (ha : Ls w va sa) (hb : Ls w vb sb) :
    Calls Tryz.prog 50 #[va, vb] w fun e w' => e = .returned (.bool (pB (Part sa sb))) ∧ w' = w := by
  obtain ⟨a, c, rfl, hn, hz, hpos⟩ := ha
  obtain ⟨a2, c2, rfl, -⟩ := id hb
  unfold maxLen at hn
  go_enter Tryz.func50, Tryz.ntmps50
  go_wp2_with fail
  go_loop [5] (fun i => ∃ k : Nat, k ≤ sa.length ∧ i = .int .i64 k ∧ PartTo sa sb k) (fun i => sa.length - (intOf i).toNat)
  case atStart => exact ⟨0, by omega, rfl, PartTo.zero _ _⟩
  case round =>
    obtain ⟨k, hk, rfl, hal⟩ := hrel
    have Hal : Hid (PartTo sa sb k) := hal
    clear hal
    by_cases hp : k < sa.length
    · obtain ⟨b, o, rfl, hS, hb'⟩ := hpos (by omega)
      have c0 := hS.cell hp
      cases hq : memS sb sa[k]
      · have Hq : Hid (¬ Part sa sb) := fun h => by rw [part_at h hp] at hq; cases hq
        go_wp2_with (go_at_call 82; refine (has11_any sb _ _ _ hb).mono ?_; rintro e w' ⟨rfl, hw⟩; obtain rfl := hw.symm; clear hw)
        go_ret
        exact ⟨ret_bool (pB_no Hq.out).symm, rfl⟩
      · have Hq : Hid (PartTo sa sb (k + 1)) := Hal.out.step hp hq
        go_wp2_with (go_at_call 82; refine (has11_any sb _ _ _ hb).mono ?_; rintro e w' ⟨rfl, hw⟩; obtain rfl := hw.symm; clear hw)
        go_round
        case rel => exact ⟨k + 1, by omega, by go_num, Hq.out⟩
        case measure => simp [intOf]; omega
    · have Hq : Hid (Part sa sb) := part_end Hal.out hp
      go_wp2_with fail
      go_ret
      exact ⟨ret_bool (pB_yes Hq.out).symm, rfl⟩

theorem of22_any (h : House) (tv bv xv dv : Value) (s : ByteArray) (w : World) (H : HV w h tv bv xv dv) :
    Calls Tryz.prog 19 #[.agg #[.int .i64 h.now, .int .i64 h.last, tv, bv, xv, dv], .string s] w fun e w' => e = .returned (.int .i64 (idxI (rnms h.bs) s)) ∧ Below w.heap.size w w' := by
  obtain ⟨a1, c1, a2, c2, a3, c3, a4, c4, rfl, rfl, rfl, rfl⟩ := H.shapes
  obtain ⟨hmax, hpos⟩ := H.x.inv rfl
  unfold maxLen at hmax
  clear H
  have hB0 := (Below.refl w.heap.size w).alloc (Nat.le_refl _) (.cells #[.int .i64 h.now, .int .i64 h.last, .slice a1 h.sh.things.length c1, .slice a2 h.sh.bs.length c2, .slice a3 h.bs.length c3, .slice a4 h.ds.length c4] 38)
  have hC : CB (w.alloc (.cells #[.int .i64 h.now, .int .i64 h.last, .slice a1 h.sh.things.length c1, .slice a2 h.sh.bs.length c2, .slice a3 h.bs.length c3, .slice a4 h.ds.length c4] 38)) w.heap.size [.int .i64 h.now, .int .i64 h.last, .slice a1 h.sh.things.length c1, .slice a2 h.sh.bs.length c2, .slice a3 h.bs.length c3, .slice a4 h.ds.length c4] := cb_alloc w _ _
  go_enter Tryz.func19, Tryz.ntmps19
  go_upto_region 1 with fail
  generalize w.alloc (.cells #[.int .i64 h.now, .int .i64 h.last, .slice a1 h.sh.things.length c1, .slice a2 h.sh.bs.length c2, .slice a3 h.bs.length c3, .slice a4 h.ds.length c4] 38) = W1 at *
  obtain ⟨-, -, -, -, d4, -⟩ := hC.c6
  go_wp2_with fail
  go_loop [5] (fun i => ∃ k : Nat, k ≤ h.bs.length ∧ i = .int .i64 k ∧ memS ((rnms h.bs).take k) s = false) (fun i => h.bs.length - (intOf i).toNat)
  case atStart => exact ⟨0, by omega, rfl, rfl⟩
  case round =>
    obtain ⟨k, hk, rfl, hal⟩ := hrel
    have Hal : Hid (memS ((rnms h.bs).take k) s = false) := hal
    clear hal
    by_cases hp : k < h.bs.length
    · obtain ⟨b, o, ha3, hS, hb⟩ := hpos (by omega)
      subst ha3
      have hkr : k < (rnms h.bs).length := by rw [rnms_length]; exact hp
      have hg : (rnms h.bs)[k] = (h.bs[k]).nm := by simp [rnms]
      have hin := ((hS.at hp).up hB0 hb).open
      obtain ⟨p, q, c, g, r, d, ⟨e0, -⟩, -⟩ := hin
      have N1 : Hid (((h.bs[k]).nm.toList == s.toList) = false → memS ((rnms h.bs).take (k + 1)) s = false) := fun hq => memS_take hkr Hal.out (by rw [hg]; exact hq)
      have N2 : Hid (((h.bs[k]).nm.toList == s.toList) = true → idxI (rnms h.bs) s = (k : Int)) := fun hq => idxI_found hkr Hal.out (by rw [hg]; exact hq)
      clear hS hg
      generalize h.bs[k] = x0 at *
      cases hq : (x0.nm.toList == s.toList)
      · have HY : Hid (memS ((rnms h.bs).take (k + 1)) s = false) := N1.out hq
        go_wp2_with fail
        go_round
        case rel => exact ⟨k + 1, by omega, by go_num, HY.out⟩
        case measure => simp [intOf]; omega
      · have HY : Hid (idxI (rnms h.bs) s = (k : Int)) := N2.out hq
        go_wp2_with fail
        go_ret
        exact ⟨ret_int HY.out.symm, hB0⟩
    · have HY : Hid (idxI (rnms h.bs) s = -1) := idxI_none (memS_all (by rw [rnms_length]; exact hp) Hal.out)
      go_wp2_with fail
      go_ret
      exact ⟨ret_int HY.out.symm, hB0⟩

set_option maxRecDepth 20000 in
set_option maxHeartbeats 8000000 in
theorem donesS_any (h : House) (tv bv xv dv : Value) (w : World) (H : HV w h tv bv xv dv) :
    Calls Tryz.prog 17 #[.agg #[.int .i64 h.now, .int .i64 h.last, tv, bv, xv, dv]] w fun e w' => e = .returned (.bool (pB (DonesOk h))) ∧ Below w.heap.size w w' := by
  obtain ⟨-, -, -, a4', c4', e4', -, hpos⟩ := id H
  obtain ⟨a1, c1, a2, c2, a3, c3, a4, c4, rfl, rfl, rfl, rfl⟩ := H.shapes
  simp only [Value.slice.injEq] at e4'
  obtain ⟨rfl, -, rfl⟩ := e4'
  clear H
  have hB0 := (Below.refl w.heap.size w).alloc (Nat.le_refl _) (.cells #[.int .i64 h.now, .int .i64 h.last, .slice a1 h.sh.things.length c1, .slice a2 h.sh.bs.length c2, .slice a3 h.bs.length c3, .slice a4 h.ds.length c4] 38)
  have hC : CB (w.alloc (.cells #[.int .i64 h.now, .int .i64 h.last, .slice a1 h.sh.things.length c1, .slice a2 h.sh.bs.length c2, .slice a3 h.bs.length c3, .slice a4 h.ds.length c4] 38)) w.heap.size [.int .i64 h.now, .int .i64 h.last, .slice a1 h.sh.things.length c1, .slice a2 h.sh.bs.length c2, .slice a3 h.bs.length c3, .slice a4 h.ds.length c4] := cb_alloc w _ _
  go_enter Tryz.func17, Tryz.ntmps17
  go_upto_region 1 with fail
  generalize w.alloc (.cells #[.int .i64 h.now, .int .i64 h.last, .slice a1 h.sh.things.length c1, .slice a2 h.sh.bs.length c2, .slice a3 h.bs.length c3, .slice a4 h.ds.length c4] 38) = W1 at *
  have hlt := hC.2.2
  obtain ⟨d0, d1, d2, d3, d4, d5⟩ := hC.c6
  by_cases h20 : 20 < h.ds.length
  · have HN : Hid (pB (DonesOk h) = false) := pB_no fun t => by have := t.1; omega
    go_wp2_with fail
    go_ret
    exact ⟨ret_bool HN.out.symm, hB0⟩
  go_wp2_with fail
  go_loopw [3, 4] (fun i _ w' => ∃ k : Nat, k ≤ h.ds.length ∧ i = .int .i64 k ∧ DonesTo h.ds h.now k ∧ Below W1.heap.size W1 w') (fun i _ _ => h.ds.length - (intOf i).toNat)
  case atStart => exact ⟨0, by omega, rfl, fun i d hi => by omega, Below.refl _ _⟩
  case round =>
    obtain ⟨k, hk, rfl, hinv, hB⟩ := hrel
    have HI : Hid (DonesTo h.ds h.now k) := hinv
    clear hinv d0 d1 d2 d3 d4 d5
    obtain ⟨d0, d1, d2, d3, d4, d5⟩ := (hC.up hB hlt).c6
    by_cases hp : k < h.ds.length
    · obtain ⟨b, o, ha, hD, hb⟩ := hpos (by omega)
      subst ha
      have hB01 := up_trans hB0 hB
      have hD1 := hD.up hB01 hb
      obtain ⟨hrg, zn⟩ := hD1 k _ (List.getElem?_eq_getElem hp)
      have c0 := hrg 0 _ rfl
      have c1' := hrg 1 _ rfl
      have c2' := hrg 2 _ rfl
      simp only [Nat.add_zero] at c0
      have NO : Hid (¬ DoneOk h.ds h.now k h.ds[k] → pB (DonesOk h) = false) := fun hn => pB_no fun t => hn (t.2 k _ hp (List.getElem?_eq_getElem hp))
      have YES : Hid (DoneOk h.ds h.now k h.ds[k] → DonesTo h.ds h.now (k + 1)) := fun hy => to_step (P := DoneOk h.ds h.now) HI.out hp hy
      have HP : Hid (0 < k → ∃ p : Done, h.ds[k - 1]? = some p ∧ wr.cell? ⟨b, o + (k - 1) * 3 + 2, none⟩ = some (.int .i64 p.t) ∧ (¬ p.t ≤ (h.ds[k]).t → ¬ DoneOk h.ds h.now k h.ds[k]) ∧ (p.t ≤ (h.ds[k]).t → ∀ (j : Nat) (p' : Done), j + 1 = k → h.ds[j]? = some p' → p'.t ≤ (h.ds[k]).t)) := fun h0 => by
        have hk1 : k - 1 < h.ds.length := by omega
        refine ⟨h.ds[k - 1], List.getElem?_eq_getElem hk1, (hD1 (k - 1) _ (List.getElem?_eq_getElem hk1)).1 2 _ rfl, fun hn hd => hn (hd.2.2.2.2.2 (k - 1) _ (by omega) (List.getElem?_eq_getElem hk1)), fun hle j p' hj hp' => ?_⟩
        obtain rfl : j = k - 1 := by omega
        rw [List.getElem?_eq_getElem hk1] at hp'
        obtain rfl := Option.some.inj hp'
        exact hle
      generalize h.ds[k] = x0 at *
      have hB1 := hB.alloc hB.size (.cells #[.string (x0).nm, .int .i64 (x0).e, .int .i64 (x0).t] 77)
      have hX : CB (wr.alloc (.cells #[.string (x0).nm, .int .i64 (x0).e, .int .i64 (x0).t] 77)) wr.heap.size [.string x0.nm, .int .i64 x0.e, .int .i64 x0.t] := cb_alloc wr _ _
      have hal := (Below.refl wr.heap.size wr).alloc (Nat.le_refl _) (.cells #[.string (x0).nm, .int .i64 (x0).e, .int .i64 (x0).t] 77)
      have hbw : b < wr.heap.size := Nat.lt_of_lt_of_le hb hB01.size
      have hqw : w.heap.size < wr.heap.size := Nat.lt_of_lt_of_le hlt hB.size
      have g0 := (hal.cell (p := ⟨w.heap.size, 0, none⟩) hqw).trans d0
      have g5 := (hal.cell (p := ⟨w.heap.size, 5, none⟩) hqw).trans d5
      have HP2 : Hid (0 < k → ∃ p : Done, h.ds[k - 1]? = some p ∧ (wr.alloc (.cells #[.string (x0).nm, .int .i64 (x0).e, .int .i64 (x0).t] 77)).cell? ⟨b, o + (k - 1) * 3 + 2, none⟩ = some (.int .i64 p.t) ∧ (¬ p.t ≤ x0.t → ¬ DoneOk h.ds h.now k x0) ∧ (p.t ≤ x0.t → ∀ (j : Nat) (p' : Done), j + 1 = k → h.ds[j]? = some p' → p'.t ≤ x0.t)) := fun h0 => by
        obtain ⟨p, e1, e2, e3, e4⟩ := HP.out h0
        exact ⟨p, e1, (hal.cell (p := ⟨b, o + (k - 1) * 3 + 2, none⟩) hbw).trans e2, e3, e4⟩
      go_upto_region 7 with fail
      generalize wr.alloc (.cells #[.string (x0).nm, .int .i64 (x0).e, .int .i64 (x0).t] 77) = W2 at *
      obtain ⟨⟨f0, f1, f2⟩, -⟩ := hX.c3
      have hB02 := up_trans hB0 hB1
      clear c0 c1' c2' d0 d1 d2 d3 d4 d5 hrg hD1 hal
      cases q1 : nameB x0.nm
      · have HN : Hid (pB (DonesOk h) = false) := NO.out fun t => by rw [t.1] at q1; cases q1
        go_wp2_with fail
        go_quiet ((first | (go_at_call 43; exact Calls.quiet_of_same (specName_any _ _ zn)) | (go_at_call 15; exact Calls.quiet_of_same (in_any _ _ _ _))))
        go_wp2_with fail
        go_ret
        exact ⟨ret_bool HN.out.symm, below_drewN hB02 _⟩
      cases q2 : inB x0.e 1 3
      · have HN : Hid (pB (DonesOk h) = false) := NO.out fun t => (inB_no _ _ _).1 q2 ⟨t.2.1, t.2.2.1⟩
        go_wp2_with fail
        go_quiet ((first | (go_at_call 43; exact Calls.quiet_of_same (specName_any _ _ zn)) | (go_at_call 15; exact Calls.quiet_of_same (in_any _ _ _ _))))
        go_wp2_with fail
        go_ret
        exact ⟨ret_bool HN.out.symm, below_drewN hB02 _⟩
      cases q3 : inB x0.t 0 h.now
      · have HN : Hid (pB (DonesOk h) = false) := NO.out fun t => (inB_no _ _ _).1 q3 ⟨t.2.2.2.1, t.2.2.2.2.1⟩
        go_wp2_with fail
        go_quiet ((first | (go_at_call 43; exact Calls.quiet_of_same (specName_any _ _ zn)) | (go_at_call 15; exact Calls.quiet_of_same (in_any _ _ _ _))))
        go_wp2_with fail
        go_ret
        exact ⟨ret_bool HN.out.symm, below_drewN hB02 _⟩
      have e2 := (inB_iff _ _ _).1 q2
      have e3 := (inB_iff _ _ _).1 q3
      rcases Nat.eq_zero_or_pos k with h0 | h0
      · have HY : Hid (DonesTo h.ds h.now (0 + 1)) := by
          have := YES.out ⟨q1, e2.1, e2.2, e3.1, e3.2, fun j p hj => by omega⟩
          rwa [h0] at this
        subst h0
        go_wp2_with fail
        go_quiet ((first | (go_at_call 43; exact Calls.quiet_of_same (specName_any _ _ zn)) | (go_at_call 15; exact Calls.quiet_of_same (in_any _ _ _ _))))
        go_wp2_with fail
        go_roundw
        case rel => exact ⟨0 + 1, by omega, by go_num, HY.out, below_drewN hB1 _⟩
        case measure => simp [intOf]; omega
      · obtain ⟨p, -, cp, p1, p2⟩ := HP2.out h0
        by_cases q4 : p.t ≤ x0.t
        · have HY : Hid (DonesTo h.ds h.now (k + 1)) := YES.out ⟨q1, e2.1, e2.2, e3.1, e3.2, p2 q4⟩
          clear p1 p2
          generalize p.t = pt at *
          go_wp2_with fail
          go_quiet ((first | (go_at_call 43; exact Calls.quiet_of_same (specName_any _ _ zn)) | (go_at_call 15; exact Calls.quiet_of_same (in_any _ _ _ _))))
          go_wp2_with fail
          go_roundw
          case rel => exact ⟨k + 1, by omega, by go_num, HY.out, below_drewN hB1 _⟩
          case measure => simp [intOf]; omega
        · have HN : Hid (pB (DonesOk h) = false) := NO.out (p1 q4)
          clear p1 p2
          generalize p.t = pt at *
          go_wp2_with fail
          go_quiet ((first | (go_at_call 43; exact Calls.quiet_of_same (specName_any _ _ zn)) | (go_at_call 15; exact Calls.quiet_of_same (in_any _ _ _ _))))
          go_wp2_with fail
          go_ret
          exact ⟨ret_bool HN.out.symm, below_drewN hB02 _⟩
    · have HY : Hid (pB (DonesOk h) = true) := pB_yes ⟨by omega, by
        have := HI.out
        rwa [show k = h.ds.length by omega] at this⟩
      go_wp2_with fail
      go_ret
      exact ⟨ret_bool HY.out.symm, up_trans hB0 hB⟩
end Go.Proofs.YtlkpgiifdclijaaGreatDoor

/- The specification's walks over books (chapter 11): ok or not, who has what. -/
namespace Go.Proofs.YtlkpgiifdclijaaGreatDoor
open Go.RowKit

/-- What the specification asks of the batch at place k. -/
def At11 (b : Bk) (k : Nat) : Prop := NamesTo (nms b.bs) k ∧ AscTo (nms b.bs) k ∧ BasTo b.things b.bs k ∧ ApartTo b.bs k 0
/-- What it is asked for its own sake. -/
def One11 (b : Bk) (k : Nat) (x : Ba) : Prop := nameB x.nm = true ∧ (∀ y, 0 < k → b.bs[k - 1]? = some y → ltS y.nm x.nm = true) ∧ PartOk x.needs b.things ∧ PartOk x.has x.needs
theorem nms_at {bs : List Ba} {k : Nat} {x : Ba} (h : bs[k]? = some x) : (nms bs)[k]? = some x.nm := by rw [nms, List.getElem?_map, h]; rfl
theorem one11_of {b : Bk} (h : BookOk b) {k : Nat} {x : Ba} (hx : b.bs[k]? = some x) : One11 b k x := by
  have hk := (List.getElem?_eq_some_iff.1 hx).1
  have hb := h.2.2.2.2.1 k x hk hx
  refine ⟨h.2.2.1 k _ (by rw [nms_length]; exact hk) (nms_at hx), fun y h0 hy => ?_, hb.1, hb.2⟩
  exact h.2.2.2.1 (k - 1) _ _ (by rw [nms_length]; omega) (nms_at hy) (by rw [show k - 1 + 1 = k by omega]; exact nms_at hx)
theorem at11_step {b : Bk} {k : Nat} {x : Ba} (h : At11 b k) (hx : b.bs[k]? = some x) (h1 : One11 b k x) (ha : ApartTo b.bs (k + 1) 0) : At11 b (k + 1) := by
  have hk := (List.getElem?_eq_some_iff.1 hx).1
  refine ⟨fun i a hi he => ?_, fun i a c hi he hc => ?_, fun i y hi hy => ?_, ha⟩
  · by_cases e : i = k
    · subst e
      rw [nms_at hx] at he
      obtain rfl := Option.some.inj he
      exact h1.1
    · exact h.1 i a (by omega) he
  · by_cases e : i + 1 = k
    · subst e
      rw [nms_at hx] at hc
      obtain rfl := Option.some.inj hc
      have hy : b.bs[i]? = some b.bs[i] := List.getElem?_eq_getElem (by omega)
      rw [nms_at hy] at he
      obtain rfl := Option.some.inj he
      exact h1.2.1 _ (by omega) (by rw [Nat.add_sub_cancel]; exact hy)
    · exact h.2.1 i a c (by omega) he hc
  · by_cases e : i = k
    · subst e
      rw [hx] at hy
      obtain rfl := Option.some.inj hy
      exact ⟨h1.2.2.1, h1.2.2.2⟩
    · exact h.2.2.1 i y (by omega) hy
theorem at11_end {b : Bk} {k : Nat} (h : At11 b k) (hk : ¬ k < b.bs.length) (ht : ThingsOk b.things) (h5 : b.bs.length ≤ 5) : BookOk b :=
  ⟨ht, h5, names_end h.1 (by rw [nms_length]; exact hk), asc_end h.2.1 (by rw [nms_length]; exact hk), bas_end h.2.2.1 hk, apart_end h.2.2.2 hk⟩

set_option maxHeartbeats 4000000 in
theorem specBook_any (b : Bk) (v : Value) (w : World) (h : BkV w v b) :
    Calls Tryz.prog 76 #[v] w fun e w' => e = .returned (.bool (bookB b)) ∧ Below w.heap.size w w' := by
  obtain ⟨a1, c1, a2, c2, rfl, h1, h2⟩ := h.parts
  have hC : CB (w.alloc (.cells #[.slice a1 (b).things.length c1, .slice a2 (b).bs.length c2] 34)) w.heap.size [.slice a1 b.things.length c1, .slice a2 b.bs.length c2] := cb_alloc w _ _
  have hB0 := (Below.refl w.heap.size w).alloc (Nat.le_refl _) (.cells #[.slice a1 (b).things.length c1, .slice a2 (b).bs.length c2] 34)
  have g1 := h1.inv.1
  have g2 := h2.at.1
  unfold maxLen at g1 g2
  go_enter Tryz.func76, Tryz.ntmps76
  go_upto_region 1 with fail
  generalize w.alloc (.cells #[.slice a1 (b).things.length c1, .slice a2 (b).bs.length c2] 34) = W1 at *
  have l1 := h1.up hB0
  have l2 := h2.up hB0
  clear h h1 h2
  obtain ⟨tv, htv⟩ : ∃ tv, Value.slice a1 b.things.length c1 = tv := ⟨_, rfl⟩
  rw [htv] at l1 hC
  clear htv
  obtain ⟨e0, e1⟩ := hC.c2'
  have hlt := hC.2.2
  go_wp2_with fail
  refine (thingsOk11_any b.things tv _ l1).mono ?_
  rintro e w2 ⟨rfl, m2, hw2⟩
  have hB : Below W1.heap.size W1 w2 := by rw [hw2]; exact below_drewN (Below.refl _ _) _
  clear hw2
  cases ho : pB (ThingsOk b.things)
  · have Hq : Hid (bookB b = false) := pB_no fun h => pB_not.1 ho h.1
    go_wp2_with fail
    go_ret
    exact ⟨ret_bool Hq.out.symm, up_trans hB0 hB⟩
  have Ho : Hid (ThingsOk b.things) := pB_iff.1 ho
  clear ho
  obtain ⟨hc, hf⟩ := bcell hB
  by_cases h5 : 5 < b.bs.length
  · have Hq : Hid (bookB b = false) := pB_no fun h => by have := h.2.1; omega
    go_wp2_with fail
    go_ret
    exact ⟨ret_bool Hq.out.symm, up_trans hB0 hB⟩
  obtain ⟨-, hpos⟩ := l2.at
  go_wp2_with fail
  clear hc hf
  go_loopw [3, 4, 5] (fun i _ _ w' => ∃ k : Nat, k ≤ b.bs.length ∧ i = .int .i64 k ∧ At11 b k ∧ Below W1.heap.size W1 w') (fun i _ _ _ => b.bs.length - (intOf i).toNat)
  case atStart => exact ⟨0, by omega, rfl, ⟨NamesTo.zero _, AscTo.zero _, BasTo.zero _ _, ApartTo.zero _⟩, hB⟩
  case round =>
    clear hB
    obtain ⟨k, hk, rfl, hal, hB⟩ := hrel
    have Hal : Hid (At11 b k) := hal
    clear hal
    have f0 := (hB.cell (p := ⟨w.heap.size, 0, none⟩) hlt).trans e0
    have f1 := (hB.cell (p := ⟨w.heap.size, 1, none⟩) hlt).trans e1
    have hsz := hB.size
    by_cases hp : k < b.bs.length
    · obtain ⟨bb, o, rfl, hS, hb⟩ := hpos (by omega)
      obtain ⟨a3, d3, a4, d4, c3, c4, c5, l3, l4, z0⟩ := ((hS.at hp).up hB hb).cells
      have Hx : Hid (b.bs[k]? = some b.bs[k]) := List.getElem?_eq_getElem hp
      have HP : Hid (∀ (m : Nat) (hm : m < b.bs.length), ApartTo b.bs k m → m < k → shareB (b.bs[k]).has (b.bs[m]).has = false → ApartTo b.bs k (m + 1)) := fun m hm h h1 h2 => h.step hp h1 h2
      have HA : Hid (∀ (m : Nat) (hm : m < b.bs.length), m < k → shareB (b.bs[k]).has (b.bs[m]).has = true → bookB b = false) := fun m hm h1 h2 => pB_no fun hb => by
        rw [hb.2.2.2.2.2.at hp h1] at h2; cases h2
      generalize b.bs[k] = x0 at *
      have HN : Hid (¬ One11 b k x0 → bookB b = false) := fun h => pB_no fun hb => h (one11_of hb Hx.out)
      have hC1 : CB (wr.alloc (.cells #[.string (x0).nm, .slice a3 (x0).has.length d3, .slice a4 (x0).needs.length d4] 86)) wr.heap.size [.string x0.nm, .slice a3 x0.has.length d3, .slice a4 x0.needs.length d4] := cb_alloc wr _ _
      have hb5 := (Below.refl wr.heap.size wr).alloc (Nat.le_refl _) (.cells #[.string (x0).nm, .slice a3 (x0).has.length d3, .slice a4 (x0).needs.length d4] 86)
      go_upto_region 7 with fail
      generalize wr.alloc (.cells #[.string (x0).nm, .slice a3 (x0).has.length d3, .slice a4 (x0).needs.length d4] 86) = W2 at *
      have hB5 := up_trans hB hb5
      have l3 := l3.up hb5
      have l4 := l4.up hb5
      have l1' := l1.up hB5
      obtain ⟨hv, hhv⟩ : ∃ hv, Value.slice a3 x0.has.length d3 = hv := ⟨_, rfl⟩
      obtain ⟨nv, hnv⟩ : ∃ nv, Value.slice a4 x0.needs.length d4 = nv := ⟨_, rfl⟩
      rw [hhv] at l3 hC1
      rw [hnv] at l4 hC1
      have f0 := (hB5.cell (p := ⟨w.heap.size, 0, none⟩) hlt).trans e0
      have f1 := (hB5.cell (p := ⟨w.heap.size, 1, none⟩) hlt).trans e1
      have hxl := hC1.2.2
      obtain ⟨⟨q0, q1, q2⟩, -⟩ := hC1.c3
      have hne : wr.heap.size ≠ w.heap.size := by omega
      have hS5 := hS.up hB5 hb
      clear hhv hnv c3 c4 c5 hb5 hB hS hsz
      generalize wr.heap.size = xb at *
      have Q0 : Hid (∀ n, Calls Tryz.prog 113 #[.string x0.nm] (W2.drewN n) fun e w'' => e = .returned (.bool (nameB x0.nm)) ∧ ∃ m, w'' = W2.drewN m) := fun n => Calls.quiet_of_same (name11_any _ _ z0)
      have Q1 : Hid (∀ n, Calls Tryz.prog 114 #[nv, tv] (W2.drewN n) fun e w'' => e = .returned (.bool (pB (PartOk x0.needs b.things))) ∧ ∃ m, w'' = W2.drewN m) := fun n => Calls.quiet_of (namesOk11_any x0.needs b.things nv tv _ l4.drewN l1'.drewN)
      have Q2 : Hid (∀ n, Calls Tryz.prog 114 #[hv, nv] (W2.drewN n) fun e w'' => e = .returned (.bool (pB (PartOk x0.has x0.needs))) ∧ ∃ m, w'' = W2.drewN m) := fun n => Calls.quiet_of (namesOk11_any x0.has x0.needs hv nv _ l3.drewN l4.drewN)
      cases hq : nameB x0.nm
      · have Hq : Hid (¬ One11 b k x0) := fun h => by rw [h.1] at hq; cases hq
        (go_wp2_with fail; go_quiet ((first | (go_at_call 113; exact Q0.out _) | (go_at_call_of 114 tv; exact Q1.out _) | (go_at_call_of 114 hv; exact Q2.out _))); go_wp2; go_ret; exact ⟨ret_bool (HN.out (by first | exact Hq.out)).symm, up_trans hB0 (below_drewN hB5 _)⟩)
      have H1 : Hid (nameB x0.nm = true) := hq
      cases k with
      | zero =>
        have H2 : Hid (∀ y, 0 < 0 → b.bs[0 - 1]? = some y → ltS y.nm x0.nm = true) := fun y h => by omega
        cases hq1 : pB (PartOk x0.needs b.things)
        · have Hq : Hid (¬ One11 b (0) x0) := fun h => pB_not.1 hq1 h.2.2.1
          (go_wp2_with fail; go_quiet ((first | (go_at_call 113; exact Q0.out _) | (go_at_call_of 114 tv; exact Q1.out _) | (go_at_call_of 114 hv; exact Q2.out _))); go_wp2; go_ret; exact ⟨ret_bool (HN.out (by first | exact Hq.out)).symm, up_trans hB0 (below_drewN hB5 _)⟩)
        have H3 : Hid (PartOk x0.needs b.things) := pB_iff.1 hq1
        cases hq2 : pB (PartOk x0.has x0.needs)
        · have Hq : Hid (¬ One11 b (0) x0) := fun h => pB_not.1 hq2 h.2.2.2
          (go_wp2_with fail; go_quiet ((first | (go_at_call 113; exact Q0.out _) | (go_at_call_of 114 tv; exact Q1.out _) | (go_at_call_of 114 hv; exact Q2.out _))); go_wp2; go_ret; exact ⟨ret_bool (HN.out (by first | exact Hq.out)).symm, up_trans hB0 (below_drewN hB5 _)⟩)
        have H4 : Hid (One11 b (0) x0) := ⟨H1.out, H2.out, H3.out, pB_iff.1 hq2⟩
        go_wp2_with fail
        go_quiet ((first | (go_at_call 113; exact Q0.out _) | (go_at_call_of 114 tv; exact Q1.out _) | (go_at_call_of 114 hv; exact Q2.out _)))
        have hBX : Below W1.heap.size W1 (W2.drewN nq) := below_drewN hB5 _
        have x1 : (W2.drewN nq).cell? ⟨xb, 1, none⟩ = some hv := q1
        have y1 : (W2.drewN nq).cell? ⟨w.heap.size, 1, none⟩ = some (.slice (some ⟨bb, o, none⟩) b.bs.length c2) := f1
        have lX : Ls (W2.drewN nq) hv x0.has := l3
        have sX : BsAt (W2.drewN nq) bb o b.bs := hS5
        clear Q0 Q1 Q2 hB5 q0 q1 q2 f0 f1 l3 l4 l1' hS5 hC1 HN H1 H2 H3 hq1 hq2 hq
        generalize W2.drewN nq = X at *
        go_wp2_with fail
        go_loopw [5] (fun j w' => ∃ m n : Nat, m ≤ 0 ∧ j = .int .i64 m ∧ ApartTo b.bs (0) m ∧ w' = X.drewN n) (fun j _ => 0 - (intOf j).toNat)
        case atStart => exact ⟨0, 0, by omega, rfl, Hal.out.2.2.2, rfl⟩
        case round =>
          obtain ⟨m, n, hm, rfl, hap, hw⟩ := hrel
          have Hw : Hid (wr = X.drewN n) := hw
          have Hap : Hid (ApartTo b.bs (0) m) := hap
          clear hw hap
          have hBw : Below W1.heap.size W1 wr := by rw [Hw.out]; exact below_drewN hBX _
          by_cases hmk : m < 0
          · omega
          · have Hs : Hid (At11 b (0 + 1)) := at11_step Hal.out Hx.out H4.out (Hap.out.next hmk)
            go_wp2_with fail
            go_roundw
            case rel => exact ⟨0 + 1, by omega, by go_num, Hs.out, hBw⟩
            case measure => simp [intOf]; omega
      | succ k =>
        obtain ⟨-, -, -, -, p0, -⟩ := (hS5.at (k := k) (by omega)).cells
        have Hy : Hid (b.bs[k + 1 - 1]? = some (b.bs[k]'(by omega))) := by show _ = _; rw [Nat.add_sub_cancel]; exact List.getElem?_eq_getElem _
        generalize b.bs[k]'(by omega) = y0 at *
        cases hl : ltS y0.nm x0.nm
        · have Hq : Hid (¬ One11 b (k + 1) x0) := fun h => by rw [h.2.1 y0 (by omega) Hy.out] at hl; cases hl
          unfold ltS at hl
          (go_wp2_with fail; go_quiet ((first | (go_at_call 113; exact Q0.out _) | (go_at_call_of 114 tv; exact Q1.out _) | (go_at_call_of 114 hv; exact Q2.out _))); go_wp2; go_ret; exact ⟨ret_bool (HN.out (by first | exact Hq.out)).symm, up_trans hB0 (below_drewN hB5 _)⟩)
        have H2 : Hid (∀ y, 0 < k + 1 → b.bs[k + 1 - 1]? = some y → ltS y.nm x0.nm = true) := fun y _ hy => by
          rw [Hy.out] at hy
          obtain rfl := Option.some.inj hy
          exact hl
        unfold ltS at hl
        cases hq1 : pB (PartOk x0.needs b.things)
        · have Hq : Hid (¬ One11 b (k + 1) x0) := fun h => pB_not.1 hq1 h.2.2.1
          (go_wp2_with fail; go_quiet ((first | (go_at_call 113; exact Q0.out _) | (go_at_call_of 114 tv; exact Q1.out _) | (go_at_call_of 114 hv; exact Q2.out _))); go_wp2; go_ret; exact ⟨ret_bool (HN.out (by first | exact Hq.out)).symm, up_trans hB0 (below_drewN hB5 _)⟩)
        have H3 : Hid (PartOk x0.needs b.things) := pB_iff.1 hq1
        cases hq2 : pB (PartOk x0.has x0.needs)
        · have Hq : Hid (¬ One11 b (k + 1) x0) := fun h => pB_not.1 hq2 h.2.2.2
          (go_wp2_with fail; go_quiet ((first | (go_at_call 113; exact Q0.out _) | (go_at_call_of 114 tv; exact Q1.out _) | (go_at_call_of 114 hv; exact Q2.out _))); go_wp2; go_ret; exact ⟨ret_bool (HN.out (by first | exact Hq.out)).symm, up_trans hB0 (below_drewN hB5 _)⟩)
        have H4 : Hid (One11 b (k + 1) x0) := ⟨H1.out, H2.out, H3.out, pB_iff.1 hq2⟩
        go_wp2_with fail
        go_quiet ((first | (go_at_call 113; exact Q0.out _) | (go_at_call_of 114 tv; exact Q1.out _) | (go_at_call_of 114 hv; exact Q2.out _)))
        have hBX : Below W1.heap.size W1 (W2.drewN nq) := below_drewN hB5 _
        have x1 : (W2.drewN nq).cell? ⟨xb, 1, none⟩ = some hv := q1
        have y1 : (W2.drewN nq).cell? ⟨w.heap.size, 1, none⟩ = some (.slice (some ⟨bb, o, none⟩) b.bs.length c2) := f1
        have lX : Ls (W2.drewN nq) hv x0.has := l3
        have sX : BsAt (W2.drewN nq) bb o b.bs := hS5
        clear Q0 Q1 Q2 hB5 q0 q1 q2 f0 f1 l3 l4 l1' hS5 hC1 HN H1 H2 H3 hq1 hq2 hq
        clear p0
        generalize W2.drewN nq = X at *
        go_wp2_with fail
        go_loopw [5] (fun j w' => ∃ m n : Nat, m ≤ k + 1 ∧ j = .int .i64 m ∧ ApartTo b.bs (k + 1) m ∧ w' = X.drewN n) (fun j _ => k + 1 - (intOf j).toNat)
        case atStart => exact ⟨0, 0, by omega, rfl, Hal.out.2.2.2, rfl⟩
        case round =>
          obtain ⟨m, n, hm, rfl, hap, hw⟩ := hrel
          have Hw : Hid (wr = X.drewN n) := hw
          have Hap : Hid (ApartTo b.bs (k + 1) m) := hap
          clear hw hap
          have hBw : Below W1.heap.size W1 wr := by rw [Hw.out]; exact below_drewN hBX _
          by_cases hmk : m < k + 1
          · have hml : m < b.bs.length := by omega
            obtain ⟨a5, d5, a6, d6, -, r1, -, l5, -, -⟩ := (sX.at hml).cells
            have r1' : wr.cell? ⟨bb, o + m * 3 + 1, none⟩ = some (.slice a5 (b.bs[m]).has.length d5) := by rw [Hw.out]; exact r1
            have x1' : wr.cell? ⟨xb, 1, none⟩ = some hv := by rw [Hw.out]; exact x1
            have y1' : wr.cell? ⟨w.heap.size, 1, none⟩ = some (.slice (some ⟨bb, o, none⟩) b.bs.length c2) := by rw [Hw.out]; exact y1
            have HP1 : Hid (shareB x0.has (b.bs[m]).has = false → ApartTo b.bs (k + 1) (m + 1)) := HP.out m hml Hap.out hmk
            have HA1 : Hid (shareB x0.has (b.bs[m]).has = true → bookB b = false) := HA.out m hml hmk
            have lX' : Ls wr hv x0.has := by rw [Hw.out]; exact lX
            have l5' : Ls wr (.slice a5 (b.bs[m]).has.length d5) (b.bs[m]).has := by rw [Hw.out]; exact l5
            clear r1 l5
            generalize b.bs[m] = y0 at *
            obtain ⟨uv, huv⟩ : ∃ uv, Value.slice a5 y0.has.length d5 = uv := ⟨_, rfl⟩
            rw [huv] at r1' l5'
            clear huv
            cases hs : shareB x0.has y0.has
            · have Hs : Hid (ApartTo b.bs (k + 1) (m + 1)) := HP1.out hs
              have Q3 : Hid (∀ n, Calls Tryz.prog 115 #[hv, uv] (wr.drewN n) fun e w'' => e = .returned (.bool false) ∧ ∃ m, w'' = wr.drewN m) := fun n => by rw [← hs]; exact Calls.quiet_of_same (share11_any x0.has y0.has hv uv _ lX'.drewN l5'.drewN)
              go_wp2_with fail
              go_quiet ((go_at_call 115; exact Q3.out _))
              go_wp2_with fail
              go_roundw
              case rel =>
                obtain ⟨m', hm'⟩ := drew_more (n := nq) Hw.out
                exact ⟨m + 1, m', by omega, by go_num, Hs.out, hm'⟩
              case measure => simp [intOf]; omega
            · have Hs : Hid (bookB b = false) := HA1.out hs
              have Q3 : Hid (∀ n, Calls Tryz.prog 115 #[hv, uv] (wr.drewN n) fun e w'' => e = .returned (.bool true) ∧ ∃ m, w'' = wr.drewN m) := fun n => by rw [← hs]; exact Calls.quiet_of_same (share11_any x0.has y0.has hv uv _ lX'.drewN l5'.drewN)
              go_wp2_with fail
              go_quiet ((go_at_call 115; exact Q3.out _))
              go_wp2_with fail
              go_ret
              exact ⟨ret_bool Hs.out.symm, up_trans hB0 (below_drewN hBw _)⟩
          · have Hs : Hid (At11 b (k + 1 + 1)) := at11_step Hal.out Hx.out H4.out (Hap.out.next hmk)
            go_wp2_with fail
            go_roundw
            case rel => exact ⟨k + 1 + 1, by omega, by go_num, Hs.out, hBw⟩
            case measure => simp [intOf]; omega
    · have Hq : Hid (bookB b = true) := pB_yes (at11_end Hal.out hp Ho.out (by omega))
      go_wp2_with fail
      go_ret
      exact ⟨ret_bool Hq.out.symm, up_trans hB0 hB⟩
end Go.Proofs.YtlkpgiifdclijaaGreatDoor
