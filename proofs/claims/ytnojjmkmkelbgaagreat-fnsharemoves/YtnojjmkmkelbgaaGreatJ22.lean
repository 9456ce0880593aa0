/- The program's walks over names and lists of texts (chapter 11). -/
import Derived.Test.YtnojjmkmkelbgaaGreatJ1
import Derived.Test.YtnojjmkmkelbgaaGreatJ15
import Derived.Test.YtnojjmkmkelbgaaGreatJ19
import Derived.Test.YtnojjmkmkelbgaaGreatJ4
import Derived.Maps.OwnSet
import Derived.Maps.OwnOps
import Derived.Laws.BitsAllLaws
import Derived.Test.YtnojjmkmkelbgaaGreatKt9
import Derived.Test.YtnojjmkmkelbgaaGreatJ11
namespace Go.Proofs.YtnojjmkmkelbgaaGreat
open Go.RowKit

theorem indexN_any (ss : List ByteArray) (v : Value) (s : ByteArray) (w : World) (h : Ls w v ss) :
    Calls Tryz.prog 102 #[v, .string s] w fun e w' => e = .returned (.int .i64 (idxI ss s)) ∧ w' = w := by
  obtain ⟨a, c, rfl, hn, -, hpos⟩ := h
  unfold maxLen at hn
  go_enter Tryz.func102, Tryz.ntmps102
  go_wp2
  go_loop [8] (fun i => ∃ k : Nat, k ≤ ss.length ∧ i = .int .i64 k ∧ memS (ss.take k) s = false) (fun i => ss.length - (intOf i).toNat)
  case atStart => exact ⟨0, by omega, rfl, rfl⟩
  case round =>
    obtain ⟨k, hk, rfl, hal⟩ := hrel
    have Hal : Hid (memS (ss.take k) s = false) := hal
    clear hal
    by_cases hp : k < ss.length
    · obtain ⟨b, o, rfl, hS, hb⟩ := hpos (by omega)
      have c0 := hS.cell hp
      cases hq : (s.toList == (ss[k]).toList)
      · have Hq : Hid (((ss[k]).toList == s.toList) = false) := by show _ = _; rw [beq_flip]; exact hq
        go_wp2
        go_round
        case rel => exact ⟨k + 1, by omega, by go_num, memS_take hp Hal.out Hq.out⟩
        case measure => simp [intOf]; omega
      · have Hq : Hid (((ss[k]).toList == s.toList) = true) := by show _ = _; rw [beq_flip]; exact hq
        go_wp2
        go_ret
        exact ⟨ret_int (idxI_found hp Hal.out Hq.out).symm, rfl⟩
    · go_wp2
      go_ret
      exact ⟨ret_int (idxI_none (memS_all hp Hal.out)).symm, rfl⟩

theorem containsN_any (ss : List ByteArray) (v : Value) (s : ByteArray) (w : World) (h : Ls w v ss) :
    Calls Tryz.prog 76 #[v, .string s] w fun e w' => e = .returned (.bool (memS ss s)) ∧ w' = w := by
  obtain ⟨a, c, rfl, -⟩ := id h
  go_enter Tryz.func76, Tryz.ntmps76
  go_wp2_with (go_at_call 102; refine (indexN_any ss _ _ _ h).mono ?_; rintro e w' ⟨rfl, hw⟩; obtain rfl := hw.symm; clear hw)
  all_goals
    go_ret
    refine ⟨ret_bool ?_, rfl⟩
    rw [← idxI_mem]
    try simp_all

theorem asc_any (ss : List ByteArray) (u : Value) (w : World) (h : Ls w u ss) :
    Calls Tryz.prog 53 #[u] w fun e w' => e = .returned (.bool (pB (Asc ss))) ∧ Below w.heap.size w w' := by
  obtain ⟨a, c, rfl, hn, -, hpos⟩ := h
  unfold maxLen at hn
  go_enter Tryz.func53, Tryz.ntmps53
  go_wp2
  go_loopw [3] (fun i w' => ∃ k : Nat, (k + 1 ≤ ss.length ∨ k = 0) ∧ i = .int .i64 (k + 1) ∧ AscTo ss (k + 1) ∧ Below w.heap.size w w') (fun i _ => ss.length - (intOf i).toNat)
  case atStart => exact ⟨0, .inr rfl, rfl, AscTo.one _, Below.refl _ _⟩
  case round =>
    obtain ⟨k, hk, rfl, hasc, hB⟩ := hrel
    have Hasc : Hid (AscTo ss (k + 1)) := hasc
    clear hasc
    by_cases hp : k + 1 < ss.length
    · obtain ⟨b, o, rfl, hS, hb⟩ := hpos (by omega)
      have c0 := (hS.up hB hb).cell hp
      have c1 := (hS.up hB hb).cell (k := k) (by omega)
      clear hk
      cases hl : ltS ss[k] ss[k + 1]
      · have Hl : Hid (¬ Asc ss) := fun h => by rw [asc_at h hp] at hl; cases hl
        unfold ltS at hl
        go_wp2_with fail
        go_quiet (fail)
        go_wp2
        go_ret
        exact ⟨ret_bool (pB_no Hl.out).symm, below_drewN hB _⟩
      · have Hl : Hid (AscTo ss (k + 2)) := Hasc.out.step hp hl
        unfold ltS at hl
        go_wp2_with fail
        go_quiet (fail)
        go_wp2
        go_roundw
        case rel => exact ⟨k + 1, .inl (by omega), by go_num, Hl.out, below_drewN hB _⟩
        case measure => simp [intOf]; omega
    · go_wp2
      go_ret
      exact ⟨ret_bool (pB_yes (asc_end Hasc.out hp)).symm, hB⟩

theorem ordered_any (ss : List ByteArray) (u : Value) (w : World) (h : Ls w u ss) :
    Calls Tryz.prog 35 #[u] w fun e w' => e = .returned (.bool (pB (Names ss ∧ Asc ss))) ∧ Below w.heap.size w w' := by
  have h0 := h
  obtain ⟨a, c, rfl, hn, hz, hpos⟩ := h
  unfold maxLen at hn
  go_enter Tryz.func35, Tryz.ntmps35
  go_wp2
  go_loopw [4, 7] (fun _ i w' => ∃ k : Nat, k ≤ ss.length ∧ i = .int .i64 k ∧ NamesTo ss k ∧ Below w.heap.size w w') (fun _ i _ => ss.length - (intOf i).toNat)
  case atStart => exact ⟨0, by omega, rfl, NamesTo.zero _, Below.refl _ _⟩
  case round =>
    obtain ⟨k, hk, rfl, hal, hB⟩ := hrel
    have Hal : Hid (NamesTo ss k) := hal
    clear hal
    by_cases hp : k < ss.length
    · obtain ⟨b, o, rfl, hS, hb⟩ := hpos (by omega)
      have c0 := (hS.up hB hb).cell hp
      have z0 := hz ss[k] (by simp)
      cases hq : nameB ss[k]
      · have Hq : Hid (¬ (Names ss ∧ Asc ss)) := fun h => by rw [names_at h.1 hp] at hq; cases hq
        go_wp2_with (go_at_call 52; refine (shName_any _ _ z0).mono ?_; rintro e w1 ⟨rfl, hb1⟩; (first | replace hB := up_trans hB hb1 | have hB := hb1); clear hb1; (try clear hc hf); obtain ⟨hc, hf⟩ := bcell hB)
        go_ret
        exact ⟨ret_bool (pB_no Hq.out).symm, hB⟩
      · have Hq : Hid (NamesTo ss (k + 1)) := Hal.out.step hp hq
        go_wp2_with (go_at_call 52; refine (shName_any _ _ z0).mono ?_; rintro e w1 ⟨rfl, hb1⟩; (first | replace hB := up_trans hB hb1 | have hB := hb1); clear hb1; (try clear hc hf); obtain ⟨hc, hf⟩ := bcell hB)
        go_roundw
        case rel => exact ⟨k + 1, by omega, by go_num, Hq.out, hB⟩
        case measure => simp [intOf]; omega
    · have Hq : Hid (Names ss) := names_end Hal.out hp
      have Hp : Hid (pB (Names ss ∧ Asc ss) = pB (Asc ss)) := by
        show _ = _
        have := Hq.out
        unfold pB; simp [this]
      go_wp2_with (go_at_call 53; refine (asc_any ss _ _ (h0.up hB)).mono ?_; rintro e w1 ⟨rfl, hb1⟩; (first | replace hB := up_trans hB hb1 | have hB := hb1); clear hb1; (try clear hc hf); obtain ⟨hc, hf⟩ := bcell hB)
      go_ret
      exact ⟨ret_bool Hp.out.symm, hB⟩

theorem partOf_any (ss all : List ByteArray) (u v : Value) (w : World) (h : Ls w u ss) (h2 : Ls w v all) :
    Calls Tryz.prog 54 #[u, v] w fun e w' => e = .returned (.bool (pB (PartOk ss all))) ∧ Below w.heap.size w w' := by
  have h0 := h
  obtain ⟨a, c, rfl, hn, hz, hpos⟩ := h
  obtain ⟨a2, c2, rfl, -⟩ := id h2
  unfold maxLen at hn
  go_enter Tryz.func54, Tryz.ntmps54
  go_wp2
  go_loopw [6, 9] (fun _ i w' => ∃ k : Nat, k ≤ ss.length ∧ i = .int .i64 k ∧ PartTo ss all k ∧ Below w.heap.size w w') (fun _ i _ => ss.length - (intOf i).toNat)
  case atStart => exact ⟨0, by omega, rfl, PartTo.zero _ _, Below.refl _ _⟩
  case round =>
    obtain ⟨k, hk, rfl, hal, hB⟩ := hrel
    have Hal : Hid (PartTo ss all k) := hal
    clear hal
    by_cases hp : k < ss.length
    · obtain ⟨b, o, rfl, hS, hb⟩ := hpos (by omega)
      have c0 := (hS.up hB hb).cell hp
      cases hq : memS all ss[k]
      · have Hq : Hid (¬ PartOk ss all) := fun h => by rw [part_at h.1 hp] at hq; cases hq
        go_wp2_with (go_at_call 76; refine (containsN_any all _ _ _ (h2.up hB)).mono ?_; rintro e w' ⟨rfl, hw⟩; obtain rfl := hw.symm; clear hw)
        go_ret
        exact ⟨ret_bool (pB_no Hq.out).symm, hB⟩
      · have Hq : Hid (PartTo ss all (k + 1)) := Hal.out.step hp hq
        go_wp2_with (go_at_call 76; refine (containsN_any all _ _ _ (h2.up hB)).mono ?_; rintro e w' ⟨rfl, hw⟩; obtain rfl := hw.symm; clear hw)
        go_roundw
        case rel => exact ⟨k + 1, by omega, by go_num, Hq.out, hB⟩
        case measure => simp [intOf]; omega
    · have Hq : Hid (Part ss all) := part_end Hal.out hp
      have Hp : Hid (pB (PartOk ss all) = pB (Asc ss)) := by
        show _ = _
        have := Hq.out
        unfold pB PartOk; simp [this]
      go_wp2_with (go_at_call 53; refine (asc_any ss _ _ (h0.up hB)).mono ?_; rintro e w1 ⟨rfl, hb1⟩; (first | replace hB := up_trans hB hb1 | have hB := hb1); clear hb1; (try clear hc hf); obtain ⟨hc, hf⟩ := bcell hB)
      go_ret
      exact ⟨ret_bool Hp.out.symm, hB⟩

set_option maxHeartbeats 1000000 in
theorem batchOk_any (x : Ba) (things : List ByteArray) (hv nv tv : Value) (w : World) (h1 : Ls w hv x.has) (h2 : Ls w nv x.needs) (h3 : Ls w tv things) :
    Calls Tryz.prog 37 #[.agg #[.string x.nm, hv, nv], tv] w fun e w' => e = .returned (.bool (pB (BaOk things x))) ∧ Below w.heap.size w w' := by
  obtain ⟨a1, c1, rfl, -⟩ := id h1
  obtain ⟨a2, c2, rfl, -⟩ := id h2
  obtain ⟨a3, c3, rfl, -⟩ := id h3
  have hC : CB (w.alloc (.cells #[.string x.nm, .slice a1 x.has.length c1, .slice a2 x.needs.length c2] 32)) w.heap.size [.string x.nm, .slice a1 x.has.length c1, .slice a2 x.needs.length c2] := cb_alloc w _ _
  have hB0 := (Below.refl w.heap.size w).alloc (Nat.le_refl _) (.cells #[.string x.nm, .slice a1 x.has.length c1, .slice a2 x.needs.length c2] 32)
  go_enter Tryz.func37, Tryz.ntmps37
  go_upto_region 1 with fail
  generalize w.alloc (.cells #[.string x.nm, .slice a1 x.has.length c1, .slice a2 x.needs.length c2] 32) = W1 at *
  obtain ⟨⟨d0, d1, d2⟩, -⟩ := hC.c3
  have hlt := hC.2.2
  have l1 := h1.up hB0
  have l2 := h2.up hB0
  have l3 := h3.up hB0
  have hB : Below W1.heap.size W1 W1 := Below.refl _ _
  obtain ⟨hc, hf⟩ := bcell hB
  cases hq : pB (PartOk x.needs things)
  · have Hq : Hid (pB (BaOk things x) = false) := pB_no fun h => pB_not.1 hq h.1
    go_wp2_with (go_at_call 54; refine (partOf_any x.needs things _ _ _ (l2.up hB) (l3.up hB)).mono ?_; rintro e w1 ⟨rfl, hb1⟩; (first | replace hB := up_trans hB hb1 | have hB := hb1); clear hb1; (try clear hc hf); obtain ⟨hc, hf⟩ := bcell hB)
    go_ret
    exact ⟨ret_bool Hq.out.symm, up_trans hB0 hB⟩
  · have Hq : Hid (pB (BaOk things x) = pB (PartOk x.has x.needs)) := by
      show _ = _
      have := pB_iff.1 hq
      unfold pB BaOk; simp [this]
    go_wp2_with (first | (revert hq; intro hq; (go_at_call 54; refine (partOf_any x.needs things _ _ _ (l2.up hB) (l3.up hB)).mono ?_; rintro e w1 ⟨rfl, hb1⟩; (first | replace hB := up_trans hB hb1 | have hB := hb1); clear hb1; (try clear hc hf); obtain ⟨hc, hf⟩ := bcell hB); clear l3) | (go_at_call 54; refine (partOf_any x.has x.needs _ _ _ (l1.up hB) (l2.up hB)).mono ?_; rintro e w1 ⟨rfl, hb1⟩; (first | replace hB := up_trans hB hb1 | have hB := hb1); clear hb1; (try clear hc hf); obtain ⟨hc, hf⟩ := bcell hB))
    go_ret
    exact ⟨ret_bool Hq.out.symm, up_trans hB0 hB⟩
end Go.Proofs.YtnojjmkmkelbgaaGreat

/- The program's walks over batches (chapter 11): their names, who has what. -/
namespace Go.Proofs.YtnojjmkmkelbgaaGreat
open Go.RowKit Go.Maps

theorem nms_snoc (bs : List Ba) (k : Nat) (hk : k < bs.length) : nms (bs.take (k + 1)) = nms (bs.take k) ++ [(bs[k]).nm] := by
  rw [nms_take, nms_take, List.take_succ_eq_append_getElem (by rw [nms_length]; exact hk), nms_get bs k hk]
theorem BaAt.batch {w : World} {b o : Nat} {x : Ba} (h : BaAt w b o x) : x.nm.size ≤ maxLen := by
  obtain ⟨_, _, _, _, _, h3⟩ := h; exact h3

set_option maxHeartbeats 1000000 in
theorem batchNames_any (bs : List Ba) (v : Value) (w : World) (h : Bs w v bs) (hn : bs.length ≤ 1048576) :
    Calls Tryz.prog 36 #[v] w fun e w' => (∃ u, e = .returned u ∧ OwnT w' w.heap.size u (nms bs) ∧ Ls w' u (nms bs)) ∧ Below w.heap.size w w' := by
  obtain ⟨a, c, rfl, -, hpos⟩ := h
  obtain ⟨ii, hi, iz0, iz1, iz2⟩ := info_parts infoStr
  go_enter Tryz.func36, Tryz.ntmps36
  go_wp2_with fail
  go_loopw [3, 5, 8] (fun u _ i w' => ∃ k : Nat, k ≤ bs.length ∧ i = .int .i64 k ∧ w'.ownsRow w.heap.size 9 1 u k ((nms (bs.take k)).map Value.string) ∧ Below w.heap.size w w') (fun _ _ i _ => bs.length - (intOf i).toNat)
  case atStart => exact ⟨0, by omega, rfl, ⟨by simp [nms], .inl ⟨rfl, rfl⟩⟩, Below.refl _ _⟩
  case round =>
    obtain ⟨k, hk, rfl, hown, hB⟩ := hrel
    by_cases hp : k < bs.length
    · obtain ⟨b, o, rfl, hS, hb⟩ := hpos (by omega)
      obtain ⟨a1, d1, a2, d2, c0, c1, c2, l1, l2, z0⟩ := ((hS.at hp).up hB hb).cells
      have Hs : Hid ((nms (bs.take (k + 1))).map Value.string = (nms (bs.take k)).map Value.string ++ [.string (bs[k]).nm]) := by
        show _ = _
        rw [nms_snoc bs k hp, List.map_append]; rfl
      generalize bs[k] = x0 at *
      clear l1 l2 hS
      have hB1 := hB.alloc hB.size (.cells #[.string (x0).nm, .slice a1 (x0).has.length d1, .slice a2 (x0).needs.length d2] 32)
      have hown1 := own_up hown ((Below.refl wr.heap.size wr).alloc (Nat.le_refl _) (.cells #[.string (x0).nm, .slice a1 (x0).has.length d1, .slice a2 (x0).needs.length d2] 32))
      have hC : CB (wr.alloc (.cells #[.string (x0).nm, .slice a1 (x0).has.length d1, .slice a2 (x0).needs.length d2] 32)) wr.heap.size [.string x0.nm, .slice a1 x0.has.length d1, .slice a2 x0.needs.length d2] := cb_alloc wr _ _
      have hz := hB.size
      go_upto_region 5 with fail
      generalize wr.alloc (.cells #[.string (x0).nm, .slice a1 (x0).has.length d1, .slice a2 (x0).needs.length d2] 32) = W1 at *
      obtain ⟨⟨e0, -⟩, -⟩ := hC.c3
      clear c0 c1 c2 hown hB
      have hown2 := own_up hown1 ((Below.refl W1.heap.size W1).alloc (Nat.le_refl _) (.cells #[.string x0.nm] 9))
      have hB2 := hB1.alloc hB1.size (.cells #[.string x0.nm] 9)
      go_wp2_with (at_builtin; refine wpList_append_own _ rfl _ _ 66 rfl w.heap.size 9 ii _ 1 16 Tryz.underlying66 hi iz0 iz1 iz2 rfl (by decide) _ _ _ rfl hown2 ⟨W1.heap.size, 0, none⟩ 1 1 [.string x0.nm] rfl rfl (one_new _ _ _) (oneV _) (by unfold maxLen; omega) (by omega) hB2.size ?_)
      intro v1 w1 hown3 hgrow3 _
      rw [← Hs.out] at hown3
      have hB3 := below_own hB2 hown2 hgrow3 (Nat.le_refl _)
      clear hown1 hown2 hgrow3 hB1 hB2 hC e0
      go_wp2_with fail
      go_roundw
      case rel => exact ⟨k + 1, by omega, by go_num, hown3, hB3⟩
      case measure => simp [intOf]; omega
    · have hz : ∀ s ∈ nms bs, s.size ≤ maxLen := fun s hs => by
        obtain ⟨x, hx, rfl⟩ := List.mem_map.1 hs
        obtain ⟨i, hi, rfl⟩ := List.getElem_of_mem hx
        obtain ⟨b, o, rfl, hS, hb⟩ := hpos (by omega)
        exact (hS.at hi).batch
      have Ho : Hid (∀ u, wr.ownsRow w.heap.size 9 1 u k ((nms (bs.take k)).map Value.string) → OwnT wr w.heap.size u (nms bs)) := fun u h => by
        obtain rfl : k = bs.length := by omega
        rw [List.take_length] at h
        unfold OwnT; rw [nms_length]; exact h
      have Hz : Hid (∀ s ∈ nms bs, s.size ≤ maxLen) := hz
      clear hz
      go_wp2_with fail
      go_ret
      exact ⟨⟨_, rfl, Ho.out _ hown, (Ho.out _ hown).lst.ls Hz.out⟩, hB⟩

theorem keyLaw : Keyed Tryz.prog 9 := string_keyed Tryz.underlying9
theorem zeroInt (w : World) : (zeroValue 3).run Tryz.prog w = .ok (.int .i64 0) w := by kernel_rfl
abbrev MapAt (w : World) (M n : Nat) (D : DataW Unit) : Prop := w.ownsMap Tryz.prog 9 (plainElem Tryz.prog 3) M n D

set_option maxRecDepth 100000 in
set_option maxHeartbeats 2000000 in
theorem holders_any (bs : List Ba) (v : Value) (w : World) (h : Bs w v bs) (hn : bs.length ≤ 5) (h8 : ∀ x ∈ bs, Asc x.has ∧ x.has.length ≤ 8) :
    Calls Tryz.prog 38 #[v] w fun e w' =>
      ((Apart bs ∧ ∃ M n D, e = .returned (.tuple #[.map (some M), .bool true]) ∧ MapAt w' M n D ∧ HoldD D bs bs.length 0 ∧ w.heap.size ≤ M) ∨ (¬ Apart bs ∧ e = .returned (.tuple #[.map none, .bool false]))) ∧ Below w.heap.size w w' := by
  obtain ⟨a, c, rfl, -, hpos⟩ := h
  have hmm := @run_makeMap Tryz.prog
  go_enter Tryz.func38, Tryz.ntmps38
  go_wp2_with fail
  go_loopw [5, 6, 8, 9, 10, 14] (fun _ _ _ _ _ i w' => ∃ (k : Nat) (D : DataW Unit), k ≤ bs.length ∧ i = .int .i64 k ∧ MapAt w' w.heap.size (k * 8) D ∧ HoldD D bs k 0 ∧ Below w.heap.size w w') (fun _ _ _ _ _ i _ => bs.length - (intOf i).toNat)
  case atStart => exact ⟨0, _, by omega, rfl, World.ownsMap_made _ _ _ _, HoldD.start bs, (Below.refl _ _).alloc (Nat.le_refl _) _⟩
  case round =>
    obtain ⟨k, D, hk, rfl, hmap, hD, hB⟩ := hrel
    have HD : Hid (HoldD D bs k 0) := hD
    clear hD
    by_cases hp : k < bs.length
    · obtain ⟨b, o, rfl, hS, hb⟩ := hpos (by omega)
      obtain ⟨a1, d1, a2, d2, c0, c1, c2, l1, -, -⟩ := (hS.at hp).cells
      obtain ⟨h8a, h8b⟩ := h8 bs[k] (by simp)
      have HS : Hid (∀ (D : DataW Unit) (m : Nat) (s : ByteArray), (bs[k]).has[m]? = some s → HoldD D bs k m → Maps.has D (kl s) = false → HoldD (D.put (kl s) (.lit (.int .i64 (k : Int)))) bs k (m + 1)) := fun D m s hs h hn => by
        obtain ⟨hm, rfl⟩ := List.getElem?_eq_some_iff.1 hs
        exact h.step hp hm hn
      have HT : Hid (∀ (D : DataW Unit) (m : Nat) (s : ByteArray), (bs[k]).has[m]? = some s → HoldD D bs k m → Maps.has D (kl s) = true → ¬ Apart bs) := fun D m s hs h hn => by
        obtain ⟨hm, rfl⟩ := List.getElem?_eq_some_iff.1 hs
        exact h.twice hp hm h8a hn
      have HN : Hid (∀ (D : DataW Unit) (m : Nat), ¬ m < (bs[k]).has.length → HoldD D bs k m → HoldD D bs (k + 1) 0) := fun D m hm h => h.next hp hm
      obtain ⟨-, hz, hp1⟩ := l1.inv
      clear h8a l1
      generalize bs[k] = x0 at *
      obtain ⟨hc, hf⟩ := bcell hB
      have hB1 := hB.alloc hB.size (.cells #[.string (x0).nm, .slice a1 (x0).has.length d1, .slice a2 (x0).needs.length d2] 32)
      have hmap1 := hmap.alloc (.cells #[.string (x0).nm, .slice a1 (x0).has.length d1, .slice a2 (x0).needs.length d2] 32)
      have hC : CB (wr.alloc (.cells #[.string (x0).nm, .slice a1 (x0).has.length d1, .slice a2 (x0).needs.length d2] 32)) wr.heap.size [.string x0.nm, .slice a1 x0.has.length d1, .slice a2 x0.needs.length d2] := cb_alloc wr _ _
      have hz1 := hB.size
      go_upto_region 5 with fail
      generalize wr.alloc (.cells #[.string (x0).nm, .slice a1 (x0).has.length d1, .slice a2 (x0).needs.length d2] 32) = W1 at *
      obtain ⟨⟨e0, e1, e2⟩, -⟩ := hC.c3
      clear c0 c1 c2 hc hf hmap hB hS
      go_wp2_with fail
      clear e0 e1 e2 hC
      go_loopw [8, 9, 10, 22] (fun _ _ _ j w' => ∃ (m : Nat) (D' : DataW Unit), m ≤ x0.has.length ∧ j = .int .i64 m ∧ MapAt w' w.heap.size (k * 8 + m) D' ∧ HoldD D' bs k m ∧ Below w.heap.size w w') (fun _ _ _ j _ => x0.has.length - (intOf j).toNat)
      case atStart => exact ⟨0, D, by omega, rfl, hmap1, HD.out, hB1⟩
      case round =>
        clear hB1 hmap1 HD
        obtain ⟨m, D', hm, rfl, hmap, hD, hB⟩ := hrel
        have HD : Hid (HoldD D' bs k m) := hD
        clear hD
        by_cases hq : m < x0.has.length
        · obtain ⟨b1, o1, rfl, hS1, hb1⟩ := hp1 (by omega)
          have c0 := (hB.cell (p := ⟨b1, o1 + m, none⟩) hb1).trans (hS1.cell hq)
          have z0 := hz x0.has[m] (by simp)
          have hx := List.getElem?_eq_getElem hq
          generalize x0.has[m] = s at *
          have Hy : Hid (Maps.has D' (kl s) = false → HoldD (D'.put (kl s) (.lit (.int .i64 (k : Int)))) bs k (m + 1)) := HS.out D' m s hx HD.out
          have Ht : Hid (Maps.has D' (kl s) = true → ¬ Apart bs) := HT.out D' m s hx HD.out
          have hkey : keyOf Tryz.prog 9 (.string s) = some (kl s) := WideMaps.keyOf_string_mk Tryz.underlying9 z0
          clear HS HT HN hx HD
          cases ht : Maps.has D' (kl s)
          · go_wp2_with (first
              | (at_lookup; refine wpList_lookup_own_ok_int _ rfl _ _ 70 rfl 9 3 .i64 keyLaw Tryz.underlying70 Tryz.underlying3 (zeroInt _) w.heap.size (k * 8 + m) D' rfl hmap _ _ rfl hkey ?_; intro cc _ _)
              | (at_mapUpdate; refine wpList_mapUpdate_own _ rfl _ _ _ 70 rfl 9 3 keyLaw Tryz.underlying70 _ w.heap.size (k * 8 + m) D' rfl hmap (by unfold maxLen; omega) _ _ _ rfl rfl hkey _ [] (plainElem_int Tryz.underlying3 (WalkArith.wf_i64 (by omega))) ?_; intro w1 hown1 hgrow1))
            have HD1 : Hid (HoldD (D'.put (kl s) (.lit (.int .i64 (k : Int)))) bs k (m + 1)) := Hy.out ht
            have hB1 := below_gr hB hgrow1 (Nat.le_refl _)
            clear Hy Ht hgrow1 hmap hB c0
            go_wp2_with fail
            go_roundw
            case rel => exact ⟨m + 1, _, by omega, by go_num, hown1, HD1.out, hB1⟩
            case measure => simp [intOf]; omega
          · go_wp2_with (first
              | (at_lookup; refine wpList_lookup_own_ok_int _ rfl _ _ 70 rfl 9 3 .i64 keyLaw Tryz.underlying70 Tryz.underlying3 (zeroInt _) w.heap.size (k * 8 + m) D' rfl hmap _ _ rfl hkey ?_; intro cc _ _))
            go_returns
            exact ⟨.inr ⟨Ht.out ht, rfl⟩, hB⟩
        · go_wp2_with fail
          go_roundw
          case rel => exact ⟨k + 1, D', by omega, by go_num, hmap.mono (by omega), HN.out D' m hq HD.out, hB⟩
          case measure => simp [intOf]; omega
    · have Hk : Hid (k = bs.length) := by show _ = _; omega
      go_wp2_with fail
      go_returns
      exact ⟨.inl ⟨HD.out.apart hp, _, _, D, rfl, hmap, by rw [← Hk.out]; exact HD.out, Nat.le_refl _⟩, hB⟩
end Go.Proofs.YtnojjmkmkelbgaaGreat

/- The program's walks over books (chapter 11): ok or not, who has what. -/
namespace Go.Proofs.YtnojjmkmkelbgaaGreat
open Go.RowKit Go.Maps

theorem bas_has {things : List ByteArray} {bs : List Ba} (h8 : things.length ≤ 8) (h : BasTo things bs bs.length) : ∀ x ∈ bs, Asc x.has ∧ x.has.length ≤ 8 := fun x hx => by
  obtain ⟨i, hi, rfl⟩ := List.getElem_of_mem hx
  obtain ⟨h1, h2⟩ := h.at hi hi
  have e1 := part_short h1
  have e2 := part_short h2
  exact ⟨h2.2, by omega⟩

set_option maxHeartbeats 2000000 in
theorem bookOk_any (b : Bk) (v : Value) (w : World) (h : BkV w v b) :
    Calls Tryz.prog 18 #[v] w fun e w' => e = .returned (.bool (bookB b)) ∧ Below w.heap.size w w' := by
  obtain ⟨a1, c1, a2, c2, rfl, h1, h2⟩ := h.parts
  have hC : CB (w.alloc (.cells #[.slice a1 (b).things.length c1, .slice a2 (b).bs.length c2] 26)) w.heap.size [.slice a1 b.things.length c1, .slice a2 b.bs.length c2] := cb_alloc w _ _
  have hB0 := (Below.refl w.heap.size w).alloc (Nat.le_refl _) (.cells #[.slice a1 (b).things.length c1, .slice a2 (b).bs.length c2] 26)
  have g1 := h1.inv.1
  have g2 := h2.at.1
  unfold maxLen at g1 g2
  go_enter Tryz.func18, Tryz.ntmps18
  go_upto_region 1 with fail
  generalize w.alloc (.cells #[.slice a1 (b).things.length c1, .slice a2 (b).bs.length c2] 26) = W1 at *
  have l1 := h1.up hB0
  have l2 := h2.up hB0
  obtain ⟨e0, e1⟩ := hC.c2'
  have hlt := hC.2.2
  clear h h1 h2
  by_cases h8 : 8 < b.things.length
  · have Hq : Hid (bookB b = false) := pB_no fun h => by have := h.1.1; omega
    go_wp2_with fail
    go_ret
    exact ⟨ret_bool Hq.out.symm, hB0⟩
  by_cases h5 : 5 < b.bs.length
  · have Hq : Hid (bookB b = false) := pB_no fun h => by have := h.2.1; omega
    go_wp2_with fail
    go_ret
    exact ⟨ret_bool Hq.out.symm, hB0⟩
  cases ho : pB (Names b.things ∧ Asc b.things)
  · have Hq : Hid (bookB b = false) := pB_no fun h => pB_not.1 ho ⟨h.1.2.1, h.1.2.2⟩
    go_wp2_with fail
    refine (ordered_any b.things _ _ l1).mono ?_
    rintro e w2 ⟨rfl, hB⟩
    rw [ho]
    go_wp2_with fail
    go_ret
    exact ⟨ret_bool Hq.out.symm, up_trans hB0 hB⟩
  have Ho : Hid (ThingsOk b.things) := ⟨by omega, (pB_iff.1 ho).1, (pB_iff.1 ho).2⟩
  go_wp2_with fail
  refine (ordered_any b.things _ _ l1).mono ?_
  rintro e w2 ⟨rfl, hb2⟩
  rw [ho]
  clear ho
  obtain ⟨hc, hf⟩ := bcell hb2
  go_wp2_with fail
  refine (batchNames_any b.bs _ _ (l2.up hb2) (by omega)).mono ?_
  rintro e w3 ⟨⟨u, rfl, -, hu⟩, hb3⟩
  clear hc hf
  obtain ⟨au, cu, rfl, -⟩ := id hu
  go_wp2_with fail
  refine (ordered_any (nms b.bs) _ _ hu).mono ?_
  rintro e w4 ⟨rfl, hb4⟩
  have hB := up_trans (up_trans hb2 hb3) hb4
  clear hb2 hb3 hb4 hu
  cases hn : pB (Names (nms b.bs) ∧ Asc (nms b.bs))
  · have Hq : Hid (bookB b = false) := pB_no fun h => pB_not.1 hn ⟨h.2.2.1, h.2.2.2.1⟩
    go_wp2_with fail
    go_ret
    exact ⟨ret_bool Hq.out.symm, up_trans hB0 hB⟩
  have Hn : Hid (Names (nms b.bs) ∧ Asc (nms b.bs)) := pB_iff.1 hn
  clear hn
  obtain ⟨hc, hf⟩ := bcell hB
  obtain ⟨-, hpos⟩ := l2.at
  have hz4 := hB.size
  go_wp2_with fail
  clear hc hf
  go_loopw [4, 31] (fun _ i w' => ∃ k : Nat, k ≤ b.bs.length ∧ i = .int .i64 k ∧ BasTo b.things b.bs k ∧ Below W1.heap.size W1 w') (fun _ i _ => b.bs.length - (intOf i).toNat)
  case atStart => exact ⟨0, by omega, rfl, BasTo.zero _ _, hB⟩
  case round =>
    clear hB hz4
    obtain ⟨k, hk, rfl, hal, hB⟩ := hrel
    have Hal : Hid (BasTo b.things b.bs k) := hal
    clear hal
    by_cases hp : k < b.bs.length
    · obtain ⟨bb, o, rfl, hS, hb⟩ := hpos (by omega)
      obtain ⟨a3, d3, a4, d4, c3, c4, c5, l3, l4, -⟩ := ((hS.at hp).up hB hb).cells
      have HS : Hid (BaOk b.things b.bs[k] → BasTo b.things b.bs (k + 1)) := fun h => Hal.out.step hp h
      have HN : Hid (¬ BaOk b.things b.bs[k] → bookB b = false) := fun h => pB_no fun hb => h (hb.2.2.2.2.1.at hp hp)
      generalize b.bs[k] = x0 at *
      have hC1 : CB (wr.alloc (.cells #[.string (x0).nm, .slice a3 (x0).has.length d3, .slice a4 (x0).needs.length d4] 32)) wr.heap.size [.string x0.nm, .slice a3 x0.has.length d3, .slice a4 x0.needs.length d4] := cb_alloc wr _ _
      have hb5 := (Below.refl wr.heap.size wr).alloc (Nat.le_refl _) (.cells #[.string (x0).nm, .slice a3 (x0).has.length d3, .slice a4 (x0).needs.length d4] 32)
      go_upto_region 8 with fail
      generalize wr.alloc (.cells #[.string (x0).nm, .slice a3 (x0).has.length d3, .slice a4 (x0).needs.length d4] 32) = W2 at *
      have hB5 := up_trans hB hb5
      have l3' := l3.up hb5
      have l4' := l4.up hb5
      have l1' := l1.up hB5
      obtain ⟨⟨q0, q1, q2⟩, -⟩ := hC1.c3
      obtain ⟨hc, hf⟩ := bcell hB5
      clear c3 c4 c5 l3 l4 hb5 hB hS
      go_wp2_with fail
      refine (batchOk_any x0 b.things _ _ _ _ l3' l4' l1').mono ?_
      rintro e w6 ⟨rfl, hb6⟩
      have hB6 := up_trans hB5 hb6
      clear hc hf q0 q1 q2 l3' l4' l1' hB5 hb6 hC1
      cases hq : pB (BaOk b.things x0)
      · have Hq : Hid (bookB b = false) := HN.out (pB_not.1 hq)
        go_wp2_with fail
        go_ret
        exact ⟨ret_bool Hq.out.symm, up_trans hB0 hB6⟩
      · have Hq : Hid (BasTo b.things b.bs (k + 1)) := HS.out (pB_iff.1 hq)
        go_wp2_with fail
        go_roundw
        case rel => exact ⟨k + 1, by omega, by go_num, Hq.out, hB6⟩
        case measure => simp [intOf]; omega
    · have Hq : Hid (BasTo b.things b.bs b.bs.length) := bas_end Hal.out hp
      have h8' : ∀ x ∈ b.bs, Asc x.has ∧ x.has.length ≤ 8 := bas_has (by omega) Hq.out
      obtain ⟨hc, hf⟩ := bcell hB
      go_wp2_with fail
      refine (holders_any b.bs _ _ (l2.up hB) (by omega) h8').mono ?_
      rintro e w6 ⟨hh, hb6⟩
      have hB6 := up_trans hB hb6
      clear hc hf
      rcases hh with ⟨hA, M, n, D, rfl, -, -, -⟩ | ⟨hA, rfl⟩
      · have Hy : Hid (bookB b = true) := pB_yes ⟨Ho.out, by omega, Hn.out.1, Hn.out.2, Hq.out, hA⟩
        go_wp2_with fail
        go_ret
        exact ⟨ret_bool Hy.out.symm, up_trans hB0 hB6⟩
      · have Hy : Hid (bookB b = false) := pB_no fun h => hA h.2.2.2.2.2
        go_wp2_with fail
        go_ret
        exact ⟨ret_bool Hy.out.symm, up_trans hB0 hB6⟩
end Go.Proofs.YtnojjmkmkelbgaaGreat

/- The program's walks of chapter 12: bits of things. -/
namespace Go.Proofs.YtnojjmkmkelbgaaGreat
open Go.RowKit

theorem indexS_any (ss : List ByteArray) (v : Value) (s : ByteArray) (w : World) (h : Ls w v ss) :
    Calls Tryz.prog 77 #[v, .string s] w fun e w' => e = .returned (.int .i64 (idxI ss s)) ∧ w' = w := by
  obtain ⟨a, c, rfl, hn, -, hpos⟩ := h
  unfold maxLen at hn
  go_enter Tryz.func77, Tryz.ntmps77
  go_wp2
  go_loop [8] (fun i => ∃ k : Nat, k ≤ ss.length ∧ i = .int .i64 k ∧ memS (ss.take k) s = false) (fun i => ss.length - (intOf i).toNat)
  case atStart => exact ⟨0, by omega, rfl, rfl⟩
  case round =>
    obtain ⟨k, hk, rfl, hal⟩ := hrel
    have Hal : Hid (memS (ss.take k) s = false) := hal
    clear hal
    by_cases hp : k < ss.length
    · obtain ⟨b, o, rfl, hS, hb⟩ := hpos (by omega)
      have c0 := hS.cell hp
      cases hq : (s.toList == (ss[k]).toList)
      · have Hq : Hid (((ss[k]).toList == s.toList) = false) := by show _ = _; rw [beq_flip]; exact hq
        go_wp2
        go_round
        case rel => exact ⟨k + 1, by omega, by go_num, memS_take hp Hal.out Hq.out⟩
        case measure => simp [intOf]; omega
      · have Hq : Hid (((ss[k]).toList == s.toList) = true) := by show _ = _; rw [beq_flip]; exact hq
        go_wp2
        go_ret
        exact ⟨ret_int (idxI_found hp Hal.out Hq.out).symm, rfl⟩
    · go_wp2
      go_ret
      exact ⟨ret_int (idxI_none (memS_all hp Hal.out)).symm, rfl⟩

theorem containsS_any (ss : List ByteArray) (v : Value) (s : ByteArray) (w : World) (h : Ls w v ss) :
    Calls Tryz.prog 55 #[v, .string s] w fun e w' => e = .returned (.bool (memS ss s)) ∧ w' = w := by
  obtain ⟨a, c, rfl, -⟩ := id h
  go_enter Tryz.func55, Tryz.ntmps55
  go_wp2_with (go_at_call 77; refine (indexS_any ss _ _ _ h).mono ?_; rintro e w' ⟨rfl, hw⟩; obtain rfl := hw.symm; clear hw)
  all_goals
    go_ret
    refine ⟨ret_bool ?_, rfl⟩
    rw [← idxI_mem]
    try simp_all

theorem wrap_small {x : Int} (h0 : 0 ≤ x) (h1 : x < 18446744073709551616) : IntKind.u64.wrap x = x := by
  rw [IntKind.wrap_u64]; omega
theorem two_pow {k : Nat} (_ : k ≤ 7) : (2 : Int) ^ k = ((2 ^ k : Nat) : Int) := by simp
theorem two_pow_lt {k : Nat} (h : k ≤ 7) : 2 ^ k ≤ 128 := Nat.pow_le_pow_right (n := 2) (by omega) h
theorem wrap_sum {n k : Nat} (hn : n < 256) (hk : k ≤ 7) : IntKind.u64.wrap ((n : Int) + IntKind.u64.wrap (2 ^ k)) = ((n + 2 ^ k : Nat) : Int) := by
  have h := two_pow_lt hk
  rw [two_pow hk]
  generalize 2 ^ k = m at *
  rw [wrap_small (x := (m : Int)) (by omega) (by omega), wrap_small (by omega) (by omega)]; omega
theorem bitsN_take {l : List ByteArray} {P : ByteArray → Bool} {k : Nat} (hk : k < l.length) : bitsN (l.take (k + 1)) P = bitsN (l.take k) P + (if P l[k] = true then 2 ^ k else 0) := by
  rw [List.take_succ_eq_append_getElem hk, bitsN_snoc, List.length_take, Nat.min_eq_left (by omega)]
theorem bitsOf_any (things picked : List ByteArray) (u v : Value) (w : World) (h : Ls w u things) (h2 : Ls w v picked) (h8 : things.length ≤ 8) :
    Calls Tryz.prog 39 #[u, v] w fun e w' => e = .returned (.int .u64 (bitsN things (memS picked) : Nat)) ∧ w' = w := by
  obtain ⟨a, c, rfl, -, -, hpos⟩ := h
  obtain ⟨a2, c2, rfl, -⟩ := id h2
  go_enter Tryz.func39, Tryz.ntmps39
  go_wp2
  go_loop [5, 6, 7, 10] (fun x _ _ i => ∃ k : Nat, k ≤ things.length ∧ i = .int .i64 k ∧ x = .int .u64 (bitsN (things.take k) (memS picked) : Nat)) (fun _ _ _ i => things.length - (intOf i).toNat)
  case atStart => exact ⟨0, by omega, rfl, rfl⟩
  case round =>
    obtain ⟨k, hk, rfl, rfl⟩ := hrel
    by_cases hp : k < things.length
    · obtain ⟨b, o, rfl, hS, hb⟩ := hpos (by omega)
      have c0 := hS.cell hp
      have Hb := bitsN_take (P := memS picked) hp
      have hsm : bitsN (things.take k) (memS picked) < 256 := bitsN_small (by rw [List.length_take]; omega) _
      cases hq : memS picked things[k]
      · have HB : Hid (bitsN (things.take (k + 1)) (memS picked) = bitsN (things.take k) (memS picked)) := by show _ = _; rw [Hb, hq]; simp
        clear Hb
        go_wp2_with (go_at_call 55; refine (containsS_any picked _ _ _ h2).mono ?_; rintro e w' ⟨rfl, hw⟩; obtain rfl := hw.symm; clear hw)
        go_round
        case rel => exact ⟨k + 1, by omega, by go_num, by rw [HB.out]⟩
        case measure => simp [intOf]; omega
      · have HB : Hid (bitsN (things.take (k + 1)) (memS picked) = bitsN (things.take k) (memS picked) + 2 ^ k) := by show _ = _; rw [Hb, if_pos hq]
        clear Hb
        go_wp2_with (go_at_call 55; refine (containsS_any picked _ _ _ h2).mono ?_; rintro e w' ⟨rfl, hw⟩; obtain rfl := hw.symm; clear hw)
        go_round
        case rel =>
          refine ⟨k + 1, by omega, by go_num, ?_⟩
          rw [HB.out, wrap_sum hsm (by omega)]
        case measure => simp [intOf]; omega
    · have HB : Hid (bitsN (things.take k) (memS picked) = bitsN things (memS picked)) := by show _ = _; rw [List.take_of_length_le (by omega)]
      go_wp2
      go_ret
      exact ⟨congrArg (fun n : Nat => Ending.returned (.int .u64 (n : Int))) HB.out, rfl⟩
end Go.Proofs.YtnojjmkmkelbgaaGreat

/- The program's table in memory: who can, who leaves (chapter 12). -/
namespace Go.Proofs.YtnojjmkmkelbgaaGreat
open Go.RowKit

/-- The table in block tb, its rows in a row of their own behind it. -/
def Tab (w : World) (tb : Nat) (things : List ByteArray) (ts : List Tr) : Prop :=
  ∃ rv, CB w tb [rv, .int .u64 (bitsN things (freeL ts) : Nat)] ∧ w.ownsRow (tb + 1) 55 4 rv ts.length (rowsL things ts)
theorem Tab.up {w w' : World} {tb : Nat} {things : List ByteArray} {ts : List Tr} (h : Tab w tb things ts) (hb : Below w.heap.size w w') : Tab w' tb things ts := by
  obtain ⟨rv, h1, h2⟩ := h
  exact ⟨rv, h1.up hb h1.2.2, own_up h2 hb⟩
theorem Tab.drewN {w : World} {tb n : Nat} {things : List ByteArray} {ts : List Tr} (h : Tab w tb things ts) : Tab (w.drewN n) tb things ts := h
theorem Tab.lt {w : World} {tb : Nat} {things : List ByteArray} {ts : List Tr} (h : Tab w tb things ts) : tb < w.heap.size := by
  obtain ⟨rv, h1, -⟩ := h; exact h1.2.2
/-- A row's four cells. -/
theorem row_cells {w : World} {base g cap : Nat} {things : List ByteArray} {ts : List Tr} (h : w.ownsRow base 55 4 (.slice (some ⟨g, 0, none⟩) ts.length cap) ts.length (rowsL things ts)) {i : Nat} {p : Tr} (hp : ts[i]? = some p) :
    w.cell? ⟨g, i * 4, none⟩ = some (.string p.1.nm) ∧ w.cell? ⟨g, i * 4 + 1, none⟩ = some (.int .u64 (bitsN things (memS p.1.has) : Nat)) ∧ w.cell? ⟨g, i * 4 + 2, none⟩ = some (.int .u64 (bitsN things (memS p.1.needs) : Nat)) ∧ w.cell? ⟨g, i * 4 + 3, none⟩ = some (.bool p.2) := by
  have hi := (List.getElem?_eq_some_iff.1 hp).1
  refine ⟨?_, ?_, ?_, ?_⟩
  · rw [show i * 4 = i * 4 + 0 by omega, h.cellAt (i * 4 + 0) (by omega), rowsL_get things ts i 0 p hp (by omega)]; rfl
  · rw [h.cellAt (i * 4 + 1) (by omega), rowsL_get things ts i 1 p hp (by omega)]; rfl
  · rw [h.cellAt (i * 4 + 2) (by omega), rowsL_get things ts i 2 p hp (by omega)]; rfl
  · rw [h.cellAt (i * 4 + 3) (by omega), rowsL_get things ts i 3 p hp (by omega)]; rfl
theorem andNot_small (a b : Nat) (ha : a < 256) (hb : b < 512) : bits .andNot .u64 (a : Int) (b : Int) = ((a &&& (18446744073709551615 - b) : Nat) : Int) := by
  have := u64_andNot (a : Int) (b : Int) (by omega) (by omega) (by omega) (by omega)
  simpa using this

set_option maxHeartbeats 2000000 in
theorem can_any (tb at' : Nat) (things : List ByteArray) (ts : List Tr) (p : Tr) (w : World) (h : Tab w tb things ts) (h8 : things.length ≤ 8) (hp : ts[at']? = some p) (h5 : ts.length ≤ 5) :
    Calls Tryz.prog 21 #[.pointer (some ⟨tb, 0, none⟩), .int .i64 at'] w fun e w' => e = .returned (.bool (!p.2 && decide (bitsN things (memS p.1.needs) &&& (18446744073709551615 - (bitsN things (freeL ts) + bitsN things (memS p.1.has))) = 0))) ∧ Below w.heap.size w w' := by
  obtain ⟨rv, hC, hown⟩ := h
  have hi := (List.getElem?_eq_some_iff.1 hp).1
  obtain ⟨g, cap, rfl⟩ := own_ptr2 hown (by omega)
  obtain ⟨r0, r1, r2, r3⟩ := row_cells hown hp
  obtain ⟨t0, t1⟩ := hC.c2'
  have htl := hC.2.2
  have n1 := bitsN_small h8 (memS p.1.has)
  have n2 := bitsN_small h8 (memS p.1.needs)
  have n3 := bitsN_small h8 (freeL ts)
  generalize bitsN things (memS p.1.has) = hb at *
  generalize bitsN things (memS p.1.needs) = nb at *
  generalize bitsN things (freeL ts) = fb at *
  clear hown hC
  obtain ⟨W1, hW1, kX, hB1, hs1⟩ : ∃ W1, w.alloc (.cells #[.string p.1.nm, .int .u64 (hb : Nat), .int .u64 (nb : Nat), .bool p.2] 55) = W1 ∧ CB W1 w.heap.size [.string p.1.nm, .int .u64 (hb : Nat), .int .u64 (nb : Nat), .bool p.2] ∧ Below w.heap.size w W1 ∧ W1.heap.size = w.heap.size + 1 := ⟨_, rfl, cb1 w _ _⟩
  go_enter Tryz.func21, Tryz.ntmps21
  go_upto_region 2 with fail
  try rw [hW1]
  clear hW1 r0 r1 r2 r3
  have x1 := kX.1 1 _ rfl
  have x2 := kX.1 2 _ rfl
  have x3 := kX.1 3 _ rfl
  have f1 := (hB1.cell (p := ⟨tb, 1, none⟩) htl).trans t1
  simp only [Nat.zero_add] at x1 x2 x3
  have hadd : IntKind.u64.wrap ((fb : Int) + (hb : Int)) = ((fb + hb : Nat) : Int) := by rw [wrap_small (by omega) (by omega)]; omega
  have hand := andNot_small nb (fb + hb) n2 (by omega)
  cases hgone : p.2
  · rw [hgone] at x3
    go_wp2_with fail
    go_quiet (fail)
    go_wp2_with fail
    go_ret
    refine ⟨ret_bool ?_, below_drewN hB1 _⟩
    rw [hgone, ← Int.natCast_add, hand]
    rw [Bool.eq_iff_iff, beq_iff_eq]
    simp
  · rw [hgone] at x3
    go_wp2_with fail
    go_quiet (fail)
    go_wp2_with fail
    go_ret
    exact ⟨ret_bool (by rw [hgone]; rfl), below_drewN hB1 _⟩

/-- Two rows of different types lie apart; a row that lies apart from what turned stays. -/
theorem own_apart {w : World} {base base' e e' s s' n n' : Nat} {v v' : Value} {xs xs' : List Value} (h : w.ownsRow base e s v n xs) (h' : w.ownsRow base' e' s' v' n' xs') (hne : e ≠ e') : ∀ g, v.ownBlock = some g → some g ≠ v'.ownBlock := fun g hg hg' => by
  rcases h.2 with ⟨rfl, _⟩ | ⟨g1, cap, cur, rfl, _, hh, _⟩
  · simp [Value.ownBlock] at hg
  · rcases h'.2 with ⟨rfl, _⟩ | ⟨g2, cap', cur', rfl, _, hh', _⟩
    · simp [Value.ownBlock] at hg'
    · simp [Value.ownBlock] at hg hg'
      subst hg hg'
      rw [hh] at hh'
      simp at hh'
      exact hne hh'.2
theorem own_keep {w w' : World} {base e s n : Nat} {v : Value} {xs : List Value} {r : Option Nat} (h : w.ownsRow base e s v n xs) (hg : w.grownBy w' r) (hne : ∀ g, v.ownBlock = some g → some g ≠ r) : w'.ownsRow base e s v n xs := by
  refine ⟨h.1, ?_⟩
  rcases h.2 with h0 | ⟨g, cap, cur, hv, hb, hh, q⟩
  · exact .inl h0
  · refine .inr ⟨g, cap, cur, hv, hb, ?_, q⟩
    rw [hg.block g (Array.getElem?_eq_some_iff.1 hh).1 (hne g (by rw [hv]; rfl))]; exact hh
theorem there_row {w : World} {base g cap n : Nat} {xs : List Value} {e size : Nat} (h : w.ownsRow base e size (.slice (some ⟨g, 0, none⟩) n cap) n xs) (k : Nat) : w.frozen? ⟨g, k, none⟩ = false := h.frozenAt k
end Go.Proofs.YtnojjmkmkelbgaaGreat

/- Books that are short, and stay so whatever is asked of them. -/
namespace Go.Proofs.YtnojjmkmkelbgaaGreat
open Go.RowKit

/-- A drawn book is short, and its names can be. -/
def Tiny (b : Bk) : Prop := b.things.length ≤ 40 ∧ b.bs.length ≤ 40 ∧ ∀ x ∈ b.bs, x.has.length ≤ 40 ∧ x.needs.length ≤ 40
/-- A spoilt one may be a little longer. -/
def Loose (b : Bk) : Prop := b.things.length ≤ 50 ∧ b.bs.length ≤ 50 ∧ ∀ x ∈ b.bs, x.has.length ≤ 50 ∧ x.needs.length ≤ 50
def Dk (w : World) (base : Nat) (v : Value) (b : Bk) : Prop := BkW w base v b ∧ Szb b ∧ Tiny b
theorem Dk.gr {w w' : World} {base r : Nat} {v : Value} {b : Bk} (h : Dk w base v b) (hg : w.grownBy w' (some r)) (hr : r < base) : Dk w' base v b := ⟨h.1.gr hg hr, h.2⟩
theorem Dk.low {w : World} {base base' : Nat} {v : Value} {b : Bk} (h : Dk w base v b) (hb : base' ≤ base) : Dk w base' v b := ⟨h.1.low hb, h.2⟩
theorem Dk.up {w w' : World} {base : Nat} {v : Value} {b : Bk} (h : Dk w base v b) (hb : Below w.heap.size w w') : Dk w' base v b := ⟨h.1.up hb, h.2⟩
theorem Dk.bk {w : World} {base : Nat} {v : Value} {b : Bk} (h : Dk w base v b) : BkV w v b := h.1.bk h.2.1
def DkL (w : World) (base : Nat) (v : Value) (b : Bk) : Prop := BkW w base v b ∧ Szb b ∧ Loose b
theorem Dk.loose {w : World} {base : Nat} {v : Value} {b : Bk} (h : Dk w base v b) : DkL w base v b := by
  obtain ⟨h1, h2, h3, h4, h5⟩ := h
  exact ⟨h1, h2, by omega, by omega, fun x hx => by have := h5 x hx; omega⟩
theorem DkL.gr {w w' : World} {base r : Nat} {v : Value} {b : Bk} (h : DkL w base v b) (hg : w.grownBy w' (some r)) (hr : r < base) : DkL w' base v b := ⟨h.1.gr hg hr, h.2⟩
theorem DkL.low {w : World} {base base' : Nat} {v : Value} {b : Bk} (h : DkL w base v b) (hb : base' ≤ base) : DkL w base' v b := ⟨h.1.low hb, h.2⟩
theorem DkL.up {w w' : World} {base : Nat} {v : Value} {b : Bk} (h : DkL w base v b) (hb : Below w.heap.size w w') : DkL w' base v b := ⟨h.1.up hb, h.2⟩
theorem DkL.bk {w : World} {base : Nat} {v : Value} {b : Bk} (h : DkL w base v b) : BkV w v b := h.1.bk h.2.1
theorem tiny_none : Tiny nobody := ⟨by simp [nobody], by simp [nobody], fun x hx => by simp [nobody] at hx⟩
theorem mem_ins {α : Type} {l : List α} {k : Nat} {x y : α} (h : y ∈ l.take k ++ x :: l.drop k) : y ∈ l ∨ y = x := by
  rcases List.mem_append.1 h with h | h
  · exact .inl (List.mem_of_mem_take h)
  · rcases List.mem_cons.1 h with h | h
    · exact .inr h
    · exact .inl (List.mem_of_mem_drop h)
theorem enter_dk {b : Bk} {nm : ByteArray} {needs : List ByteArray} (hz : Szb b) (ht : Tiny b) (hn : ∀ s ∈ needs, s.size ≤ maxLen) : Szb (enterB b nm needs) ∧ Tiny (enterB b nm needs) := by
  cases hok : bookB b
  · rw [(enter_no hok).2]; exact ⟨szb_none, tiny_none⟩
  · cases h2 : (nameB nm && pB (PartOk needs b.things))
    · rw [(enter_two hok h2).2]; exact ⟨hz, ht⟩
    · cases h3 : memS (nms b.bs) nm
      · by_cases h4 : 5 ≤ b.bs.length
        · rw [(enter_four hok h2 h3 h4).2]; exact ⟨hz, ht⟩
        · rw [(enter_yes hok h2 h3 h4).2]
          have hp : PartOk needs b.things := pB_iff.1 (by rw [Bool.and_eq_true] at h2; exact h2.2)
          have hl := part_short hp
          obtain ⟨s1, s2, s3⟩ := ok_small (book_ok hok)
          refine ⟨⟨hz.1, fun y hy => ?_⟩, by show b.things.length ≤ 40; omega, by simp; omega, fun y hy => ?_⟩
          · rcases mem_ins hy with h | rfl
            · exact hz.2 y h
            · exact ⟨fun s hs => by simp at hs, hn⟩
          · rcases mem_ins hy with h | rfl
            · exact ht.2.2 y h
            · exact ⟨by simp, by show needs.length ≤ 40; omega⟩
      · rw [(enter_three hok h2 h3).2]; exact ⟨hz, ht⟩
theorem leave_dk {b : Bk} {nm : ByteArray} (hz : Szb b) (ht : Tiny b) : Szb (leaveB b nm) ∧ Tiny (leaveB b nm) := by
  cases hok : bookB b
  · rw [(leave_no hok).2]; exact ⟨szb_none, tiny_none⟩
  · cases h3 : memS (nms b.bs) nm
    · rw [(leave_none hok h3).2]; exact ⟨hz, ht⟩
    · rw [(leave_yes hok h3).2]
      have hm : ∀ y ∈ b.bs.take (plN b nm) ++ b.bs.drop (plN b nm + 1), y ∈ b.bs := fun y hy => by
        rcases List.mem_append.1 hy with h | h
        · exact List.mem_of_mem_take h
        · exact List.mem_of_mem_drop h
      have h2 := ht.2.1
      exact ⟨⟨hz.1, fun y hy => hz.2 y (hm y hy)⟩, ht.1, by simp; omega, fun y hy => ht.2.2 y (hm y hy)⟩
theorem chg_dk {b : Bk} {p : Nat} {f : Ba → Ba} (hz : Szb b) (ht : Tiny b) (hf : ∀ x ∈ b.bs, ((∀ s ∈ (f x).has, s.size ≤ maxLen) ∧ ∀ s ∈ (f x).needs, s.size ≤ maxLen) ∧ (f x).has.length ≤ 40 ∧ (f x).needs.length ≤ 40) : Szb (chg b p f) ∧ Tiny (chg b p f) := by
  cases hx : b.bs[p]? with
  | none => simp only [chg, hx]; exact ⟨hz, ht⟩
  | some x =>
    rw [chg_at hx]
    have hm := List.mem_of_getElem? hx
    refine ⟨⟨hz.1, fun y hy => ?_⟩, ht.1, by rw [List.length_set]; exact ht.2.1, fun y hy => ?_⟩
    · rcases List.mem_or_eq_of_mem_set hy with h | rfl
      · exact hz.2 y h
      · exact (hf x hm).1
    · rcases List.mem_or_eq_of_mem_set hy with h | rfl
      · exact ht.2.2 y h
      · exact (hf x hm).2
theorem needsAt_len {b : Bk} {nm : ByteArray} (h : bookB b = true) : (needsAt b nm).length ≤ 8 := by
  obtain ⟨s1, s2, s3⟩ := ok_small (book_ok h)
  cases hx : b.bs[plN b nm]? with
  | none => simp [needsAt, hx]
  | some x => rw [needsAt_at hx]; exact (s3 x (List.mem_of_getElem? hx)).2
theorem less_dk {b : Bk} {nm : ByteArray} {needs : List ByteArray} (hz : Szb b) (ht : Tiny b) (hn : ∀ s ∈ needs, s.size ≤ maxLen) : Szb (lsnB b nm needs) ∧ Tiny (lsnB b nm needs) := by
  cases hok : bookB b
  · rw [(less_no hok).2]; exact ⟨szb_none, tiny_none⟩
  · cases h3 : memS (nms b.bs) nm
    · rw [(less_none hok h3).2]; exact ⟨hz, ht⟩
    · cases h2 : pB (PartOk needs (needsAt b nm))
      · rw [(less_two hok h3 h2).2]; exact ⟨hz, ht⟩
      · rw [(less_yes hok h3 h2).2]
        exact chg_dk hz ht fun x hx => ⟨⟨fun s hs => (hz.2 x hx).1 s (List.mem_filter.1 hs).1, hn⟩, Nat.le_trans (List.length_filter_le _ _) (ht.2.2 x hx).1, by have := part_short (pB_iff.1 h2); have := needsAt_len (nm := nm) hok; show needs.length ≤ 40; omega⟩
theorem ask_dk {b b' : Bk} {nm : ByteArray} {things : List ByteArray} {cd : Int} (h : AskIs b nm things cd b') (hz : Szb b) (ht : Tiny b) (hn : ∀ s ∈ things, s.size ≤ maxLen) : Szb b' ∧ Tiny b' := by
  have hlast : bookB b = true → pB (PartOk things (needsAt b nm)) = true → Szb (chg b (plN b nm) (askF things)) ∧ Tiny (chg b (plN b nm) (askF things)) := fun hok hp => by
    obtain ⟨s1, s2, s3⟩ := ok_small (book_ok hok)
    have hl1 := part_short (pB_iff.1 hp)
    have hl2 := needsAt_len (nm := nm) hok
    exact chg_dk hz ht fun x hx => ⟨⟨fun s hs => by
      rcases insAll_mem _ _ s hs with h | h
      · exact (hz.2 x hx).1 s h
      · exact hn s h, (hz.2 x hx).2⟩, Nat.le_trans (insAll_len x.has things) (by have := s3 x hx; omega), (ht.2.2 x hx).2⟩
  rcases h with ⟨_, _, rfl⟩ | ⟨_, _, _, rfl⟩ | ⟨_, _, _, _, rfl⟩ | ⟨_, _, _, _, _, rfl⟩ | ⟨_, _, _, _, _, _, _, rfl⟩ | ⟨hok, _, hp, _, _, _, rfl⟩
  · exact ⟨szb_none, tiny_none⟩
  · exact ⟨hz, ht⟩
  · exact ⟨hz, ht⟩
  · exact ⟨hz, ht⟩
  · exact ⟨hz, ht⟩
  · exact hlast hok hp

end Go.Proofs.YtnojjmkmkelbgaaGreat
