/- The specification's walk of l13Insert (chapter 13). -/
import Derived.Test.YtliebjbbomghiaaGreatDoorJ3
namespace Go.Proofs.YtliebjbbomghiaaGreatDoor
open Go.RowKit

set_option maxHeartbeats 2000000 in
theorem insert13_any (ss : List ByteArray) (v : Value) (nm : ByteArray) (w : World) (h : Txt w v ss) (hn : ss.length ≤ 1000) :
    Calls Tryz.prog 132 #[v, .string nm] w fun e w' => (∃ u, e = .returned u ∧ Txt w' u (insL ss nm) ∧ (u = v ∧ insL ss nm = ss ∨ OwnT w' w.heap.size u (insL ss nm))) ∧ Below w.heap.size w w' := by
  have hT := h
  obtain ⟨g, c, rfl, hS, hg, hc, hc9⟩ := h
  unfold maxLen at hc9
  obtain ⟨ii, hi, iz0, iz1, iz2⟩ := info_parts infoStr
  have HT : Hid (Txt w (.slice (some ⟨g, 0, none⟩) ss.length c) ss) := hT
  clear hT
  go_enter Tryz.func132, Tryz.ntmps132
  go_wp2_with fail
  go_loop [5] (fun i => ∃ k : Nat, k ≤ ss.length ∧ i = .int .i64 k ∧ lowL ss nm k) (fun i => ss.length - (intOf i).toNat)
  case atStart => exact ⟨0, by omega, rfl, fun j s hj => by omega⟩
  case round =>
    obtain ⟨k, hk, rfl, hlow⟩ := hrel
    have Hlow : Hid (lowL ss nm k) := hlow
    clear hlow
    by_cases hp : k < ss.length
    · have c0 := hS k ss[k] (by simp [hp])
      simp only [Nat.zero_add] at c0
      cases hl : Op.bytesLess (ss[k]).toList nm.toList
      case true =>
        have Hl : Hid (lessB ss[k] nm = true) := hl
        go_wp2_with fail
        go_round
        case rel => exact ⟨k + 1, by omega, by go_num, lowL_succ Hlow.out hp Hl.out⟩
        case measure => simp [intOf]; omega
      have Hl : Hid (lessB ss[k] nm = false) := hl
      cases hq : ((ss[k]).toList == nm.toList)
      case true =>
        have Hq : Hid (insL ss nm = ss) := insL_old ss nm k Hlow.out ⟨ss[k], by simp [hp], Hl.out, hq⟩
        go_wp2_with fail
        go_ret
        exact ⟨⟨_, rfl, by rw [Hq.out]; exact HT.out, .inl ⟨rfl, Hq.out⟩⟩, Below.refl _ _⟩
      have Hq : Hid (insL ss nm = ss.take k ++ nm :: ss.drop k) := insL_new ss nm k Hlow.out hk (fun s hs => by
        obtain ⟨_, rfl⟩ := List.getElem?_eq_some_iff.1 hs
        exact ⟨Hl.out, hq⟩)
      go_wp2_with fail
      obtain ⟨o2, ho2⟩ : ∃ o2 : Nat, (if c = k then some (⟨g, 0, none⟩ : Addr) else some ⟨g, k, none⟩) = some ⟨g, o2, none⟩ ∧ StrsAt w g o2 (ss.drop k) := by
        by_cases h7 : c = k
        · exact ⟨0, by rw [if_pos h7], fun i s hs => by
            have := (List.getElem?_eq_some_iff.1 hs).1; simp at this; omega⟩
        · exact ⟨k, by rw [if_neg h7], by have := hS.drop k; simpa using this⟩
      obtain ⟨ho2, -⟩ := ho2
      have Nb : ((w.alloc (.cells #[] 9)).alloc (.cells #[.string nm] 9)).drew.cell? ⟨w.heap.size + 1, 0, none⟩ = some (.string nm) := by simp [go_sem]
      have nb1 : some (w.heap.size + 1) ≠ (Value.slice (some ⟨w.heap.size, 0, none⟩) 0 0).ownBlock := by simp [Value.ownBlock]
      have Nc : ((w.alloc (.cells #[.string nm] 9)).alloc (.cells #[] 9)).drew.cell? ⟨w.heap.size, 0, none⟩ = some (.string nm) := by simp [go_sem]
      have nc1 : some w.heap.size ≠ (Value.slice (some ⟨w.heap.size + 1, 0, none⟩) 0 0).ownBlock := by simp [Value.ownBlock]
      have hkc : k ≤ c := by omega
      have Fa := (ow_lit hS (Below.refl w.heap.size w)).drew
      have Fb := ((ow_lit hS (Below.refl w.heap.size w)).alloc (.cells #[.string nm] 9)).drew
      have Fc := (ow_lit (hS.alloc (.cells #[.string nm] 9)) ((Below.refl w.heap.size w).alloc (Nat.le_refl _) (.cells #[.string nm] 9))).drew
      rw [show (w.alloc (.cells #[.string nm] 9)).heap.size = w.heap.size + 1 by simp] at Fc
      go_region_law (first
        | (revert h2; intro h2; refine step_append_own rfl _ _ 29 rfl w.heap.size 9 ii _ 1 16 Tryz.underlying29 hi iz0 iz1 iz2 rfl (by decide) _ _ _ rfl h2.1 ⟨g, o2, none⟩ (ss.length - k) _ ((ss.drop k).map Value.string) rfl (by simp) (news_of (strs_drop h2.2.1 ho2 hc)) (oneS _) (by unfold maxLen; omega) (by omega) h2.2.2.size ?_; intro v3 w3 hown3 hgrow3; have h3 := h2.grow hg hgrow3 hown3; clear h2 hown3 hgrow3)
        | (revert h1; intro h1; refine step_append_own rfl _ _ 29 rfl w.heap.size 9 ii _ 1 16 Tryz.underlying29 hi iz0 iz1 iz2 rfl (by decide) _ _ _ rfl (by first | exact h1.1 | exact (h1.alloc _).1) _ 1 1 [.string nm] rfl rfl (by first | exact one_new _ _ _ | exact one_old hN1) (oneV nm) (by unfold maxLen; omega) (by omega) (by first | exact h1.2.2.size | exact (h1.alloc _).2.2.size) ?_; intro v2 w2 hown2 hgrow2; first | have h2 := h1.grow hg hgrow2 hown2 | have h2 := (h1.alloc _).grow hg hgrow2 hown2; clear h1 hown2 hgrow2)
        | (refine step_append_own rfl _ _ 29 rfl w.heap.size 9 ii _ 1 16 Tryz.underlying29 hi iz0 iz1 iz2 rfl (by decide) _ 0 [] rfl (by first | exact Fa.1 | exact Fb.1 | exact Fc.1) ⟨g, 0, none⟩ k _ ((ss.take k).map Value.string) rfl (by simp; omega) (by first | exact news_of (Fa.2.1.take k) | exact news_of (Fb.2.1.take k) | exact news_of (Fc.2.1.take k)) (oneS _) (by unfold maxLen; omega) (by omega) (by first | exact Fa.2.2.size | exact Fb.2.2.size | exact Fc.2.2.size) ?_; intro v1 w1 hown1 hgrow1; first | (have h1 := Fa.grow hg hgrow1 hown1) | (have h1 := Fb.grow hg hgrow1 hown1; have hN1 := hgrow1.cell Nb nb1) | (have h1 := Fc.grow hg hgrow1 hown1; have hN1 := hgrow1.cell Nc nc1); clear hown1 hgrow1))
      all_goals
        have HT3 : Txt w3 v3 (insL ss nm) := by
          rw [Hq.out]
          exact Txt.own (n := 0 + k + 1 + (ss.length - k)) (by simpa using h3.1) (by simp; omega) (own_ptr2 h3.1 (by omega))
        have hO3 : OwnT w3 w.heap.size v3 (insL ss nm) := by
          unfold OwnT
          rw [Hq.out]
          have := h3.1
          have e1 : (ss.take k ++ nm :: ss.drop k).length = 0 + k + 1 + (ss.length - k) := by simp; omega
          rw [e1]
          simpa using this
        have hB3 := h3.2.2
        clear h3
        go_wp2_with fail
        go_ret
        exact ⟨⟨_, rfl, HT3, .inr hO3⟩, hB3⟩
    · have Hq : Hid (insL ss nm = ss.take k ++ nm :: ss.drop k) := insL_new ss nm k Hlow.out hk (fun s hs => by
        have := (List.getElem?_eq_some_iff.1 hs).1; omega)
      go_wp2_with fail
      obtain ⟨o2, ho2⟩ : ∃ o2 : Nat, (if c = k then some (⟨g, 0, none⟩ : Addr) else some ⟨g, k, none⟩) = some ⟨g, o2, none⟩ ∧ StrsAt w g o2 (ss.drop k) := by
        by_cases h7 : c = k
        · exact ⟨0, by rw [if_pos h7], fun i s hs => by
            have := (List.getElem?_eq_some_iff.1 hs).1; simp at this; omega⟩
        · exact ⟨k, by rw [if_neg h7], by have := hS.drop k; simpa using this⟩
      obtain ⟨ho2, -⟩ := ho2
      have Nb : ((w.alloc (.cells #[] 9)).alloc (.cells #[.string nm] 9)).drew.cell? ⟨w.heap.size + 1, 0, none⟩ = some (.string nm) := by simp [go_sem]
      have nb1 : some (w.heap.size + 1) ≠ (Value.slice (some ⟨w.heap.size, 0, none⟩) 0 0).ownBlock := by simp [Value.ownBlock]
      have Nc : ((w.alloc (.cells #[.string nm] 9)).alloc (.cells #[] 9)).drew.cell? ⟨w.heap.size, 0, none⟩ = some (.string nm) := by simp [go_sem]
      have nc1 : some w.heap.size ≠ (Value.slice (some ⟨w.heap.size + 1, 0, none⟩) 0 0).ownBlock := by simp [Value.ownBlock]
      have hkc : k ≤ c := by omega
      have Fa := (ow_lit hS (Below.refl w.heap.size w)).drew
      have Fb := ((ow_lit hS (Below.refl w.heap.size w)).alloc (.cells #[.string nm] 9)).drew
      have Fc := (ow_lit (hS.alloc (.cells #[.string nm] 9)) ((Below.refl w.heap.size w).alloc (Nat.le_refl _) (.cells #[.string nm] 9))).drew
      rw [show (w.alloc (.cells #[.string nm] 9)).heap.size = w.heap.size + 1 by simp] at Fc
      go_region_law (first
        | (revert h2; intro h2; refine step_append_own rfl _ _ 29 rfl w.heap.size 9 ii _ 1 16 Tryz.underlying29 hi iz0 iz1 iz2 rfl (by decide) _ _ _ rfl h2.1 ⟨g, o2, none⟩ (ss.length - k) _ ((ss.drop k).map Value.string) rfl (by simp) (news_of (strs_drop h2.2.1 ho2 hc)) (oneS _) (by unfold maxLen; omega) (by omega) h2.2.2.size ?_; intro v3 w3 hown3 hgrow3; have h3 := h2.grow hg hgrow3 hown3; clear h2 hown3 hgrow3)
        | (revert h1; intro h1; refine step_append_own rfl _ _ 29 rfl w.heap.size 9 ii _ 1 16 Tryz.underlying29 hi iz0 iz1 iz2 rfl (by decide) _ _ _ rfl (by first | exact h1.1 | exact (h1.alloc _).1) _ 1 1 [.string nm] rfl rfl (by first | exact one_new _ _ _ | exact one_old hN1) (oneV nm) (by unfold maxLen; omega) (by omega) (by first | exact h1.2.2.size | exact (h1.alloc _).2.2.size) ?_; intro v2 w2 hown2 hgrow2; first | have h2 := h1.grow hg hgrow2 hown2 | have h2 := (h1.alloc _).grow hg hgrow2 hown2; clear h1 hown2 hgrow2)
        | (refine step_append_own rfl _ _ 29 rfl w.heap.size 9 ii _ 1 16 Tryz.underlying29 hi iz0 iz1 iz2 rfl (by decide) _ 0 [] rfl (by first | exact Fa.1 | exact Fb.1 | exact Fc.1) ⟨g, 0, none⟩ k _ ((ss.take k).map Value.string) rfl (by simp; omega) (by first | exact news_of (Fa.2.1.take k) | exact news_of (Fb.2.1.take k) | exact news_of (Fc.2.1.take k)) (oneS _) (by unfold maxLen; omega) (by omega) (by first | exact Fa.2.2.size | exact Fb.2.2.size | exact Fc.2.2.size) ?_; intro v1 w1 hown1 hgrow1; first | (have h1 := Fa.grow hg hgrow1 hown1) | (have h1 := Fb.grow hg hgrow1 hown1; have hN1 := hgrow1.cell Nb nb1) | (have h1 := Fc.grow hg hgrow1 hown1; have hN1 := hgrow1.cell Nc nc1); clear hown1 hgrow1))
      all_goals
        have HT3 : Txt w3 v3 (insL ss nm) := by
          rw [Hq.out]
          exact Txt.own (n := 0 + k + 1 + (ss.length - k)) (by simpa using h3.1) (by simp; omega) (own_ptr2 h3.1 (by omega))
        have hO3 : OwnT w3 w.heap.size v3 (insL ss nm) := by
          unfold OwnT
          rw [Hq.out]
          have := h3.1
          have e1 : (ss.take k ++ nm :: ss.drop k).length = 0 + k + 1 + (ss.length - k) := by simp; omega
          rw [e1]
          simpa using this
        have hB3 := h3.2.2
        clear h3
        go_wp2_with fail
        go_ret
        exact ⟨⟨_, rfl, HT3, .inr hO3⟩, hB3⟩
end Go.Proofs.YtliebjbbomghiaaGreatDoor
