/- Runs in plain: promises 1 to 3: in time; an end that was told of; what may still be used. -/
import Derived.Test.YtmccabenfdigdaaGreatDoorE1
import Derived.Test.YtmccabenfdigdaaGreatDoorWcBool
import Derived.Test.YtmccabenfdigdaaGreatDoorD1
import Derived.Test.YtmccabenfdigdaaGreatDoorWbInt
namespace Go.Proofs.YtmccabenfdigdaaGreatDoor

/-- A step costs no more than it takes off what is left. -/
theorem step_less {ps : List Ph} (hok : recB ps = true) (y : Sy) {k : Nat} (hk : k < ps.length) {nm : ByteArray} (ha : atI ps nm = (k : Int)) :
    0 ≤ ticksT ps[k] y ∧ ticksT ps[k] y + evL feI fpI 0 ps (nextT ps[k] y) ≤ evL feI fpI 0 ps nm := by
  have hw := wi_of_recB hok ps[k] (by simp)
  have hT := ticks_bd ps[k] y hw.1
  refine ⟨hT.1, ?_⟩
  rw [evL_step hok feI fpI 0 nm hk ha, fpI]
  unfold nextT
  split <;> omega
theorem stN_left {ps : List Ph} (hok : recB ps = true) (ys : List Sy) {i : Nat} (hw : Went ps ys i) : (stN ps ys i).left = evL feI fpI 0 ps (stN ps ys i).nm := (went_inv hok ys i hw).2.2.2.2
theorem run_less {ps : List Ph} (hok : recB ps = true) (ys : List Sy) {i : Nat} (hw : Went ps ys (i + 1)) :
    (stN ps ys i).now ≤ (stN ps ys (i + 1)).now ∧ (stN ps ys (i + 1)).now + (stN ps ys (i + 1)).left ≤ (stN ps ys i).now + (stN ps ys i).left := by
  have hi := hw i (by omega)
  obtain ⟨k, hk, ha⟩ := at_nat hi
  have hs := step_less hok (ys[i]?.getD Sy.late) hk ha
  have hl := stN_left hok ys (i := i) (fun j hj => hw j (by omega))
  rw [stN, goV_at _ hk ha]
  simp only [stAt]
  omega
theorem run_bound {ps : List Ph} (hok : recB ps = true) (ys : List Sy) : ∀ (i : Nat), Went ps ys i → (stN ps ys i).now + (stN ps ys i).left ≤ evL feI fpI 0 ps (beginS ps).nm := by
  intro i
  induction i with
  | zero =>
    intro hw
    rw [stN_left hok ys hw, stN]
    have hl : 0 < ps.length := ((recB_iff ps).1 hok).1
    have : (beginS ps).now = 0 := by rw [begin_yes hok hl]; rfl
    omega
  | succ i ih =>
    intro hw
    have := (run_less hok ys hw).2
    have := ih fun j hj => hw j (by omega)
    omega
theorem end_left {ps : List Ph} (hok : recB ps = true) {nm : ByteArray} (h : endN nm ≠ 0) : evL feI fpI 0 ps nm = 0 := by
  rw [evL_out ps feI fpI 0 nm (at_end hok h)]
  simp [feI]
/-- The end that it comes to could be told of all along. -/
theorem run_can {ps : List Ph} (hok : recB ps = true) (ys : List Sy) {n : Nat} (hw : Went ps ys n) (hend : endN (stN ps ys n).nm ≠ 0) : ∀ (d : Nat), d ≤ n → evL (feB (endN (stN ps ys n).nm)) fpB false ps (stN ps ys (n - d)).nm = true := by
  intro d
  induction d with
  | zero =>
    intro _
    rw [Nat.sub_zero, evL_out ps _ _ _ _ (at_end hok hend), if_neg hend]
    simp [feB]
  | succ d ih =>
    intro hd
    have h1 := ih (by omega)
    have hi := hw (n - (d + 1)) (by omega)
    obtain ⟨k, hk, ha⟩ := at_nat hi
    rw [evL_step hok _ _ _ _ hk ha, fpB]
    rw [show n - d = n - (d + 1) + 1 by omega, stN, goV_at _ hk ha] at h1
    simp only [stAt, nextT] at h1
    split at h1
    · rw [h1]; rfl
    · rw [h1, Bool.or_true]
theorem endN_three (nm : ByteArray) (h : endN nm ≠ 0) : 1 ≤ endN nm ∧ endN nm ≤ 3 := by
  unfold endN at *
  repeat' split
  all_goals first | omega | skip
  all_goals simp_all
end Go.Proofs.YtmccabenfdigdaaGreatDoor

/- Runs in plain: what may still be used becomes less. -/
namespace Go.Proofs.YtmccabenfdigdaaGreatDoor

theorem slots_step {ps : List Ph} (hok : recB ps = true) (y : Sy) {k : Nat} (hk : k < ps.length) {nm : ByteArray} (ha : atI ps nm = (k : Int)) :
    allB2 (slotsV ps (nextT ps[k] y)) (slotsV ps nm) = true := by
  rw [allB2_iff]
  intro x hx
  rw [slotsV, if_pos hok, slots_keys] at hx ⊢
  rw [slI, evL_step hok feK fpK [] nm hk ha, fpK, (uniq_keys _).2]
  simp only [List.mem_append]
  unfold nextT at hx
  split at hx
  · exact .inl (.inr hx)
  · exact .inr hx
theorem run_slots {ps : List Ph} (hok : recB ps = true) (ys : List Sy) {i : Nat} (hw : Went ps ys (i + 1)) :
    allB2 (slotsV ps (stN ps ys (i + 1)).nm) (slotsV ps (stN ps ys i).nm) = true := by
  have hi := hw i (by omega)
  obtain ⟨k, hk, ha⟩ := at_nat hi
  rw [stN, goV_at _ hk ha]
  exact slots_step hok _ hk ha
theorem slotsV_len (ps : List Ph) (nm : ByteArray) (h : ps.length ≤ 13) : (slotsV ps nm).length ≤ 1000 := by
  unfold slotsV
  split
  · have := slE_len ps nm; omega
  · simp
/-- All that the law asks of the end. -/
theorem run_end {ps : List Ph} (hok : recB ps = true) (ys : List Sy) {n : Nat} (hw : Went ps ys n) (he : atI ps (stN ps ys n).nm < 0) :
    endN (stN ps ys n).nm ≠ 0 ∧ canV ps (beginS ps).nm (endN (stN ps ys n).nm) = true ∧ (stN ps ys n).now ≤ boundV ps (beginS ps).nm ∧ (stN ps ys n).left = 0 ∧ 0 < n ∧ 0 < ps.length ∧ n ≤ 12 := by
  have h0 : endN (stN ps ys n).nm ≠ 0 := fun h => by
    have := (went_end hok ys hw).2 h; omega
  have hl := (recB_iff ps).1 hok
  have hleft : (stN ps ys n).left = 0 := by rw [stN_left hok ys hw, end_left hok h0]
  have hb := run_bound hok ys n hw
  have hc := run_can hok ys hw h0 n (Nat.le_refl _)
  rw [Nat.sub_self] at hc
  have h3 := endN_three _ h0
  have hle := went_le hok ys hw
  refine ⟨h0, ?_, ?_, hleft, ?_, hl.1, by omega⟩
  · rw [show (stN ps ys 0) = beginS ps from rfl] at hc
    simp only [canV, hok, hc, (inB_iff _ _ _).2 h3, Bool.and_self]
  · rw [boundV, if_pos hok]; omega
  · rcases Nat.eq_zero_or_pos n with h | h
    · subst h
      have hz : Went ps ys 0 := went_zero ps ys
      have := (went_inv hok ys 0 hz).1
      rcases this with h1 | h1
      · exfalso
        have hlen := hl.1
        rw [stN, begin_yes hok hl.1] at he
        have hh : hasB ps (ps[0]).nm = true := hasB_yes ps _ 0 hl.1 (by simp)
        rcases atI_cases ps (ps[0]).nm with ⟨hn, _⟩ | ⟨j, q, hq, he', ha, _⟩
        · rw [hn] at hh; cases hh
        · simp only [stAt] at he; omega
      · omega
    · exact h
theorem st_bd {ps : List Ph} (hok : recB ps = true) (ys : List Sy) {i : Nat} (hw : Went ps ys i) : 0 ≤ (stN ps ys i).now ∧ (stN ps ys i).now ≤ 13000 ∧ 0 ≤ (stN ps ys i).left ∧ (stN ps ys i).left ≤ 13000 := by
  obtain ⟨_, _, h3, h4, h5⟩ := went_inv hok ys i hw
  have hle := went_le hok ys hw
  have h12 := ((recB_iff ps).1 hok).2.1
  have hb := evI_bd ps (wi_of_recB hok) (stN ps ys i).nm
  rw [h5]
  omega
/-- One round of the law's walk along the path. -/
theorem run_round {ps : List Ph} (hok : recB ps = true) (ys : List Sy) {m k : Nat} (hw : Went ps ys m) (hk : k < m) :
    goOk ps (stN ps ys k) = true ∧ goS ps (stN ps ys k) (ys[k]?.getD Sy.late) = stN ps ys (k + 1) ∧ (stN ps ys k).now ≤ (stN ps ys (k + 1)).now ∧ (stN ps ys (k + 1)).now + (stN ps ys (k + 1)).left ≤ (stN ps ys k).now + (stN ps ys k).left ∧
      allB2 (slotsV ps (stN ps ys (k + 1)).nm) (slotsV ps (stN ps ys k).nm) = true ∧ (0 ≤ (stN ps ys k).now ∧ (stN ps ys k).now ≤ 13000 ∧ 0 ≤ (stN ps ys k).left ∧ (stN ps ys k).left ≤ 13000) ∧ (0 ≤ (stN ps ys (k + 1)).now ∧ (stN ps ys (k + 1)).now ≤ 13000 ∧ 0 ≤ (stN ps ys (k + 1)).left ∧ (stN ps ys (k + 1)).left ≤ 13000) := by
  have h1 : Went ps ys (k + 1) := fun j hj => hw j (by omega)
  have h0 : Went ps ys k := fun j hj => hw j (by omega)
  have hi := hw k hk
  have hl := run_less hok ys h1
  exact ⟨(went_go hok ys h0 hi).1, went_step hok ys h0 hi, hl.1, hl.2, run_slots hok ys h1, st_bd hok ys h0, st_bd hok ys h1⟩
end Go.Proofs.YtmccabenfdigdaaGreatDoor
