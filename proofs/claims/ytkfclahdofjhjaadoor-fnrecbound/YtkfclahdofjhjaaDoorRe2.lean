/- A slot is told just if some phase that may come uses it. -/
import Derived.Test.YtkfclahdofjhjaaDoorRe
import Derived.Test.YtkfclahdofjhjaaDoorSr3
namespace Go.Proofs.YtkfclahdofjhjaaDoor
open Go.RowKit

theorem uniq_names {ps : List Ph} (hok : recB ps = true) {l j : Nat} {r q : Ph} (hr : ps[l]? = some r) (hq : ps[j]? = some q) (he : (r.nm.toList == q.nm.toList) = true) : l = j := by
  obtain ⟨_, _, h⟩ := (recB_iff ps).1 hok
  have lt_of : ∀ {i : Nat} {p : Ph}, ps[i]? = some p → i < ps.length := fun h => (List.getElem?_eq_some_iff.1 h).1
  rcases Nat.lt_trichotomy l j with hlj | rfl | hlj
  · have hs := h l r (lt_of hr) hr
    simp only [stepI, Bool.and_eq_true, Bool.not_eq_true'] at hs
    have : hasB (ps.drop (l + 1)) r.nm = true := (hasB_drop _ _ _).2 ⟨j, q, hlj, hq, by rw [Bool.beq_comm]; exact he⟩
    rw [hs.1.1.2] at this; cases this
  · rfl
  · have hs := h j q (lt_of hq) hq
    simp only [stepI, Bool.and_eq_true, Bool.not_eq_true'] at hs
    have : hasB (ps.drop (j + 1)) q.nm = true := (hasB_drop _ _ _).2 ⟨l, r, hlj, hr, he⟩
    rw [hs.1.1.2] at this; cases this
theorem slots_reach {ps : List Ph} (hok : recB ps = true) : ∀ (f : Nat) (nm : ByteArray), (atI ps nm < 0 ∨ (ps.length : Int) < atI ps nm + f) → ∀ x : Key, x ∈ slI ps nm ↔ ∃ p ∈ ps, reachV ps p.nm nm = true ∧ x ∈ ownK p := by
  have hout : ∀ nm, atI ps nm < 0 → ∀ x : Key, x ∈ slI ps nm ↔ ∃ p ∈ ps, reachV ps p.nm nm = true ∧ x ∈ ownK p := by
    intro nm h0 x
    have h1 : slI ps nm = [] := by unfold slI; rw [evL_out ps _ _ _ nm h0]; split <;> rfl
    rw [h1]
    constructor
    · intro h; simp at h
    · rintro ⟨p, hp, hr, _⟩
      exfalso
      have hne : (nm.toList == p.nm.toList) = false := by
        rw [← Bool.not_eq_true]; intro he
        rcases atI_cases ps nm with ⟨hn, _⟩ | ⟨j, q, _, _, ha, _⟩
        · have : hasB ps nm = true := by
            obtain ⟨i, hi, rfl⟩ := List.getElem_of_mem hp
            exact (hasB_iff _ _).2 ⟨i, ps[i], by simp [hi], by rw [Bool.beq_comm]; exact he⟩
          rw [hn] at this; cases this
        · omega
      rw [reach_none hne h0] at hr; cases hr
  intro f
  induction f with
  | zero =>
    intro nm hf
    have hlt := atI_lt ps nm
    exact hout nm (by omega)
  | succ f ih =>
    intro nm hf x
    have hlt := atI_lt ps nm
    by_cases h0 : atI ps nm < 0
    · exact hout nm h0 x
    · obtain ⟨k, hka⟩ : ∃ k : Nat, atI ps nm = (k : Int) := ⟨(atI ps nm).toNat, by omega⟩
      have hk : k < ps.length := by omega
      obtain ⟨g1, g2⟩ := goes_of hok hk
      have i1 := ih (ps[k]).t (by have := atI_later hok hk _ g1; omega) x
      have i2 := ih (ps[k]).e (by have := atI_later hok hk _ g2; omega) x
      have hs : slI ps nm = fpK ps[k] (slI ps (ps[k]).t) (slI ps (ps[k]).e) := evL_step hok _ _ _ nm hk hka
      have hr : ∀ p : Ph, reachV ps p.nm nm = (((ps[k]).nm.toList == p.nm.toList) || reachV ps p.nm (ps[k]).t || reachV ps p.nm (ps[k]).e) := fun p => evL_step hok _ _ _ nm hk hka
      rw [hs, fpK, (uniq_keys _).2, List.mem_append, List.mem_append, i1, i2]
      constructor
      · rintro ((h | ⟨p, hp, hq, hx⟩) | ⟨p, hp, hq, hx⟩)
        · exact ⟨ps[k], by simp, by rw [hr]; simp, h⟩
        · exact ⟨p, hp, by rw [hr, hq]; simp, hx⟩
        · exact ⟨p, hp, by rw [hr, hq]; simp, hx⟩
      · rintro ⟨p, hp, hq, hx⟩
        rw [hr, Bool.or_eq_true, Bool.or_eq_true] at hq
        rcases hq with (he | hq) | hq
        · left; left
          obtain ⟨i, hi, rfl⟩ := List.getElem_of_mem hp
          have := uniq_names hok (l := k) (j := i) (by simp [hk]) (by simp [hi]) he
          subst this; exact hx
        · exact .inl (.inr ⟨p, hp, hq, hx⟩)
        · exact .inr ⟨p, hp, hq, hx⟩
/-- What runs from a name use of the first k phases. -/
def usedL (ps : List Ph) (nm : ByteArray) (k : Nat) : List ByteArray := (ps.take k).flatMap fun p => if reachV ps p.nm nm = true then ownB p else []
theorem usedL_succ (ps : List Ph) (nm : ByteArray) (k : Nat) (hk : k < ps.length) : usedL ps nm (k + 1) = usedL ps nm k ++ (if reachV ps (ps[k]).nm nm = true then ownB ps[k] else []) := by
  unfold usedL
  rw [List.take_succ_eq_append_getElem hk, List.flatMap_append]
  simp
theorem usedL_len (ps : List Ph) (nm : ByteArray) (k : Nat) : (usedL ps nm k).length ≤ 2 * k := by
  have h : ∀ l : List Ph, (l.flatMap fun p => if reachV ps p.nm nm = true then ownB p else []).length ≤ 2 * l.length := by
    intro l
    induction l with
    | nil => simp
    | cons p r ih =>
      rw [List.flatMap_cons, List.length_append, List.length_cons]
      have : (if reachV ps p.nm nm = true then ownB p else []).length ≤ 2 := by
        split
        · unfold ownB; split <;> simp
        · simp
      omega
  have := h (ps.take k)
  rw [List.length_take] at this
  unfold usedL
  omega
def allB2 (a b : List ByteArray) : Bool := a.all fun x => b.any fun y => y.toList == x.toList
theorem allB2_iff (a b : List ByteArray) : allB2 a b = true ↔ ∀ x ∈ keys a, x ∈ keys b := by
  simp only [allB2, List.all_eq_true, List.any_eq_true, keys, List.mem_map, beq_iff_eq]
  constructor
  · rintro h x ⟨s, hs, rfl⟩
    obtain ⟨y, hy, e⟩ := h s hs
    exact ⟨y, hy, e⟩
  · intro h s hs
    obtain ⟨y, hy, e⟩ := h s.toList ⟨s, hs, rfl⟩
    exact ⟨y, hy, e⟩
theorem used_same {ps : List Ph} (hok : recB ps = true) (nm : ByteArray) : allB2 (usedL ps nm ps.length) (slotsV ps nm) = true ∧ allB2 (slotsV ps nm) (usedL ps nm ps.length) = true := by
  have h12 : ps.length ≤ 12 := ((recB_iff ps).1 hok).2.1
  have hsl : keys (slotsV ps nm) = slI ps nm := by unfold slotsV; rw [if_pos hok, slots_keys]
  have hm : ∀ x, x ∈ keys (usedL ps nm ps.length) ↔ ∃ p ∈ ps, reachV ps p.nm nm = true ∧ x ∈ ownK p := by
    intro x
    unfold usedL
    rw [List.take_length]
    simp only [keys, List.mem_map, List.mem_flatMap]
    constructor
    · rintro ⟨s, ⟨p, hp, hs⟩, rfl⟩
      split at hs
      · rename_i hr
        exact ⟨p, hp, hr, by rw [← own_keys]; exact List.mem_map.2 ⟨s, hs, rfl⟩⟩
      · simp at hs
    · rintro ⟨p, hp, hr, hx⟩
      rw [← own_keys] at hx
      obtain ⟨s, hs, rfl⟩ := List.mem_map.1 hx
      exact ⟨s, ⟨p, hp, by rw [if_pos hr]; exact hs⟩, rfl⟩
  have hb := slots_reach hok 20 nm (by have := atI_lt ps nm; omega)
  rw [allB2_iff, allB2_iff, hsl]
  exact ⟨fun x hx => (hb x).2 ((hm x).1 hx), fun x hx => (hm x).2 ((hb x).1 hx)⟩
end Go.Proofs.YtkfclahdofjhjaaDoor
