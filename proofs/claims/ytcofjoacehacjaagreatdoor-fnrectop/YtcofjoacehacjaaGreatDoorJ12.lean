/- Drawing: any recipe. -/
import Derived.Test.YtcofjoacehacjaaGreatDoorDu
import Derived.OwnWalk
import Derived.Test.YtcofjoacehacjaaGreatDoorJ4
namespace Go.Proofs.YtcofjoacehacjaaGreatDoor
open Go.RowKit

/-- A recipe that was drawn. -/
def Drawn (w : World) (B : Nat) (u : Value) (qs : List Ph) : Prop := ∃ g cap, u = .slice (some ⟨g, 0, none⟩) qs.length cap ∧ w.ownsRow B 37 8 u qs.length (rowP qs) ∧ qs.length ≤ 13 ∧ ∀ p ∈ qs, p.sz

set_option maxRecDepth 20000 in
set_option maxHeartbeats 2000000 in
theorem anyR_any (rb len N : Nat) (v : Value) (w : World) (hR : Rd w rb v len N) (hN : N ≤ 700000) :
    Calls Tryz.prog 17 #[.pointer (some ⟨rb, 0, none⟩)] w
      fun e w' => (∃ (u : Value) (qs : List Ph), e = .returned u ∧ Drawn w' w.heap.size u qs) ∧ Rd w' rb v len (N + 700) ∧ w.grownBy w' (some rb) := by
  have hlt := hR.lt
  go_enter Tryz.func17, Tryz.ntmps17
  go_wp2_with fail
  refine (recipe_any rb len N v w hR (by omega)).mono ?_
  rintro e w1 ⟨⟨u, ps, rfl, h1, h12, hpz, hown⟩, hR1, hG1⟩
  obtain ⟨g, cap, rfl⟩ := own_ptr2 hown (by omega)
  have hs1 := hG1.size
  clear hR
  go_wp2_with fail
  refine (pick_any rb len _ v 24 _ hR1 (by omega)).mono ?_
  rintro e w2 ⟨⟨x, rfl, hx0, hx1⟩, hR2, hg2⟩
  have hown2 := own_grown hown hg2 hlt
  have hG2 := grown_trans hG1 hg2
  have hs2 := hg2.size
  clear hown hG1 hR1 hg2 hx1
  by_cases hx : x = 0
  · subst hx
    go_wp2_with fail
    refine (spoilR_any rb len _ v ps g cap _ hR2 (by omega) (recAt_own hown2) h1 h12 hpz (hown2.lt g rfl).2).mono ?_
    rintro e w3 ⟨⟨u, qs, rfl, j1, j13, hqz, hown3⟩, hR3, hg3⟩
    obtain ⟨g3, cap3, rfl⟩ := own_ptr2 hown3 (by omega)
    have hG3 := grown_trans hG2 hg3
    clear hg3
    go_wp2_with fail
    go_ret
    exact ⟨⟨_, qs, rfl, g3, cap3, rfl, own_low hown3 (by omega), j13, hqz⟩, hR3.mono (by omega), hG3⟩
  · have hx1 : (x == 0) = false := by simpa using hx
    by_cases hy : x = 1
    · subst hy
      go_wp2_with fail
      go_ret
      exact ⟨⟨_, [], rfl, _, _, rfl, World.ownsRow_lit w2 #[] 0 (by omega) (by unfold maxLen; omega) rfl, by simp, by simp⟩, (hR2.alloc _).mono (by omega), grown_alloc hG2 _⟩
    · have hy1 : (x == 1) = false := by simpa using hy
      go_wp2_with fail
      go_ret
      exact ⟨⟨_, ps, rfl, g, cap, rfl, hown2, by omega, hpz⟩, hR2.mono (by omega), hG2⟩
theorem Drawn.kept {w w' : World} {B rb : Nat} {u : Value} {qs : List Ph} (h : Drawn w B u qs) (hg : w.grownBy w' (some rb)) (hrb : rb < B) : Drawn w' B u qs := by
  obtain ⟨g, cap, rfl, hown, r⟩ := h
  exact ⟨g, cap, rfl, own_grown hown hg hrb, r⟩
theorem Drawn.low {w : World} {B C : Nat} {u : Value} {qs : List Ph} (h : Drawn w B u qs) (hC : C ≤ B) : Drawn w C u qs := by
  obtain ⟨g, cap, rfl, hown, r⟩ := h
  exact ⟨g, cap, rfl, own_low hown hC, r⟩
end Go.Proofs.YtcofjoacehacjaaGreatDoor

/- When a recipe is ok: both sides' tests are one. -/
namespace Go.Proofs.YtcofjoacehacjaaGreatDoor
/-- The program's test of the phase at place i. -/
def stepI (ps : List Ph) (i : Nat) (p : Ph) : Bool := p.okB && !hasB (ps.drop (i + 1)) p.nm && goesB (ps.drop (i + 1)) p.t && goesB (ps.drop (i + 1)) p.e
/-- The specification's. -/
def stepS (ps : List Ph) (i : Nat) (p : Ph) : Bool := p.okB && atI ps p.nm == (i : Int) && !(endN p.t == 0 && decide (atI ps p.t ≤ (i : Int))) && !(endN p.e == 0 && decide (atI ps p.e ≤ (i : Int)))
def allI (ps : List Ph) (k : Nat) : Prop := ∀ (i : Nat) (p : Ph), i < k → ps[i]? = some p → stepI ps i p = true
def allS (ps : List Ph) (k : Nat) : Prop := ∀ (i : Nat) (p : Ph), i < k → ps[i]? = some p → stepS ps i p = true
/-- A recipe that is ok. -/
def recB (ps : List Ph) : Bool := decide (1 ≤ ps.length) && decide (ps.length ≤ 12) && (List.range ps.length).all fun i => (ps[i]?.map (stepI ps i)).getD true
theorem recB_iff (ps : List Ph) : recB ps = true ↔ 1 ≤ ps.length ∧ ps.length ≤ 12 ∧ allI ps ps.length := by
  simp only [recB, Bool.and_eq_true, decide_eq_true_eq, List.all_eq_true, List.mem_range, allI, and_assoc]
  refine and_congr_right fun _ => and_congr_right fun _ => ⟨fun h i p hi hp => ?_, fun h i hi => ?_⟩
  · have := h i hi; simpa [hp] using this
  · have hg : ps[i]? = some ps[i] := by simp [hi]
    rw [hg]; simpa using h i ps[i] hi hg
theorem hasB_drop (ps : List Ph) (nm : ByteArray) (i : Nat) : hasB (ps.drop i) nm = true ↔ ∃ (j : Nat) (q : Ph), i ≤ j ∧ ps[j]? = some q ∧ (q.nm.toList == nm.toList) = true := by
  rw [hasB_iff]
  constructor
  · rintro ⟨j, q, hq, he⟩
    exact ⟨i + j, q, by omega, by simpa [List.getElem?_drop] using hq, he⟩
  · rintro ⟨j, q, hj, hq, he⟩
    exact ⟨j - i, q, by rw [List.getElem?_drop, show i + (j - i) = j by omega]; exact hq, he⟩
theorem atI_cases (ps : List Ph) (nm : ByteArray) : (hasB ps nm = false ∧ atI ps nm = -1) ∨ ∃ (j : Nat) (q : Ph), ps[j]? = some q ∧ (q.nm.toList == nm.toList) = true ∧ atI ps nm = (j : Int) ∧ ∀ (l : Nat) (r : Ph), l < j → ps[l]? = some r → (r.nm.toList == nm.toList) = false := by
  cases h : ps.findIdx? fun p => p.nm.toList == nm.toList with
  | none =>
    left
    rw [List.findIdx?_eq_none_iff] at h
    exact ⟨by simpa [hasB] using h, by simp only [atI, List.findIdx?_eq_none_iff.2 h]⟩
  | some j =>
    right
    have h' := h
    rw [List.findIdx?_eq_some_iff_getElem] at h
    obtain ⟨hj, he, hl⟩ := h
    refine ⟨j, ps[j], by simp [hj], he, by simp only [atI, h'], fun l r hlj hr => ?_⟩
    obtain ⟨hl', rfl⟩ := List.getElem?_eq_some_iff.1 hr
    simpa using hl l hlj
theorem beq_trans' {a b c : List UInt8} (h1 : (a == b) = true) (h2 : (c == b) = true) : (a == c) = true := by
  rw [beq_iff_eq] at *; rw [h1, h2]
/-- The two tests over the whole recipe say one thing. -/
theorem allI_iff_allS (ps : List Ph) : allI ps ps.length ↔ allS ps ps.length := by
  have lt_of : ∀ {i : Nat} {p : Ph}, ps[i]? = some p → i < ps.length := fun h => (List.getElem?_eq_some_iff.1 h).1
  -- what follows where names are found once
  have key : ∀ (i : Nat) (nm : ByteArray), (∀ (l j : Nat) (r q : Ph), ps[l]? = some r → ps[j]? = some q → (r.nm.toList == q.nm.toList) = true → l = j) →
      (goesB (ps.drop (i + 1)) nm = true ↔ (!(endN nm == 0 && decide (atI ps nm ≤ (i : Int)))) = true) := by
    intro i nm hu
    unfold goesB
    by_cases h0 : endN nm = 0
    · simp only [h0, bne_self_eq_false, Bool.false_or, beq_self_eq_true, Bool.true_and, Bool.not_eq_true', decide_eq_false_iff_not]
      rw [hasB_drop]
      rcases atI_cases ps nm with ⟨hn, ha⟩ | ⟨j, q, hq, he, ha, _⟩
      · rw [ha]
        constructor
        · rintro ⟨l, r, _, hr, hre⟩
          have : hasB ps nm = true := (hasB_iff _ _).2 ⟨l, r, hr, hre⟩
          rw [hn] at this; cases this
        · intro h; omega
      · rw [ha]
        constructor
        · rintro ⟨l, r, hl, hr, hre⟩
          have := hu l j r q hr hq (beq_trans' hre he)
          omega
        · intro h
          exact ⟨j, q, by omega, hq, he⟩
    · have : (endN nm == 0) = false := by simpa using h0
      simp [this, bne]
  constructor
  · intro h i p hi hp
    have hu : ∀ (l j : Nat) (r q : Ph), ps[l]? = some r → ps[j]? = some q → (r.nm.toList == q.nm.toList) = true → l = j := by
      intro l j r q hr hq he
      rcases Nat.lt_trichotomy l j with hlj | rfl | hlj
      · have hs := h l r (lt_of hr) hr
        simp only [stepI, Bool.and_eq_true, Bool.not_eq_true'] at hs
        have : hasB (ps.drop (l + 1)) r.nm = true := (hasB_drop _ _ _).2 ⟨j, q, hlj, hq, by rw [Bool.beq_comm]; exact he⟩
        rw [hs.1.1.2] at this; cases this
      · rfl
      · have hs := h j q (lt_of hq) hq
        simp only [stepI, Bool.and_eq_true, Bool.not_eq_true'] at hs
        have : hasB (ps.drop (j + 1)) q.nm = true := (hasB_drop _ _ _).2 ⟨l, r, hlj, hr, he⟩
        rw [hs.1.1.2] at this; cases this
    have hs := h i p hi hp
    simp only [stepI, Bool.and_eq_true] at hs
    simp only [stepS, Bool.and_eq_true]
    refine ⟨⟨⟨hs.1.1.1, ?_⟩, (key i p.t hu).1 hs.1.2⟩, (key i p.e hu).1 hs.2⟩
    rcases atI_cases ps p.nm with ⟨hn, _⟩ | ⟨j, q, hq, he, ha, _⟩
    · have : hasB ps p.nm = true := (hasB_iff _ _).2 ⟨i, p, hp, by simp⟩
      rw [hn] at this; cases this
    · rw [ha, hu j i q p hq hp he]; simp
  · intro h i p hi hp
    have hu : ∀ (l j : Nat) (r q : Ph), ps[l]? = some r → ps[j]? = some q → (r.nm.toList == q.nm.toList) = true → l = j := by
      intro l j r q hr hq he
      have h1 := h l r (lt_of hr) hr
      have h2 := h j q (lt_of hq) hq
      simp only [stepS, Bool.and_eq_true, beq_iff_eq] at h1 h2
      have : atI ps r.nm = atI ps q.nm := by
        have e : r.nm.toList = q.nm.toList := by simpa using he
        simp only [atI, e]
      have := h1.1.1.2.symm.trans (this.trans h2.1.1.2)
      omega
    have hs := h i p hi hp
    simp only [stepS, Bool.and_eq_true] at hs
    simp only [stepI, Bool.and_eq_true]
    refine ⟨⟨⟨hs.1.1.1, ?_⟩, (key i p.t hu).2 hs.1.2⟩, (key i p.e hu).2 hs.2⟩
    rw [Bool.not_eq_true', ← Bool.not_eq_true]
    intro hc
    obtain ⟨j, q, hj, hq, he⟩ := (hasB_drop _ _ _).1 hc
    have := hu j i q p hq hp he
    omega
theorem recB_iffS (ps : List Ph) : recB ps = true ↔ 1 ≤ ps.length ∧ ps.length ≤ 12 ∧ allS ps ps.length := by rw [recB_iff, allI_iff_allS]
theorem nand_of {x : Bool} {Q : Prop} [Decidable Q] (h : ¬ (x = true ∧ Q)) : (!(x && decide Q)) = true := by cases x <;> simp_all
theorem recB_noS (ps : List Ph) (k : Nat) (hk : k < ps.length) (h : stepS ps k ps[k] = false) : recB ps = false := by
  rw [← Bool.not_eq_true, recB_iffS]
  rintro ⟨_, _, ha⟩
  have := ha k ps[k] hk (by simp [hk])
  rw [h] at this; cases this
theorem recB_noI (ps : List Ph) (k : Nat) (hk : k < ps.length) (h : stepI ps k ps[k] = false) : recB ps = false := by
  rw [← Bool.not_eq_true, recB_iff]
  rintro ⟨_, _, ha⟩
  have := ha k ps[k] hk (by simp [hk])
  rw [h] at this; cases this
theorem recB_len (ps : List Ph) (h : ¬ (1 ≤ ps.length ∧ ps.length ≤ 12)) : recB ps = false := by
  rw [← Bool.not_eq_true, recB_iff]
  rintro ⟨h1, h2, _⟩; exact h ⟨h1, h2⟩
theorem allS_succ {ps : List Ph} {k : Nat} (h : allS ps k) (hk : k < ps.length) (hs : stepS ps k ps[k] = true) : allS ps (k + 1) := fun i p hi hp => by
  rcases Nat.lt_or_ge i k with h' | h'
  · exact h i p h' hp
  · obtain rfl : i = k := by omega
    obtain ⟨_, rfl⟩ := List.getElem?_eq_some_iff.1 hp
    exact hs
theorem allI_succ {ps : List Ph} {k : Nat} (h : allI ps k) (hk : k < ps.length) (hs : stepI ps k ps[k] = true) : allI ps (k + 1) := fun i p hi hp => by
  rcases Nat.lt_or_ge i k with h' | h'
  · exact h i p h' hp
  · obtain rfl : i = k := by omega
    obtain ⟨_, rfl⟩ := List.getElem?_eq_some_iff.1 hp
    exact hs
theorem allS_zero (ps : List Ph) : allS ps 0 := fun _ _ h => by omega
theorem allI_zero (ps : List Ph) : allI ps 0 := fun _ _ h => by omega
theorem recB_yesS (ps : List Ph) (k : Nat) (h1 : 1 ≤ ps.length ∧ ps.length ≤ 12) (hk : k ≤ ps.length) (hk' : ¬ k < ps.length) (ha : allS ps k) : recB ps = true := by
  obtain rfl : k = ps.length := by omega
  exact (recB_iffS ps).2 ⟨h1.1, h1.2, ha⟩
theorem recB_yesI (ps : List Ph) (k : Nat) (h1 : 1 ≤ ps.length ∧ ps.length ≤ 12) (hk : k ≤ ps.length) (hk' : ¬ k < ps.length) (ha : allI ps k) : recB ps = true := by
  obtain rfl : k = ps.length := by omega
  exact (recB_iff ps).2 ⟨h1.1, h1.2, ha⟩
end Go.Proofs.YtcofjoacehacjaaGreatDoor
