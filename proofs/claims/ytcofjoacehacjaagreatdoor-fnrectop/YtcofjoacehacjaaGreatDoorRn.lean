/- Runs in plain: where a run is, how a phase goes, how a run comes to its end. -/
import Derived.Test.YtcofjoacehacjaaGreatDoorWfInt
namespace Go.Proofs.YtcofjoacehacjaaGreatDoor

structure St where
  nm : ByteArray
  now : Int
  left : Int
structure Sy where
  t : Int
  well : Bool
def St.cells (s : St) : List Value := [.string s.nm, .int .i64 s.now, .int .i64 s.left]
def St.none : St := ⟨⟨#[]⟩, 0, 0⟩
def Sy.late : Sy := ⟨1001, false⟩
/-- A run of a recipe that is ok, at a phase or an end. -/
def stAt (ps : List Ph) (nm : ByteArray) (now : Int) : St := ⟨nm, now, evL feI fpI 0 ps nm⟩
def beginS (ps : List Ph) : St := if recB ps = true then (match ps with | [] => St.none | p :: _ => stAt ps p.nm 0) else St.none
/-- How a phase goes: its ticks, and whether well. -/
def heldT (p : Ph) (y : Sy) : Int := if p.k = 3 ∧ y.well = true then max (max y.t 0) p.n else max y.t 0
def ticksT (p : Ph) (y : Sy) : Int := if p.wi < heldT p y then p.wi else heldT p y
def wellT (p : Ph) (y : Sy) : Bool := if p.wi < heldT p y then false else y.well
def nextT (p : Ph) (y : Sy) : ByteArray := if wellT p y = true then p.t else p.e
/-- May it go on? -/
def goOk (ps : List Ph) (s : St) : Bool := recB ps && inB s.now 0 12000 && decide (0 ≤ atI ps s.nm)
def goV (ps : List Ph) (s : St) (y : Sy) : St := match ps[(atI ps s.nm).toNat]? with
  | some p => stAt ps (nextT p y) (s.now + ticksT p y)
  | Option.none => s
def goS (ps : List Ph) (s : St) (y : Sy) : St := if goOk ps s = true then goV ps s y else s

theorem begin_no {ps : List Ph} (h : recB ps = false) : beginS ps = St.none := by simp [beginS, h]
theorem begin_yes {ps : List Ph} (h : recB ps = true) (h0 : 0 < ps.length) : beginS ps = stAt ps (ps[0]).nm 0 := by
  cases ps with
  | nil => simp at h0
  | cons p l => simp [beginS, h]
theorem ticks_bd (p : Ph) (y : Sy) (h : 1 ≤ p.wi) : 0 ≤ ticksT p y ∧ ticksT p y ≤ p.wi := by
  unfold ticksT heldT
  split <;> split <;> omega
/-- The specification reckons it in another order. -/
def heldS (p : Ph) (y : Sy) : Int := if p.k = 3 ∧ y.well = true ∧ y.t < p.n then p.n else y.t
theorem held_same (p : Ph) (y : Sy) (hn : p.k = 3 → 1 ≤ p.n) (hw : 1 ≤ p.wi) : (p.wi < heldS p y ↔ p.wi < heldT p y) ∧ (¬ p.wi < heldS p y → max (heldS p y) 0 = heldT p y) := by
  unfold heldS heldT
  by_cases h1 : p.k = 3
  · have := hn h1
    cases y.well
    · simp; omega
    · simp only [h1, true_and, and_self, if_true]
      split <;> omega
  · rw [if_neg (by rintro ⟨h, _⟩; exact h1 h), if_neg (by rintro ⟨h, _⟩; exact h1 h)]
    omega
theorem hold_n {ps : List Ph} (h : recB ps = true) : ∀ p ∈ ps, p.k = 3 → 1 ≤ p.n := by
  obtain ⟨_, _, ha⟩ := (recB_iff ps).1 h
  intro p hp hk
  obtain ⟨i, hi, rfl⟩ := List.getElem_of_mem hp
  have hs := ha i ps[i] hi (by simp [hi])
  simp only [stepI, Bool.and_eq_true, Ph.okB, phaseB, argsB, hk, inB, decide_eq_true_eq] at hs
  have := hs.1.1.1.1.1.2
  simp only [show (3 : Int) ≠ 1 by omega, show (3 : Int) ≠ 2 by omega, if_false, if_true, Bool.and_eq_true, decide_eq_true_eq] at this
  exact this.2.1
theorem at_nat {ps : List Ph} {nm : ByteArray} (h : 0 ≤ atI ps nm) : ∃ k : Nat, k < ps.length ∧ atI ps nm = (k : Int) := by
  have := atI_lt ps nm
  exact ⟨(atI ps nm).toNat, by omega, by omega⟩
theorem goV_at {ps : List Ph} {s : St} (y : Sy) {k : Nat} (hk : k < ps.length) (ha : atI ps s.nm = (k : Int)) : goV ps s y = stAt ps (nextT ps[k] y) (s.now + ticksT ps[k] y) := by
  have : ps[(atI ps s.nm).toNat]? = some ps[k] := by rw [ha]; simp [hk]
  simp only [goV, this]
theorem next_goes {ps : List Ph} (hok : recB ps = true) (y : Sy) {k : Nat} (hk : k < ps.length) : goesB (ps.drop (k + 1)) (nextT ps[k] y) = true := by
  obtain ⟨g1, g2⟩ := goes_of hok hk
  unfold nextT
  split
  · exact g1
  · exact g2
theorem goes_or {ps : List Ph} {nm : ByteArray} {k : Nat} (h : goesB (ps.drop k) nm = true) : endN nm ≠ 0 ∨ 0 ≤ atI ps nm := by
  simp only [goesB, Bool.or_eq_true, bne_iff_ne] at h
  rcases h with h | h
  · exact .inl h
  · obtain ⟨j, q, _, hq, he⟩ := (hasB_drop _ _ _).1 h
    rcases atI_cases ps nm with ⟨hn, _⟩ | ⟨j', q', hq', he', ha, _⟩
    · have : hasB ps nm = true := (hasB_iff _ _).2 ⟨j, q, hq, he⟩
      rw [hn] at this; cases this
    · exact .inr (by omega)
/-- An end is no phase. -/
theorem at_end {ps : List Ph} (hok : recB ps = true) {nm : ByteArray} (h : endN nm ≠ 0) : atI ps nm < 0 := by
  rcases atI_cases ps nm with ⟨_, ha⟩ | ⟨j, q, hq, he, _, _⟩
  · omega
  · exfalso
    obtain ⟨_, _, ha⟩ := (recB_iff ps).1 hok
    have hs := ha j q (List.getElem?_eq_some_iff.1 hq).1 hq
    simp only [stepI, Bool.and_eq_true, Ph.okB, phaseB] at hs
    have h0 : endN q.nm = 0 := by simpa using hs.1.1.1.1.1.1.1.2
    exact h ((endN_congr he).symm.trans h0)

/-- Where a run is behind i phases. -/
def stN (ps : List Ph) (ys : List Sy) : Nat → St
  | 0 => beginS ps
  | i + 1 => goV ps (stN ps ys i) (ys[i]?.getD Sy.late)
def pathN (ps : List Ph) (ys : List Sy) (n : Nat) : List ByteArray := (List.range n).map fun i => (stN ps ys i).nm
theorem pathN_succ (ps : List Ph) (ys : List Sy) (n : Nat) : pathN ps ys (n + 1) = pathN ps ys n ++ [(stN ps ys n).nm] := by
  simp [pathN, List.range_succ]
theorem pathN_length (ps : List Ph) (ys : List Sy) (n : Nat) : (pathN ps ys n).length = n := by simp [pathN]
/-- It has gone on i times, and was at a phase each time. -/
def Went (ps : List Ph) (ys : List Sy) (i : Nat) : Prop := ∀ j, j < i → 0 ≤ atI ps (stN ps ys j).nm
theorem went_zero (ps : List Ph) (ys : List Sy) : Went ps ys 0 := fun j hj => by omega
theorem went_succ {ps : List Ph} {ys : List Sy} {i : Nat} (h : Went ps ys i) (hi : 0 ≤ atI ps (stN ps ys i).nm) : Went ps ys (i + 1) := fun j hj => by
  rcases Nat.lt_or_ge j i with h' | h'
  · exact h j h'
  · obtain rfl : j = i := by omega
    exact hi
theorem went_inv {ps : List Ph} (hok : recB ps = true) (ys : List Sy) : ∀ (i : Nat), Went ps ys i →
    (endN (stN ps ys i).nm ≠ 0 ∨ 0 ≤ atI ps (stN ps ys i).nm) ∧ (0 ≤ atI ps (stN ps ys i).nm → (i : Int) ≤ atI ps (stN ps ys i).nm) ∧ 0 ≤ (stN ps ys i).now ∧ (stN ps ys i).now ≤ 1000 * i ∧ (stN ps ys i).left = evL feI fpI 0 ps (stN ps ys i).nm := by
  intro i
  have hl : 0 < ps.length := ((recB_iff ps).1 hok).1
  induction i with
  | zero =>
    intro _
    rw [stN, begin_yes hok hl]
    have hh : hasB ps (ps[0]).nm = true := hasB_yes ps _ 0 hl (by simp)
    refine ⟨.inr ?_, fun h => by simpa using h, by simp [stAt], by simp [stAt], by simp [stAt]⟩
    show 0 ≤ atI ps (ps[0]).nm
    rcases atI_cases ps (ps[0]).nm with ⟨hn, _⟩ | ⟨j, q, hq, he, ha, _⟩
    · rw [hn] at hh; cases hh
    · omega
  | succ i ih =>
    intro hw
    obtain ⟨_, h2, h3, h4, _⟩ := ih fun j hj => hw j (by omega)
    have hi := hw i (by omega)
    obtain ⟨k, hk, ha⟩ := at_nat hi
    have hd := wi_of_recB hok ps[k] (by simp)
    have hT := ticks_bd ps[k] (ys[i]?.getD Sy.late) hd.1
    have hg := next_goes hok (ys[i]?.getD Sy.late) hk
    have hlat := atI_later hok hk _ hg
    rw [stN, goV_at _ hk ha]
    simp only [stAt]
    refine ⟨goes_or hg, fun h => ?_, by omega, by omega, trivial⟩
    have := h2 hi
    omega
/-- It may go on. -/
theorem went_go {ps : List Ph} (hok : recB ps = true) (ys : List Sy) {i : Nat} (hw : Went ps ys i) (hi : 0 ≤ atI ps (stN ps ys i).nm) : goOk ps (stN ps ys i) = true ∧ i < ps.length := by
  obtain ⟨_, h2, h3, h4, _⟩ := went_inv hok ys i hw
  have h12 := ((recB_iff ps).1 hok).2.1
  have := atI_lt ps (stN ps ys i).nm
  have := h2 hi
  refine ⟨?_, by omega⟩
  simp only [goOk, hok, Bool.true_and, Bool.and_eq_true, inB_iff, decide_eq_true_eq]
  omega
theorem went_end {ps : List Ph} (hok : recB ps = true) (ys : List Sy) {i : Nat} (hw : Went ps ys i) : (0 ≤ atI ps (stN ps ys i).nm ↔ endN (stN ps ys i).nm = 0) := by
  obtain ⟨h1, _⟩ := went_inv hok ys i hw
  constructor
  · intro h
    by_cases h0 : endN (stN ps ys i).nm = 0
    · exact h0
    · have := at_end hok h0; omega
  · intro h
    rcases h1 with h1 | h1
    · exact absurd h h1
    · exact h1
theorem went_step {ps : List Ph} (hok : recB ps = true) (ys : List Sy) {i : Nat} (hw : Went ps ys i) (hi : 0 ≤ atI ps (stN ps ys i).nm) : goS ps (stN ps ys i) (ys[i]?.getD Sy.late) = stN ps ys (i + 1) := by
  rw [goS, if_pos (went_go hok ys hw hi).1, stN]
theorem went_le {ps : List Ph} (hok : recB ps = true) (ys : List Sy) {i : Nat} (hw : Went ps ys i) : i ≤ ps.length := by
  cases i with
  | zero => omega
  | succ i =>
    have := (went_go hok ys (fun j hj => hw j (by omega)) (hw i (by omega))).2
    omega
/-- Two ways to the end are one. -/
theorem went_uniq {ps : List Ph} {ys : List Sy} {i j : Nat} (hi : Went ps ys i) (hj : Went ps ys j) (ei : atI ps (stN ps ys i).nm < 0) (ej : atI ps (stN ps ys j).nm < 0) : i = j := by
  rcases Nat.lt_trichotomy i j with h | h | h
  · have := hj i h; omega
  · exact h
  · have := hi j h; omega
end Go.Proofs.YtcofjoacehacjaaGreatDoor
