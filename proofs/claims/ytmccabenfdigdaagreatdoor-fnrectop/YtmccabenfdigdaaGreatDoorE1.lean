/- Runs in plain: where a run is, how a phase goes, how a run comes to its end. -/
import Derived.Test.YtmccabenfdigdaaGreatDoorWfInt
import Derived.Test.YtmccabenfdigdaaGreatDoorB1
namespace Go.Proofs.YtmccabenfdigdaaGreatDoor

structure St where
  nm : ByteArray
  now : Int
  left : Int
structure Sy where
  t : Int
  well : Bool
def St.cells (s : St) : List Value := [.string s.nm, .int .i64 s.now, .int .i64 s.left]
def St.none : St := ⟨⟨#[]⟩, 0, 0⟩
def Sy.late : Sy := ⟨1001, false⟩
/-- A run of a recipe that is ok, at a phase or an end. -/
def stAt (ps : List Ph) (nm : ByteArray) (now : Int) : St := ⟨nm, now, evL feI fpI 0 ps nm⟩
def beginS (ps : List Ph) : St := if recB ps = true then (match ps with | [] => St.none | p :: _ => stAt ps p.nm 0) else St.none
/-- How a phase goes: its ticks, and whether well. -/
def heldT (p : Ph) (y : Sy) : Int := if p.k = 3 ∧ y.well = true then max (max y.t 0) p.n else max y.t 0
def ticksT (p : Ph) (y : Sy) : Int := if p.wi < heldT p y then p.wi else heldT p y
def wellT (p : Ph) (y : Sy) : Bool := if p.wi < heldT p y then false else y.well
def nextT (p : Ph) (y : Sy) : ByteArray := if wellT p y = true then p.t else p.e
/-- May it go on? -/
def goOk (ps : List Ph) (s : St) : Bool := recB ps && inB s.now 0 12000 && decide (0 ≤ atI ps s.nm)
def goV (ps : List Ph) (s : St) (y : Sy) : St := match ps[(atI ps s.nm).toNat]? with
  | some p => stAt ps (nextT p y) (s.now + ticksT p y)
  | Option.none => s
def goS (ps : List Ph) (s : St) (y : Sy) : St := if goOk ps s = true then goV ps s y else s

theorem begin_no {ps : List Ph} (h : recB ps = false) : beginS ps = St.none := by simp [beginS, h]
theorem begin_yes {ps : List Ph} (h : recB ps = true) (h0 : 0 < ps.length) : beginS ps = stAt ps (ps[0]).nm 0 := by
  cases ps with
  | nil => simp at h0
  | cons p l => simp [beginS, h]
theorem ticks_bd (p : Ph) (y : Sy) (h : 1 ≤ p.wi) : 0 ≤ ticksT p y ∧ ticksT p y ≤ p.wi := by
  unfold ticksT heldT
  split <;> split <;> omega
/-- The specification reckons it in another order. -/
def heldS (p : Ph) (y : Sy) : Int := if p.k = 3 ∧ y.well = true ∧ y.t < p.n then p.n else y.t
theorem held_same (p : Ph) (y : Sy) (hn : p.k = 3 → 1 ≤ p.n) (hw : 1 ≤ p.wi) : (p.wi < heldS p y ↔ p.wi < heldT p y) ∧ (¬ p.wi < heldS p y → max (heldS p y) 0 = heldT p y) := by
  unfold heldS heldT
  by_cases h1 : p.k = 3
  · have := hn h1
    cases y.well
    · simp; omega
    · simp only [h1, true_and, and_self, if_true]
      split <;> omega
  · rw [if_neg (by rintro ⟨h, _⟩; exact h1 h), if_neg (by rintro ⟨h, _⟩; exact h1 h)]
    omega
theorem hold_n {ps : List Ph} (h : recB ps = true) : ∀ p ∈ ps, p.k = 3 → 1 ≤ p.n := by
  obtain ⟨_, _, ha⟩ := (recB_iff ps).1 h
  intro p hp hk
  obtain ⟨i, hi, rfl⟩ := List.getElem_of_mem hp
  have hs := ha i ps[i] hi (by simp [hi])
  simp only [stepI, Bool.and_eq_true, Ph.okB, phaseB, argsB, hk, inB, decide_eq_true_eq] at hs
  have := hs.1.1.1.1.1.2
  simp only [show (3 : Int) ≠ 1 by omega, show (3 : Int) ≠ 2 by omega, if_false, if_true, Bool.and_eq_true, decide_eq_true_eq] at this
  exact this.2.1
theorem at_nat {ps : List Ph} {nm : ByteArray} (h : 0 ≤ atI ps nm) : ∃ k : Nat, k < ps.length ∧ atI ps nm = (k : Int) := by
  have := atI_lt ps nm
  exact ⟨(atI ps nm).toNat, by omega, by omega⟩
theorem goV_at {ps : List Ph} {s : St} (y : Sy) {k : Nat} (hk : k < ps.length) (ha : atI ps s.nm = (k : Int)) : goV ps s y = stAt ps (nextT ps[k] y) (s.now + ticksT ps[k] y) := by
  have : ps[(atI ps s.nm).toNat]? = some ps[k] := by rw [ha]; simp [hk]
  simp only [goV, this]
theorem next_goes {ps : List Ph} (hok : recB ps = true) (y : Sy) {k : Nat} (hk : k < ps.length) : goesB (ps.drop (k + 1)) (nextT ps[k] y) = true := by
  obtain ⟨g1, g2⟩ := goes_of hok hk
  unfold nextT
  split
  · exact g1
  · exact g2
theorem goes_or {ps : List Ph} {nm : ByteArray} {k : Nat} (h : goesB (ps.drop k) nm = true) : endN nm ≠ 0 ∨ 0 ≤ atI ps nm := by
  simp only [goesB, Bool.or_eq_true, bne_iff_ne] at h
  rcases h with h | h
  · exact .inl h
  · obtain ⟨j, q, _, hq, he⟩ := (hasB_drop _ _ _).1 h
    rcases atI_cases ps nm with ⟨hn, _⟩ | ⟨j', q', hq', he', ha, _⟩
    · have : hasB ps nm = true := (hasB_iff _ _).2 ⟨j, q, hq, he⟩
      rw [hn] at this; cases this
    · exact .inr (by omega)
/-- An end is no phase. -/
theorem at_end {ps : List Ph} (hok : recB ps = true) {nm : ByteArray} (h : endN nm ≠ 0) : atI ps nm < 0 := by
  rcases atI_cases ps nm with ⟨_, ha⟩ | ⟨j, q, hq, he, _, _⟩
  · omega
  · exfalso
    obtain ⟨_, _, ha⟩ := (recB_iff ps).1 hok
    have hs := ha j q (List.getElem?_eq_some_iff.1 hq).1 hq
    simp only [stepI, Bool.and_eq_true, Ph.okB, phaseB] at hs
    have h0 : endN q.nm = 0 := by simpa using hs.1.1.1.1.1.1.1.2
    exact h ((endN_congr he).symm.trans h0)

/-- Where a run is behind i phases. -/
def stN (ps : List Ph) (ys : List Sy) : Nat → St
  | 0 => beginS ps
  | i + 1 => goV ps (stN ps ys i) (ys[i]?.getD Sy.late)
def pathN (ps : List Ph) (ys : List Sy) (n : Nat) : List ByteArray := (List.range n).map fun i => (stN ps ys i).nm
theorem pathN_succ (ps : List Ph) (ys : List Sy) (n : Nat) : pathN ps ys (n + 1) = pathN ps ys n ++ [(stN ps ys n).nm] := by
  simp [pathN, List.range_succ]
theorem pathN_length (ps : List Ph) (ys : List Sy) (n : Nat) : (pathN ps ys n).length = n := by simp [pathN]
/-- It has gone on i times, and was at a phase each time. -/
def Went (ps : List Ph) (ys : List Sy) (i : Nat) : Prop := ∀ j, j < i → 0 ≤ atI ps (stN ps ys j).nm
theorem went_zero (ps : List Ph) (ys : List Sy) : Went ps ys 0 := fun j hj => by omega
theorem went_succ {ps : List Ph} {ys : List Sy} {i : Nat} (h : Went ps ys i) (hi : 0 ≤ atI ps (stN ps ys i).nm) : Went ps ys (i + 1) := fun j hj => by
  rcases Nat.lt_or_ge j i with h' | h'
  · exact h j h'
  · obtain rfl : j = i := by omega
    exact hi
theorem went_inv {ps : List Ph} (hok : recB ps = true) (ys : List Sy) : ∀ (i : Nat), Went ps ys i →
    (endN (stN ps ys i).nm ≠ 0 ∨ 0 ≤ atI ps (stN ps ys i).nm) ∧ (0 ≤ atI ps (stN ps ys i).nm → (i : Int) ≤ atI ps (stN ps ys i).nm) ∧ 0 ≤ (stN ps ys i).now ∧ (stN ps ys i).now ≤ 1000 * i ∧ (stN ps ys i).left = evL feI fpI 0 ps (stN ps ys i).nm := by
  intro i
  have hl : 0 < ps.length := ((recB_iff ps).1 hok).1
  induction i with
  | zero =>
    intro _
    rw [stN, begin_yes hok hl]
    have hh : hasB ps (ps[0]).nm = true := hasB_yes ps _ 0 hl (by simp)
    refine ⟨.inr ?_, fun h => by simpa using h, by simp [stAt], by simp [stAt], by simp [stAt]⟩
    show 0 ≤ atI ps (ps[0]).nm
    rcases atI_cases ps (ps[0]).nm with ⟨hn, _⟩ | ⟨j, q, hq, he, ha, _⟩
    · rw [hn] at hh; cases hh
    · omega
  | succ i ih =>
    intro hw
    obtain ⟨_, h2, h3, h4, _⟩ := ih fun j hj => hw j (by omega)
    have hi := hw i (by omega)
    obtain ⟨k, hk, ha⟩ := at_nat hi
    have hd := wi_of_recB hok ps[k] (by simp)
    have hT := ticks_bd ps[k] (ys[i]?.getD Sy.late) hd.1
    have hg := next_goes hok (ys[i]?.getD Sy.late) hk
    have hlat := atI_later hok hk _ hg
    rw [stN, goV_at _ hk ha]
    simp only [stAt]
    refine ⟨goes_or hg, fun h => ?_, by omega, by omega, trivial⟩
    have := h2 hi
    omega
/-- It may go on. -/
theorem went_go {ps : List Ph} (hok : recB ps = true) (ys : List Sy) {i : Nat} (hw : Went ps ys i) (hi : 0 ≤ atI ps (stN ps ys i).nm) : goOk ps (stN ps ys i) = true ∧ i < ps.length := by
  obtain ⟨_, h2, h3, h4, _⟩ := went_inv hok ys i hw
  have h12 := ((recB_iff ps).1 hok).2.1
  have := atI_lt ps (stN ps ys i).nm
  have := h2 hi
  refine ⟨?_, by omega⟩
  simp only [goOk, hok, Bool.true_and, Bool.and_eq_true, inB_iff, decide_eq_true_eq]
  omega
theorem went_end {ps : List Ph} (hok : recB ps = true) (ys : List Sy) {i : Nat} (hw : Went ps ys i) : (0 ≤ atI ps (stN ps ys i).nm ↔ endN (stN ps ys i).nm = 0) := by
  obtain ⟨h1, _⟩ := went_inv hok ys i hw
  constructor
  · intro h
    by_cases h0 : endN (stN ps ys i).nm = 0
    · exact h0
    · have := at_end hok h0; omega
  · intro h
    rcases h1 with h1 | h1
    · exact absurd h h1
    · exact h1
theorem went_step {ps : List Ph} (hok : recB ps = true) (ys : List Sy) {i : Nat} (hw : Went ps ys i) (hi : 0 ≤ atI ps (stN ps ys i).nm) : goS ps (stN ps ys i) (ys[i]?.getD Sy.late) = stN ps ys (i + 1) := by
  rw [goS, if_pos (went_go hok ys hw hi).1, stN]
theorem went_le {ps : List Ph} (hok : recB ps = true) (ys : List Sy) {i : Nat} (hw : Went ps ys i) : i ≤ ps.length := by
  cases i with
  | zero => omega
  | succ i =>
    have := (went_go hok ys (fun j hj => hw j (by omega)) (hw i (by omega))).2
    omega
/-- Two ways to the end are one. -/
theorem went_uniq {ps : List Ph} {ys : List Sy} {i j : Nat} (hi : Went ps ys i) (hj : Went ps ys j) (ei : atI ps (stN ps ys i).nm < 0) (ej : atI ps (stN ps ys j).nm < 0) : i = j := by
  rcases Nat.lt_trichotomy i j with h | h | h
  · have := hj i h; omega
  · exact h
  · have := hi j h; omega
end Go.Proofs.YtmccabenfdigdaaGreatDoor

/- Runs in plain: how a run ends; says in memory. -/
namespace Go.Proofs.YtmccabenfdigdaaGreatDoor
open Go.RowKit

/-- How a run ends, and its path. -/
def RunEnd (ps : List Ph) (ys : List Sy) (s : St) (path : List ByteArray) : Prop :=
  (recB ps = false ∧ s = St.none ∧ path = []) ∨ (recB ps = true ∧ ∃ n, Went ps ys n ∧ atI ps (stN ps ys n).nm < 0 ∧ s = stN ps ys n ∧ path = pathN ps ys n)
theorem RunEnd.uniq {ps : List Ph} {ys : List Sy} {s s' : St} {p p' : List ByteArray} (h : RunEnd ps ys s p) (h' : RunEnd ps ys s' p') : s = s' ∧ p = p' := by
  rcases h with ⟨h0, rfl, rfl⟩ | ⟨h0, n, h1, h2, rfl, rfl⟩ <;> rcases h' with ⟨g0, rfl, rfl⟩ | ⟨g0, m, g1, g2, rfl, rfl⟩
  · exact ⟨rfl, rfl⟩
  · rw [h0] at g0; cases g0
  · rw [h0] at g0; cases g0
  · obtain rfl := went_uniq h1 g1 h2 g2
    exact ⟨rfl, rfl⟩
theorem RunEnd.short {ps : List Ph} {ys : List Sy} {s : St} {p : List ByteArray} (h : RunEnd ps ys s p) : p.length ≤ 12 := by
  rcases h with ⟨_, _, rfl⟩ | ⟨h0, n, h1, _, _, rfl⟩
  · simp
  · rw [pathN_length]
    have := went_le h0 ys h1
    have := ((recB_iff ps).1 h0).2.1
    omega
def Sy.cellsR (y : Sy) : List Value := [.int .i64 y.t, .bool y.well]
/-- The says lie in block b from cell o on. -/
def SayAt (w : World) (b o : Nat) (ys : List Sy) : Prop := ∀ (i : Nat) (y : Sy), ys[i]? = some y → w.rangeAt b (o + i * 2) y.cellsR
theorem SayAt.up {w w' : World} {b o B : Nat} {ys : List Sy} (h : SayAt w b o ys) (hb : Below B w w') (hB : b < B) : SayAt w' b o ys := fun i p hp j v hv => by
  rw [hb.cell (p := ⟨b, o + i * 2 + j, none⟩) hB]; exact h i p hp j v hv
theorem SayAt.cells {w : World} {b o : Nat} {ys : List Sy} (h : SayAt w b o ys) (i : Nat) (hi : i < ys.length) : w.cell? ⟨b, o + i * 2, none⟩ = some (.int .i64 (ys[i]).t) ∧ w.cell? ⟨b, o + i * 2 + 1, none⟩ = some (.bool (ys[i]).well) := by
  have hr := h i ys[i] (by simp [hi])
  exact ⟨hr 0 _ rfl, hr 1 _ rfl⟩
theorem SayAt.drop {w : World} {b o : Nat} {ys : List Sy} (h : SayAt w b o ys) (k : Nat) : SayAt w b (o + k * 2) (ys.drop k) := fun j p hp => by
  have := h (k + j) p (by simpa [List.getElem?_drop] using hp)
  rwa [show o + k * 2 + j * 2 = o + (k + j) * 2 by omega]
/-- The path grows by a name. -/
theorem ownT_snoc {w : World} {base : Nat} {u : Value} {ps : List Ph} {ys : List Sy} {k : Nat} (h : w.ownsRow base 9 1 u (k + 1) ((pathN ps ys k).map Value.string ++ [.string (stN ps ys k).nm])) : OwnT w base u (pathN ps ys (k + 1)) := by
  unfold OwnT
  rw [pathN_length, pathN_succ, List.map_append]
  exact h
theorem ownT_path {w : World} {base : Nat} {u : Value} {ps : List Ph} {ys : List Sy} {k : Nat} (h : OwnT w base u (pathN ps ys k)) : w.ownsRow base 9 1 u k ((pathN ps ys k).map Value.string) := by
  unfold OwnT at h
  rwa [pathN_length] at h
theorem OwnT.low {w : World} {base base' : Nat} {u : Value} {ss : List ByteArray} (h : OwnT w base u ss) (hb : base' ≤ base) : OwnT w base' u ss := own_low h hb
/-- A row grows, and a block that lies ahead of it stays. -/
theorem CB.own {w w' : World} {b base e size n : Nat} {cs : List Value} {v : Value} {xs : List Value} (h : CB w b cs) (hown : w.ownsRow base e size v n xs) (hg : w.grownBy w' v.ownBlock) (hb : b < base) : CB w' b cs := h.kept hg (own_ne hown hb)
theorem OwnT.set {w w' : World} {base q : Nat} {u : Value} {ss : List ByteArray} (h : OwnT w base u ss) (hg : w.grownBy w' (some q)) (hq : q < base) : OwnT w' base u ss := own_grown h hg hq
theorem OwnT.grown {w w' : World} {base q : Nat} {u : Value} {ss : List ByteArray} (h : OwnT w base u ss) (hg : w.grownBy w' (some q)) (hne : u.ownBlock ≠ some q) : OwnT w' base u ss := by
  refine ⟨h.1, ?_⟩
  rcases h.2 with h0 | ⟨g, cap, cur, hv, hb, hh, r⟩
  · exact .inl h0
  · refine .inr ⟨g, cap, cur, hv, hb, ?_, r⟩
    rw [hg.block g (Array.getElem?_eq_some_iff.1 hh).1 (fun e => hne (by rw [hv, Value.ownBlock]; exact e))]; exact hh
end Go.Proofs.YtmccabenfdigdaaGreatDoor
