/- Texts of recipes, in plain. -/
import Derived.Test.YtkfclahdofjhjahDoorPr2
import Derived.Lib.ItoaNum
import Derived.Lib.Join
import Derived.Lib.Strings
namespace Go.Proofs.YtkfclahdofjhjahDoor
open Go.RowKit

def kindL (k : Int) : List UInt8 := if k = 1 then [102, 105, 108, 108] else if k = 2 then [109, 111, 118, 101] else if k = 3 then [104, 111, 108, 100] else if k = 4 then [99, 108, 101, 97, 110] else [116, 101, 115, 116]
def ofL (l : List UInt8) : ByteArray := ⟨l.toArray⟩
theorem ofL_list (l : List UInt8) : (ofL l).data.toList = l := rfl
def kindS (k : Int) : ByteArray := ofL (kindL k)
def decS (n : Int) : ByteArray := ofL (Lib.decDigits n.toNat)
def wWithin : ByteArray := ofL [119, 105, 116, 104, 105, 110]
def wThen : ByteArray := ofL [116, 104, 101, 110]
def wElse : ByteArray := ofL [101, 108, 115, 101]
/-- The words of a phase. -/
def tailW (p : Ph) : List ByteArray := [wWithin, decS p.wi, wThen, p.t, wElse, p.e]
def wordsW (p : Ph) : List ByteArray :=
  if p.k = 1 ∨ p.k = 2 then [p.nm, kindS p.k, p.a, p.b, decS p.n] ++ tailW p
  else if p.k = 3 then [p.nm, kindS p.k, p.a, decS p.n] ++ tailW p
  else [p.nm, kindS p.k, p.a] ++ tailW p
def lineL (p : Ph) : List UInt8 := Lib.join ((wordsW p).map (·.data.toList)) [32] ++ [10]
def textL (ps : List Ph) : List UInt8 := ps.flatMap lineL
theorem textL_take (ps : List Ph) (k : Nat) (h : k < ps.length) : textL (ps.take (k + 1)) = textL (ps.take k) ++ lineL ps[k] := by
  unfold textL; rw [List.take_succ_eq_append_getElem h, List.flatMap_append]; simp
theorem textL_all (ps : List Ph) (k : Nat) (h : ¬ k < ps.length) : textL (ps.take k) = textL ps := by rw [List.take_of_length_le (by omega)]
theorem join_sp (x : List UInt8) (r : List (List UInt8)) : Lib.join (x :: r) [32] = x ++ (r.map (32 :: ·)).flatten := by
  rw [Lib.join_cons]; rfl
theorem ba_eq {x y : ByteArray} (h : x.data.toList = y.data.toList) : x = y := by
  rw [← Lib.mk_data x, ← Lib.mk_data y, h]
theorem ba_cat (x y : ByteArray) : (x ++ y).data.toList = x.data.toList ++ y.data.toList := by
  rw [ByteArray.data_append, Array.toList_append]
theorem lineL12 (p : Ph) (h : p.k = 1 ∨ p.k = 2) : lineL p = p.nm.data.toList ++ 32 :: (kindL p.k ++ 32 :: (p.a.data.toList ++ 32 :: (p.b.data.toList ++ 32 :: (Lib.decDigits p.n.toNat ++ (32 :: 119 :: 105 :: 116 :: 104 :: 105 :: 110 :: 32 :: (Lib.decDigits p.wi.toNat ++ (32 :: 116 :: 104 :: 101 :: 110 :: 32 :: (p.t.data.toList ++ (32 :: 101 :: 108 :: 115 :: 101 :: 32 :: (p.e.data.toList ++ [10]))))))))))
 := by
  rw [lineL, wordsW, if_pos h]
  simp [tailW, join_sp, kindS, decS, wWithin, wThen, wElse, ofL]
theorem lineL3 (p : Ph) (h : p.k = 3) : lineL p = p.nm.data.toList ++ 32 :: (kindL p.k ++ 32 :: (p.a.data.toList ++ 32 :: (Lib.decDigits p.n.toNat ++ (32 :: 119 :: 105 :: 116 :: 104 :: 105 :: 110 :: 32 :: (Lib.decDigits p.wi.toNat ++ (32 :: 116 :: 104 :: 101 :: 110 :: 32 :: (p.t.data.toList ++ (32 :: 101 :: 108 :: 115 :: 101 :: 32 :: (p.e.data.toList ++ [10]))))))))) := by
  rw [lineL, wordsW, if_neg (by omega), if_pos h]
  simp [tailW, join_sp, kindS, decS, wWithin, wThen, wElse, ofL]
theorem lineL45 (p : Ph) (h : p.k = 4 ∨ p.k = 5) : lineL p = p.nm.data.toList ++ 32 :: (kindL p.k ++ 32 :: (p.a.data.toList ++ (32 :: 119 :: 105 :: 116 :: 104 :: 105 :: 110 :: 32 :: (Lib.decDigits p.wi.toNat ++ (32 :: 116 :: 104 :: 101 :: 110 :: 32 :: (p.t.data.toList ++ (32 :: 101 :: 108 :: 115 :: 101 :: 32 :: (p.e.data.toList ++ [10])))))))) := by
  rw [lineL, wordsW, if_neg (by omega), if_neg (by omega)]
  simp [tailW, join_sp, kindS, decS, wWithin, wThen, wElse, ofL]
/-- What is known of a phase that is ok, by its kind. -/
theorem ph_kinds (p : Ph) (h : p.okB = true) : (1 ≤ p.k ∧ p.k ≤ 5) ∧ (1 ≤ p.wi ∧ p.wi ≤ 1000) ∧ ((p.k = 1 ∨ p.k = 2) ∧ 1 ≤ p.b.size ∧ p.b.size ≤ 8 ∧ 1 ≤ p.n ∧ p.n ≤ 1000 ∨ p.k = 3 ∧ p.b = ⟨#[]⟩ ∧ 1 ≤ p.n ∧ p.n ≤ 1000 ∨ (p.k = 4 ∨ p.k = 5) ∧ p.b = ⟨#[]⟩ ∧ p.n = 0) := by
  have hb0 : p.b.toList.isEmpty = true → p.b = ⟨#[]⟩ := fun h => by
    obtain ⟨_, _, _, ⟨⟨l⟩⟩, _, _, _, _⟩ := p
    rw [Go.ByteArray.toList_eq] at h
    have : l = [] := by simpa using h
    subst this; rfl
  simp only [Ph.okB, phaseB, Bool.and_eq_true, inB_iff, argsB] at h
  obtain ⟨⟨⟨⟨⟨_, _⟩, hw⟩, ha⟩, _⟩, _⟩ := h
  by_cases h1 : p.k = 1
  · rw [if_pos h1] at ha
    simp only [Bool.and_eq_true, nameB, decide_eq_true_eq, inB_iff] at ha
    exact ⟨by omega, hw, .inl ⟨.inl h1, by omega⟩⟩
  rw [if_neg h1] at ha
  by_cases h2 : p.k = 2
  · rw [if_pos h2] at ha
    simp only [Bool.and_eq_true, nameB, decide_eq_true_eq, inB_iff] at ha
    exact ⟨by omega, hw, .inl ⟨.inr h2, by omega⟩⟩
  rw [if_neg h2] at ha
  by_cases h3 : p.k = 3
  · rw [if_pos h3] at ha
    simp only [Bool.and_eq_true, inB_iff] at ha
    exact ⟨by omega, hw, .inr (.inl ⟨h3, hb0 ha.1.2, by omega⟩)⟩
  rw [if_neg h3] at ha
  by_cases h4 : p.k = 4 ∨ p.k = 5
  · rw [if_pos h4] at ha
    simp only [Bool.and_eq_true, beq_iff_eq] at ha
    exact ⟨by omega, hw, .inr (.inr ⟨h4, hb0 ha.1.2, ha.2⟩)⟩
  · rw [if_neg h4] at ha; cases ha
theorem ok_of {ps : List Ph} (h : recB ps = true) {k : Nat} (hk : k < ps.length) : (ps[k]).okB = true := by
  cases ho : (ps[k]).okB with
  | true => rfl
  | false => rw [recB_noI ps k hk (by simp [stepI, ho])] at h; cases h
/-- Its texts are short. -/
def Ph.short (p : Ph) : Prop := p.nm.size ≤ 8 ∧ p.a.size ≤ 8 ∧ p.b.size ≤ 8 ∧ p.t.size ≤ 8 ∧ p.e.size ≤ 8
theorem ph_short (p : Ph) (h : p.okB = true) : p.short := by
  have hk := (ph_kinds p h).2.2
  have hb : p.b.size ≤ 8 := by
    rcases hk with ⟨_, _, h8, _⟩ | ⟨_, h8, _⟩ | ⟨_, h8, _⟩
    · exact h8
    · rw [h8]; exact Nat.zero_le _
    · rw [h8]; exact Nat.zero_le _
  have ha : p.a.size ≤ 8 := by
    simp only [Ph.okB, phaseB, Bool.and_eq_true, inB_iff, argsB] at h
    obtain ⟨⟨⟨⟨⟨_, _⟩, _⟩, ha⟩, _⟩, _⟩ := h
    split at ha
    · simp only [Bool.and_eq_true, nameB, decide_eq_true_eq] at ha; omega
    · split at ha
      · simp only [Bool.and_eq_true, nameB, decide_eq_true_eq] at ha; omega
      · split at ha
        · simp only [Bool.and_eq_true, nameB, decide_eq_true_eq] at ha; omega
        · split at ha
          · simp only [Bool.and_eq_true, nameB, decide_eq_true_eq] at ha; omega
          · cases ha
  simp only [Ph.okB, phaseB, Bool.and_eq_true, nameB, decide_eq_true_eq] at h
  exact ⟨by omega, ha, hb, by omega, by omega⟩
theorem nd_step (u k : Nat) (hk : Lib.nDigits (u / 10) ≤ k) : Lib.nDigits u ≤ k + 1 := by
  by_cases h9 : u < 10
  · rw [Lib.nDigits_small h9]; omega
  · rw [Lib.nDigits_big h9]; omega
theorem nd_max (u : Nat) (h : u ≤ 9999) : Lib.nDigits u ≤ 4 := by
  have h0 : Lib.nDigits (u / 10 / 10 / 10) ≤ 1 := by rw [Lib.nDigits_small (by omega)]; omega
  exact nd_step _ _ (nd_step _ _ (nd_step _ _ h0))
theorem dec_len (n : Int) (h : n ≤ 9999) : (Lib.decDigits n.toNat).length ≤ 4 := by
  rw [Lib.decDigits_length]
  exact nd_max _ (by omega)
theorem decS_size (n : Int) (h : n ≤ 9999) : (decS n).size ≤ 4 := dec_len n h
theorem kind_len (k : Int) : (kindL k).length ≤ 5 := by
  unfold kindL; repeat' split
  all_goals decide
theorem line_len (p : Ph) (h : p.okB = true) : (lineL p).length ≤ 90 := by
  obtain ⟨z0, z1, z2, z3, z4⟩ := ph_short p h
  obtain ⟨_, hw, hk⟩ := ph_kinds p h
  have d1 := dec_len p.wi (by omega)
  have k1 := kind_len p.k
  have e : ∀ s : ByteArray, s.data.toList.length = s.size := fun s => by rw [Array.length_toList]; rfl
  rcases hk with ⟨hk, _, _, hn⟩ | ⟨hk, _, hn⟩ | ⟨hk, _⟩
  · have d2 := dec_len p.n (by omega)
    rw [lineL12 p hk]; simp only [List.length_append, List.length_cons, e, List.length_nil]; omega
  · have d2 := dec_len p.n (by omega)
    rw [lineL3 p hk]; simp only [List.length_append, List.length_cons, e, List.length_nil]; omega
  · rw [lineL45 p hk]; simp only [List.length_append, List.length_cons, e, List.length_nil]; omega
/-- What RecPrint answers. -/
def printS (ps : List Ph) : ByteArray := if recB ps = true then ofL (textL ps) else ⟨#[]⟩
end Go.Proofs.YtkfclahdofjhjahDoor
