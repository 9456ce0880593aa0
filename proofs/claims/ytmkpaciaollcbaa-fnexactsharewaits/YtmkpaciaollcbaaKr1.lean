/- The program's chapter 13: looking for a name. -/
import Derived.Test.YtmkpaciaollcbaaKp3
import Derived.Test.YtmkpaciaollcbaaJ29
namespace Go.Proofs.Ytmkpaciaollcbaa
open Go.RowKit

/-- Where a name is, or would come in. -/
def lowN (ss : List ByteArray) (s : ByteArray) : Nat := (ss.takeWhile fun x => ltS x s).length
def LowTo (ss : List ByteArray) (s : ByteArray) (i : Nat) : Prop := ∀ (k : Nat) (x : ByteArray), k < i → ss[k]? = some x → ltS x s = true
def HighFrom (ss : List ByteArray) (s : ByteArray) (j : Nat) : Prop := ∀ (k : Nat) (x : ByteArray), j ≤ k → ss[k]? = some x → ltS x s = false
theorem lowN_at {ss : List ByteArray} {s : ByteArray} {i : Nat} (hi : i ≤ ss.length) (hl : LowTo ss s i) (hh : HighFrom ss s i) : lowN ss s = i :=
  tw_len _ _ _ hi hl (fun x hx => hh i x (Nat.le_refl _) hx)
theorem low_step {ss : List ByteArray} {s : ByteArray} {i h : Nat} (ha : Asc ss) (_ : LowTo ss s i) (hh : h < ss.length) (hs : ltS ss[h] s = true) : LowTo ss s (h + 1) := fun k x hk hx => by
  by_cases e : k = h
  · subst e
    rw [List.getElem?_eq_getElem hh] at hx
    obtain rfl := Option.some.inj hx
    exact hs
  · exact ltS_trans (asc_lt ha (h - k - 1) k x _ hx (by rw [show k + 1 + (h - k - 1) = h by omega]; exact List.getElem?_eq_getElem hh)) hs
theorem high_step {ss : List ByteArray} {s : ByteArray} {h : Nat} (ha : Asc ss) (hh : h < ss.length) (hs : ltS ss[h] s = false) : HighFrom ss s h := fun k x hk hx => by
  by_cases e : k = h
  · subst e
    rw [List.getElem?_eq_getElem hh] at hx
    obtain rfl := Option.some.inj hx
    exact hs
  · cases hq : ltS x s
    · rfl
    · have := ltS_trans (asc_lt ha (k - h - 1) h _ x (List.getElem?_eq_getElem hh) (by rw [show h + 1 + (k - h - 1) = k by omega]; exact hx)) hq
      rw [hs] at this; cases this
/-- It is there just if it is at that place. -/
theorem low_mem {ss : List ByteArray} {s : ByteArray} {i : Nat} (hl : LowTo ss s i) (hh : HighFrom ss s i) (ha : Asc ss) (hi : i < ss.length) : memS ss s = ((ss[i]).toList == s.toList) := by
  cases hq : ((ss[i]).toList == s.toList)
  · rw [memS_no]
    intro hm
    obtain ⟨k, hk, rfl⟩ := List.getElem_of_mem hm
    rcases Nat.lt_trichotomy k i with h1 | h1 | h1
    · have := hl k _ h1 (List.getElem?_eq_getElem hk)
      rw [ltS_irrefl] at this; cases this
    · subst h1; simp at hq
    · have h2 := asc_lt ha (k - i - 1) i _ _ (List.getElem?_eq_getElem hi) (by rw [show i + 1 + (k - i - 1) = k by omega]; exact List.getElem?_eq_getElem hk)
      have h3 := hh i _ (Nat.le_refl _) (List.getElem?_eq_getElem hi)
      rw [h2] at h3; cases h3
  · exact memS_found hi hq
theorem low_none {ss : List ByteArray} {s : ByteArray} {i : Nat} (hl : LowTo ss s i) (hi : ¬ i < ss.length) : memS ss s = false := by
  rw [memS_no]
  intro hm
  obtain ⟨k, hk, rfl⟩ := List.getElem_of_mem hm
  have := hl k _ (by omega) (List.getElem?_eq_getElem hk)
  rw [ltS_irrefl] at this; cases this
theorem isNaN_any (s : ByteArray) (w : World) : Calls Try.prog 59 #[.string s] w fun e w' => e = .returned (.bool false) ∧ w' = w := by
  go_enter Try.func59, Try.ntmps59
  go_wp2
  go_ret
  exact ⟨rfl, rfl⟩
theorem cmpNaN_any (s : ByteArray) (w : World) : Calls Try.prog 83 #[.string s] w fun e w' => e = .returned (.bool false) ∧ w' = w := by
  go_enter Try.func83, Try.ntmps83
  go_wp2
  go_ret
  exact ⟨rfl, rfl⟩
theorem cmpLess_any (a b : ByteArray) (w : World) : Calls Try.prog 58 #[.string a, .string b] w fun e w' => e = .returned (.bool (ltS a b)) ∧ w' = w := by
  have Hl : Hid (ltS a b = Op.bytesLess a.toList b.toList) := rfl
  go_enter Try.func58, Try.ntmps58
  go_wp2_with (go_at_call 83; refine (cmpNaN_any _ _).mono ?_; rintro e w' ⟨rfl, hw⟩; obtain rfl := hw.symm; clear hw)
  go_ret
  exact ⟨ret_bool Hl.out.symm, rfl⟩
theorem ret_find {i j : Nat} {a b : Bool} (h1 : i = j) (h2 : a = b) : Ending.returned (.tuple #[.int .i64 (i : Int), .bool a]) = .returned (.tuple #[.int .i64 (j : Int), .bool b]) := by rw [h1, h2]
set_option maxRecDepth 20000 in
set_option maxHeartbeats 2000000 in
theorem bsearch_any (ss : List ByteArray) (v : Value) (s : ByteArray) (w : World) (h : Ls w v ss) (ha : Asc ss) (hn : ss.length ≤ 1000) :
    Calls Try.prog 46 #[v, .string s] w fun e w' => e = .returned (.tuple #[.int .i64 (lowN ss s : Int), .bool (memS ss s)]) ∧ w' = w := by
  obtain ⟨a, c, rfl, -, -, hpos⟩ := h
  have Ha : Hid (Asc ss) := ha
  clear ha
  go_enter Try.func46, Try.ntmps46
  go_wp2_with fail
  go_loopw [7, 8, 9] (fun vi vj _ w' => ∃ i j : Nat, i ≤ j ∧ j ≤ ss.length ∧ vi = .int .i64 i ∧ vj = .int .i64 j ∧ LowTo ss s i ∧ HighFrom ss s j ∧ w' = w) (fun vi vj _ _ => (intOf vj).toNat - (intOf vi).toNat)
  case atStart => exact ⟨0, ss.length, by omega, by omega, rfl, rfl, fun k x hk => by omega, fun k x hk hx => by have := (List.getElem?_eq_some_iff.1 hx).1; omega, rfl⟩
  case round =>
    obtain ⟨i, j, hij, hjn, rfl, rfl, hlo, hhi, hw⟩ := hrel
    obtain rfl := hw.symm
    clear hw
    have HL : Hid (LowTo ss s i) := hlo
    have HH : Hid (HighFrom ss s j) := hhi
    clear hlo hhi
    by_cases hp : i < j
    · have hp' : (i : Int) < (j : Int) := by omega
      obtain ⟨b, o, rfl, hS, hb⟩ := hpos (by omega)
      have hm : (i + j) / 2 < ss.length := by omega
      have c0 := hS.cell hm
      have HY : Hid (ltS ss[(i + j) / 2] s = true → LowTo ss s ((i + j) / 2 + 1)) := fun hq => low_step Ha.out HL.out hm hq
      have HN : Hid (ltS ss[(i + j) / 2] s = false → HighFrom ss s ((i + j) / 2)) := fun hq => high_step Ha.out hm hq
      generalize ss[(i + j) / 2] = s0 at *
      obtain ⟨m, hmm, hm1, hm2⟩ : ∃ m : Nat, (i + j) / 2 = m ∧ i ≤ m ∧ m < j := ⟨_, rfl, by omega, by omega⟩
      rw [hmm] at c0 HY HN
      have hI : ((i : Int) + (j : Int)) / 2 = (m : Int) := by omega
      have hml : m < ss.length := by omega
      go_upto_region 5 with fail
      try rw [hI]
      clear hI hmm hm
      go_wp2_with fail
      refine (cmpLess_any s0 s _).mono ?_
      rintro e w' ⟨rfl, hw⟩
      obtain rfl := hw.symm
      clear hw
      cases hq : ltS s0 s
      · have Hq : Hid (HighFrom ss s m) := HN.out hq
        go_wp2_with fail
        go_roundw
        case rel => exact ⟨i, m, by omega, by omega, rfl, rfl, HL.out, Hq.out, by first | rfl | trivial⟩
        case measure => simp [intOf]; omega
      · have Hq : Hid (LowTo ss s (m + 1)) := HY.out hq
        go_wp2_with fail
        go_roundw
        case rel => exact ⟨m + 1, j, by omega, by omega, by go_num, rfl, Hq.out, HH.out, by first | rfl | trivial⟩
        case measure => simp [intOf]; omega
    · obtain rfl : i = j := by omega
      have hp' : ¬ (i : Int) < (i : Int) := by omega
      have HI : Hid (lowN ss s = i) := lowN_at hjn HL.out HH.out
      by_cases he : i < ss.length
      · have he' : (i : Int) < (ss.length : Int) := by omega
        obtain ⟨b, o, rfl, hS, hb⟩ := hpos (by omega)
        have c0 := hS.cell he
        have HM : Hid (memS ss s = ((ss[i]).toList == s.toList)) := low_mem HL.out HH.out Ha.out he
        generalize ss[i] = s0 at *
        cases hq : (s0.toList == s.toList)
        · have Hm : Hid (memS ss s = false) := by show _ = _; rw [HM.out, hq]
          go_wp2_with (go_at_call 59; refine (isNaN_any _ _).mono ?_; rintro e w' ⟨rfl, hw⟩; obtain rfl := hw.symm; clear hw)
          go_returns
          exact ⟨ret_find HI.out.symm Hm.out.symm, rfl⟩
        · have Hm : Hid (memS ss s = true) := by show _ = _; rw [HM.out, hq]
          go_wp2_with fail
          go_returns
          exact ⟨ret_find HI.out.symm Hm.out.symm, rfl⟩
      · have he' : ¬ (i : Int) < (ss.length : Int) := by omega
        have Hm : Hid (memS ss s = false) := low_none HL.out he
        go_wp2_with fail
        go_returns
        exact ⟨ret_find HI.out.symm Hm.out.symm, rfl⟩
/-- The place of the batch of a name, or where it would come in. -/
theorem find_any (b : Bk) (v : Value) (nm : ByteArray) (w : World) (h : BkV w v b) (hok : BookOk b) :
    Calls Try.prog 31 #[v, .string nm] w fun e w' => e = .returned (.tuple #[.int .i64 (lowN (nms b.bs) nm : Int), .bool (memS (nms b.bs) nm)]) ∧ Below w.heap.size w w' := by
  obtain ⟨a1, c1, a2, c2, rfl, -, h2⟩ := h.parts
  obtain ⟨W1, hW1, kA, hB1, hs1⟩ : ∃ W1, w.alloc (.cells #[.slice a1 (b).things.length c1, .slice a2 (b).bs.length c2] 30) = W1 ∧ CB W1 w.heap.size [.slice a1 b.things.length c1, .slice a2 b.bs.length c2] ∧ Below w.heap.size w W1 ∧ W1.heap.size = w.heap.size + 1 := ⟨_, rfl, cb1 w _ _⟩
  have hn5 : b.bs.length ≤ 5 := hok.2.1
  have Ha : Hid (Asc (nms b.bs)) := hok.2.2.2.1
  go_enter Try.func31, Try.ntmps31
  go_upto_region 1 with fail
  try rw [hW1]
  clear hW1 hs1
  obtain ⟨e0, e1⟩ := kA.c2'
  go_wp2_with fail
  refine (batchNames_any b.bs _ _ (h2.up hB1) (by omega)).mono ?_
  rintro e w2 ⟨⟨u, rfl, -, hl⟩, hb2⟩
  obtain ⟨ax, cx, rfl, -⟩ := id hl
  have hB2 := up_trans hB1 hb2
  clear e0 e1
  go_wp2_with fail
  refine (bsearch_any (nms b.bs) _ nm _ hl Ha.out (by rw [nms_length]; omega)).mono ?_
  rintro e w3 ⟨rfl, hw⟩
  obtain rfl := hw.symm
  go_wp2_with fail
  go_returns
  exact ⟨rfl, hB2⟩
end Go.Proofs.Ytmkpaciaollcbaa
