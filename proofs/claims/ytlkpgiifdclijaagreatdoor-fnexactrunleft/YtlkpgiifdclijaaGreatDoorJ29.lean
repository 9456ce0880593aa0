/- Books that change, in plain: coming, asking, needing less, going. -/
import Derived.Test.YtlkpgiifdclijaaGreatDoorJ2
import Derived.Test.YtlkpgiifdclijaaGreatDoorJ22
import Derived.Test.YtlkpgiifdclijaaGreatDoorJ28
import Derived.Test.YtlkpgiifdclijaaGreatDoorJ14
namespace Go.Proofs.YtlkpgiifdclijaaGreatDoor

/-- All names of a book are texts that can be. -/
def Szb (b : Bk) : Prop := (∀ s ∈ b.things, s.size ≤ maxLen) ∧ ∀ x ∈ b.bs, (∀ s ∈ x.has, s.size ≤ maxLen) ∧ (∀ s ∈ x.needs, s.size ≤ maxLen)
def nobody : Bk := ⟨[], []⟩
theorem szb_none : Szb nobody := ⟨fun s hs => by simp [nobody] at hs, fun x hx => by simp [nobody] at hx⟩
/-- The place of a batch. -/
def plN (b : Bk) (nm : ByteArray) : Nat := (idxI (nms b.bs) nm).toNat
theorem plN_lt {b : Bk} {nm : ByteArray} (h : memS (nms b.bs) nm = true) : idxI (nms b.bs) nm = (plN b nm : Int) ∧ plN b nm < b.bs.length := by
  have h0 := idxI_mem (nms b.bs) nm
  rw [h, decide_eq_true_eq] at h0
  refine ⟨by unfold plN; omega, ?_⟩
  rw [plN, idxI, if_pos h]
  have : (nms b.bs).findIdx (fun x => x.toList == nm.toList) < (nms b.bs).length := List.findIdx_lt_length.2 (by
    rw [memS, List.any_eq_true] at h; exact h)
  rw [nms_length] at this
  simpa using this
/-- Going. -/
noncomputable def leaveC (b : Bk) (nm : ByteArray) : Int := if bookB b = false then 1 else if memS (nms b.bs) nm = false then 3 else 0
noncomputable def leaveB (b : Bk) (nm : ByteArray) : Bk := if bookB b = false then nobody else if memS (nms b.bs) nm = false then b else ⟨b.things, b.bs.take (plN b nm) ++ b.bs.drop (plN b nm + 1)⟩
theorem leave_no {b : Bk} {nm : ByteArray} (h : bookB b = false) : leaveC b nm = 1 ∧ leaveB b nm = nobody := by simp [leaveC, leaveB, h]
theorem leave_none {b : Bk} {nm : ByteArray} (h : bookB b = true) (hm : memS (nms b.bs) nm = false) : leaveC b nm = 3 ∧ leaveB b nm = b := by simp [leaveC, leaveB, h, hm]
theorem leave_yes {b : Bk} {nm : ByteArray} (h : bookB b = true) (hm : memS (nms b.bs) nm = true) : leaveC b nm = 0 ∧ leaveB b nm = ⟨b.things, b.bs.take (plN b nm) ++ b.bs.drop (plN b nm + 1)⟩ := by simp [leaveC, leaveB, h, hm]
/-- Coming: behind all whose names are less. -/
def inN (b : Bk) (nm : ByteArray) : Nat := (b.bs.takeWhile fun x => ltS x.nm nm).length
noncomputable def enterC (b : Bk) (nm : ByteArray) (needs : List ByteArray) : Int :=
  if bookB b = false then 1 else if (nameB nm && pB (PartOk needs b.things)) = false then 2 else if memS (nms b.bs) nm = true then 3 else if 5 ≤ b.bs.length then 4 else 0
noncomputable def enterB (b : Bk) (nm : ByteArray) (needs : List ByteArray) : Bk :=
  if bookB b = false then nobody else if enterC b nm needs = 0 then ⟨b.things, b.bs.take (inN b nm) ++ ⟨nm, [], needs⟩ :: b.bs.drop (inN b nm)⟩ else b
/-- Up to place k all names are less. -/
def lowB (b : Bk) (nm : ByteArray) (k : Nat) : Prop := ∀ (j : Nat) (x : Ba), j < k → b.bs[j]? = some x → ltS x.nm nm = true
theorem tw_len {α : Type} (p : α → Bool) : ∀ (l : List α) (k : Nat), k ≤ l.length → (∀ j x, j < k → l[j]? = some x → p x = true) → (∀ x, l[k]? = some x → p x = false) → (l.takeWhile p).length = k
  | [], k, hk, _, _ => by simp at hk; subst hk; rfl
  | x :: r, 0, _, _, h2 => by
    rw [List.takeWhile_cons, h2 x (by simp)]; rfl
  | x :: r, k + 1, hk, h1, h2 => by
    rw [List.takeWhile_cons, h1 0 x (by omega) (by simp)]
    simp only [if_true, List.length_cons]
    rw [tw_len p r k (by simpa using hk) (fun j y hj hy => h1 (j + 1) y (by omega) (by simpa using hy)) (fun y hy => h2 y (by simpa using hy))]
theorem inN_at {b : Bk} {nm : ByteArray} {k : Nat} (hk : k ≤ b.bs.length) (hl : lowB b nm k) (hn : ∀ x, b.bs[k]? = some x → ltS x.nm nm = false) : inN b nm = k := tw_len _ _ _ hk hl hn
theorem enter_no {b : Bk} {nm : ByteArray} {needs : List ByteArray} (h : bookB b = false) : enterC b nm needs = 1 ∧ enterB b nm needs = nobody := by simp [enterC, enterB, h]
theorem enter_two {b : Bk} {nm : ByteArray} {needs : List ByteArray} (h : bookB b = true) (h2 : (nameB nm && pB (PartOk needs b.things)) = false) : enterC b nm needs = 2 ∧ enterB b nm needs = b := by simp [enterC, enterB, h, h2]
theorem enter_three {b : Bk} {nm : ByteArray} {needs : List ByteArray} (h : bookB b = true) (h2 : (nameB nm && pB (PartOk needs b.things)) = true) (h3 : memS (nms b.bs) nm = true) : enterC b nm needs = 3 ∧ enterB b nm needs = b := by simp [enterC, enterB, h, h2, h3]
theorem enter_four {b : Bk} {nm : ByteArray} {needs : List ByteArray} (h : bookB b = true) (h2 : (nameB nm && pB (PartOk needs b.things)) = true) (h3 : memS (nms b.bs) nm = false) (h4 : 5 ≤ b.bs.length) : enterC b nm needs = 4 ∧ enterB b nm needs = b := by simp [enterC, enterB, h, h2, h3, h4]
theorem enter_yes {b : Bk} {nm : ByteArray} {needs : List ByteArray} (h : bookB b = true) (h2 : (nameB nm && pB (PartOk needs b.things)) = true) (h3 : memS (nms b.bs) nm = false) (h4 : ¬ 5 ≤ b.bs.length) :
    enterC b nm needs = 0 ∧ enterB b nm needs = ⟨b.things, b.bs.take (inN b nm) ++ ⟨nm, [], needs⟩ :: b.bs.drop (inN b nm)⟩ := by
  have hc : enterC b nm needs = 0 := by simp [enterC, h, h2, h3, h4]
  exact ⟨hc, by rw [enterB, h, if_neg (by simp), if_pos hc]⟩
/-- What an ok book's lists hold is short. -/
theorem ok_small {b : Bk} (h : BookOk b) : b.things.length ≤ 8 ∧ b.bs.length ≤ 5 ∧ ∀ x ∈ b.bs, x.has.length ≤ 8 ∧ x.needs.length ≤ 8 := by
  refine ⟨h.1.1, h.2.1, fun x hx => ?_⟩
  obtain ⟨i, hi, rfl⟩ := List.getElem_of_mem hx
  have ho := h.2.2.2.2.1.at (k := i) hi hi
  have h1 := part_short ho.1
  have h2 := part_short ho.2
  have h0 := h.1.1
  omega
theorem book_ok {b : Bk} (h : bookB b = true) : BookOk b := pB_iff.1 h
end Go.Proofs.YtlkpgiifdclijaaGreatDoor

/- The program's chapter 13: looking for a name. -/
namespace Go.Proofs.YtlkpgiifdclijaaGreatDoor
open Go.RowKit

/-- Where a name is, or would come in. -/
def lowN (ss : List ByteArray) (s : ByteArray) : Nat := (ss.takeWhile fun x => ltS x s).length
def LowTo (ss : List ByteArray) (s : ByteArray) (i : Nat) : Prop := ∀ (k : Nat) (x : ByteArray), k < i → ss[k]? = some x → ltS x s = true
def HighFrom (ss : List ByteArray) (s : ByteArray) (j : Nat) : Prop := ∀ (k : Nat) (x : ByteArray), j ≤ k → ss[k]? = some x → ltS x s = false
theorem lowN_at {ss : List ByteArray} {s : ByteArray} {i : Nat} (hi : i ≤ ss.length) (hl : LowTo ss s i) (hh : HighFrom ss s i) : lowN ss s = i :=
  tw_len _ _ _ hi hl (fun x hx => hh i x (Nat.le_refl _) hx)
theorem low_step {ss : List ByteArray} {s : ByteArray} {i h : Nat} (ha : Asc ss) (_ : LowTo ss s i) (hh : h < ss.length) (hs : ltS ss[h] s = true) : LowTo ss s (h + 1) := fun k x hk hx => by
  by_cases e : k = h
  · subst e
    rw [List.getElem?_eq_getElem hh] at hx
    obtain rfl := Option.some.inj hx
    exact hs
  · exact ltS_trans (asc_lt ha (h - k - 1) k x _ hx (by rw [show k + 1 + (h - k - 1) = h by omega]; exact List.getElem?_eq_getElem hh)) hs
theorem high_step {ss : List ByteArray} {s : ByteArray} {h : Nat} (ha : Asc ss) (hh : h < ss.length) (hs : ltS ss[h] s = false) : HighFrom ss s h := fun k x hk hx => by
  by_cases e : k = h
  · subst e
    rw [List.getElem?_eq_getElem hh] at hx
    obtain rfl := Option.some.inj hx
    exact hs
  · cases hq : ltS x s
    · rfl
    · have := ltS_trans (asc_lt ha (k - h - 1) h _ x (List.getElem?_eq_getElem hh) (by rw [show h + 1 + (k - h - 1) = k by omega]; exact hx)) hq
      rw [hs] at this; cases this
/-- It is there just if it is at that place. -/
theorem low_mem {ss : List ByteArray} {s : ByteArray} {i : Nat} (hl : LowTo ss s i) (hh : HighFrom ss s i) (ha : Asc ss) (hi : i < ss.length) : memS ss s = ((ss[i]).toList == s.toList) := by
  cases hq : ((ss[i]).toList == s.toList)
  · rw [memS_no]
    intro hm
    obtain ⟨k, hk, rfl⟩ := List.getElem_of_mem hm
    rcases Nat.lt_trichotomy k i with h1 | h1 | h1
    · have := hl k _ h1 (List.getElem?_eq_getElem hk)
      rw [ltS_irrefl] at this; cases this
    · subst h1; simp at hq
    · have h2 := asc_lt ha (k - i - 1) i _ _ (List.getElem?_eq_getElem hi) (by rw [show i + 1 + (k - i - 1) = k by omega]; exact List.getElem?_eq_getElem hk)
      have h3 := hh i _ (Nat.le_refl _) (List.getElem?_eq_getElem hi)
      rw [h2] at h3; cases h3
  · exact memS_found hi hq
theorem low_none {ss : List ByteArray} {s : ByteArray} {i : Nat} (hl : LowTo ss s i) (hi : ¬ i < ss.length) : memS ss s = false := by
  rw [memS_no]
  intro hm
  obtain ⟨k, hk, rfl⟩ := List.getElem_of_mem hm
  have := hl k _ (by omega) (List.getElem?_eq_getElem hk)
  rw [ltS_irrefl] at this; cases this
theorem isNaN_any (s : ByteArray) (w : World) : Calls Tryz.prog 168 #[.string s] w fun e w' => e = .returned (.bool false) ∧ w' = w := by
  go_enter Tryz.func168, Tryz.ntmps168
  go_wp2
  go_ret
  exact ⟨rfl, rfl⟩
theorem cmpNaN_any (s : ByteArray) (w : World) : Calls Tryz.prog 165 #[.string s] w fun e w' => e = .returned (.bool false) ∧ w' = w := by
  go_enter Tryz.func165, Tryz.ntmps165
  go_wp2
  go_ret
  exact ⟨rfl, rfl⟩
theorem cmpLess_any (a b : ByteArray) (w : World) : Calls Tryz.prog 132 #[.string a, .string b] w fun e w' => e = .returned (.bool (ltS a b)) ∧ w' = w := by
  have Hl : Hid (ltS a b = Op.bytesLess a.toList b.toList) := rfl
  go_enter Tryz.func132, Tryz.ntmps132
  go_wp2_with (go_at_call 165; refine (cmpNaN_any _ _).mono ?_; rintro e w' ⟨rfl, hw⟩; obtain rfl := hw.symm; clear hw)
  go_ret
  exact ⟨ret_bool Hl.out.symm, rfl⟩
theorem ret_find {i j : Nat} {a b : Bool} (h1 : i = j) (h2 : a = b) : Ending.returned (.tuple #[.int .i64 (i : Int), .bool a]) = .returned (.tuple #[.int .i64 (j : Int), .bool b]) := by rw [h1, h2]
set_option maxRecDepth 20000 in
set_option maxHeartbeats 2000000 in
theorem bsearch_any (ss : List ByteArray) (v : Value) (s : ByteArray) (w : World) (h : Ls w v ss) (ha : Asc ss) (hn : ss.length ≤ 1000) :
    Calls Tryz.prog 140 #[v, .string s] w fun e w' => e = .returned (.tuple #[.int .i64 (lowN ss s : Int), .bool (memS ss s)]) ∧ w' = w := by
  obtain ⟨a, c, rfl, -, -, hpos⟩ := h
  have Ha : Hid (Asc ss) := ha
  clear ha
  go_enter Tryz.func140, Tryz.ntmps140
  go_wp2_with fail
  go_loopw [7, 8, 9] (fun vi vj _ w' => ∃ i j : Nat, i ≤ j ∧ j ≤ ss.length ∧ vi = .int .i64 i ∧ vj = .int .i64 j ∧ LowTo ss s i ∧ HighFrom ss s j ∧ w' = w) (fun vi vj _ _ => (intOf vj).toNat - (intOf vi).toNat)
  case atStart => exact ⟨0, ss.length, by omega, by omega, rfl, rfl, fun k x hk => by omega, fun k x hk hx => by have := (List.getElem?_eq_some_iff.1 hx).1; omega, rfl⟩
  case round =>
    obtain ⟨i, j, hij, hjn, rfl, rfl, hlo, hhi, hw⟩ := hrel
    obtain rfl := hw.symm
    clear hw
    have HL : Hid (LowTo ss s i) := hlo
    have HH : Hid (HighFrom ss s j) := hhi
    clear hlo hhi
    by_cases hp : i < j
    · have hp' : (i : Int) < (j : Int) := by omega
      obtain ⟨b, o, rfl, hS, hb⟩ := hpos (by omega)
      have hm : (i + j) / 2 < ss.length := by omega
      have c0 := hS.cell hm
      have HY : Hid (ltS ss[(i + j) / 2] s = true → LowTo ss s ((i + j) / 2 + 1)) := fun hq => low_step Ha.out HL.out hm hq
      have HN : Hid (ltS ss[(i + j) / 2] s = false → HighFrom ss s ((i + j) / 2)) := fun hq => high_step Ha.out hm hq
      generalize ss[(i + j) / 2] = s0 at *
      obtain ⟨m, hmm, hm1, hm2⟩ : ∃ m : Nat, (i + j) / 2 = m ∧ i ≤ m ∧ m < j := ⟨_, rfl, by omega, by omega⟩
      rw [hmm] at c0 HY HN
      have hI : ((i : Int) + (j : Int)) / 2 = (m : Int) := by omega
      have hml : m < ss.length := by omega
      go_upto_region 5 with fail
      try rw [hI]
      clear hI hmm hm
      go_wp2_with fail
      refine (cmpLess_any s0 s _).mono ?_
      rintro e w' ⟨rfl, hw⟩
      obtain rfl := hw.symm
      clear hw
      cases hq : ltS s0 s
      · have Hq : Hid (HighFrom ss s m) := HN.out hq
        go_wp2_with fail
        go_roundw
        case rel => exact ⟨i, m, by omega, by omega, rfl, rfl, HL.out, Hq.out, by first | rfl | trivial⟩
        case measure => simp [intOf]; omega
      · have Hq : Hid (LowTo ss s (m + 1)) := HY.out hq
        go_wp2_with fail
        go_roundw
        case rel => exact ⟨m + 1, j, by omega, by omega, by go_num, rfl, Hq.out, HH.out, by first | rfl | trivial⟩
        case measure => simp [intOf]; omega
    · obtain rfl : i = j := by omega
      have hp' : ¬ (i : Int) < (i : Int) := by omega
      have HI : Hid (lowN ss s = i) := lowN_at hjn HL.out HH.out
      by_cases he : i < ss.length
      · have he' : (i : Int) < (ss.length : Int) := by omega
        obtain ⟨b, o, rfl, hS, hb⟩ := hpos (by omega)
        have c0 := hS.cell he
        have HM : Hid (memS ss s = ((ss[i]).toList == s.toList)) := low_mem HL.out HH.out Ha.out he
        generalize ss[i] = s0 at *
        cases hq : (s0.toList == s.toList)
        · have Hm : Hid (memS ss s = false) := by show _ = _; rw [HM.out, hq]
          go_wp2_with (go_at_call 168; refine (isNaN_any _ _).mono ?_; rintro e w' ⟨rfl, hw⟩; obtain rfl := hw.symm; clear hw)
          go_returns
          exact ⟨ret_find HI.out.symm Hm.out.symm, rfl⟩
        · have Hm : Hid (memS ss s = true) := by show _ = _; rw [HM.out, hq]
          go_wp2_with fail
          go_returns
          exact ⟨ret_find HI.out.symm Hm.out.symm, rfl⟩
      · have he' : ¬ (i : Int) < (ss.length : Int) := by omega
        have Hm : Hid (memS ss s = false) := low_none HL.out he
        go_wp2_with fail
        go_returns
        exact ⟨ret_find HI.out.symm Hm.out.symm, rfl⟩
/-- The place of the batch of a name, or where it would come in. -/
theorem find_any (b : Bk) (v : Value) (nm : ByteArray) (w : World) (h : BkV w v b) (hok : BookOk b) :
    Calls Tryz.prog 95 #[v, .string nm] w fun e w' => e = .returned (.tuple #[.int .i64 (lowN (nms b.bs) nm : Int), .bool (memS (nms b.bs) nm)]) ∧ Below w.heap.size w w' := by
  obtain ⟨a1, c1, a2, c2, rfl, -, h2⟩ := h.parts
  obtain ⟨W1, hW1, kA, hB1, hs1⟩ : ∃ W1, w.alloc (.cells #[.slice a1 (b).things.length c1, .slice a2 (b).bs.length c2] 34) = W1 ∧ CB W1 w.heap.size [.slice a1 b.things.length c1, .slice a2 b.bs.length c2] ∧ Below w.heap.size w W1 ∧ W1.heap.size = w.heap.size + 1 := ⟨_, rfl, cb1 w _ _⟩
  have hn5 : b.bs.length ≤ 5 := hok.2.1
  have Ha : Hid (Asc (nms b.bs)) := hok.2.2.2.1
  go_enter Tryz.func95, Tryz.ntmps95
  go_upto_region 1 with fail
  try rw [hW1]
  clear hW1 hs1
  obtain ⟨e0, e1⟩ := kA.c2'
  go_wp2_with fail
  refine (batchNames_any b.bs _ _ (h2.up hB1) (by omega)).mono ?_
  rintro e w2 ⟨⟨u, rfl, -, hl⟩, hb2⟩
  obtain ⟨ax, cx, rfl, -⟩ := id hl
  have hB2 := up_trans hB1 hb2
  clear e0 e1
  go_wp2_with fail
  refine (bsearch_any (nms b.bs) _ nm _ hl Ha.out (by rw [nms_length]; omega)).mono ?_
  rintro e w3 ⟨rfl, hw⟩
  obtain rfl := hw.symm
  go_wp2_with fail
  go_returns
  exact ⟨rfl, hB2⟩
end Go.Proofs.YtlkpgiifdclijaaGreatDoor

/- The program's checks of what batches need and have (chapter 22). -/
namespace Go.Proofs.YtlkpgiifdclijaaGreatDoor
open Go.RowKit

theorem lowN_here {l : List ByteArray} {s : ByteArray} {k : Nat} (ha : Asc l) (hk : k < l.length) (e : l[k] = s) : lowN l s = k := by
  subst e
  refine lowN_at (Nat.le_of_lt hk) (fun j x hj hx => ?_) (fun j x hj hx => ?_)
  · exact asc_lt ha (k - j - 1) j x _ hx (by rw [show j + 1 + (k - j - 1) = k by omega]; exact List.getElem?_eq_getElem hk)
  · rcases Nat.eq_or_lt_of_le hj with e | e
    · subst e
      rw [List.getElem?_eq_getElem hk] at hx
      obtain rfl := Option.some.inj hx
      exact ltS_irrefl _
    · have h1 := asc_lt ha (j - k - 1) k _ x (List.getElem?_eq_getElem hk) (by rw [show k + 1 + (j - k - 1) = j by omega]; exact hx)
      cases hq : ltS x l[k]
      · rfl
      · have := ltS_trans h1 hq
        rw [ltS_irrefl] at this; cases this
theorem sizeShB : (Tryz.prog.info? 86).map (·.size) = some 3 := by kernel_rfl
theorem run_fieldN (nm : ByteArray) (a1 a2 : Option Addr) (n1 c1 n2 c2 : Nat) (w : World) : (Instr.field 86 (.agg #[.string nm, .slice a1 n1 c1, .slice a2 n2 c2]) 2).run Tryz.prog w = .ok (.slice a2 n2 c2) w := by kernel_rfl
theorem run_fieldH (nm : ByteArray) (a1 a2 : Option Addr) (n1 c1 n2 c2 : Nat) (w : World) : (Instr.field 86 (.agg #[.string nm, .slice a1 n1 c1, .slice a2 n2 c2]) 1).run Tryz.prog w = .ok (.slice a1 n1 c1) w := by kernel_rfl
set_option maxRecDepth 20000 in
set_option maxHeartbeats 4000000 in
theorem sharedP_any (h : House) (x0 : Rb) (a1 a2 a3 a4 : Option Addr) (c1 c2 c3 c4 p q c g r d : Nat) (w : World) (H : BkV w (.agg #[.slice a1 h.sh.things.length c1, .slice a2 h.sh.bs.length c2]) h.sh) (hok : BookOk h.sh) (hm : x0.nm ∈ nms h.sh.bs) :
    Calls Tryz.prog 63 #[.agg #[.int .i64 h.now, .int .i64 h.last, .slice a1 h.sh.things.length c1, .slice a2 h.sh.bs.length c2, .slice a3 h.bs.length c3, .slice a4 h.ds.length c4], .agg #[.string x0.nm, .slice (some ⟨p, q, none⟩) x0.ps.length c, .slice (some ⟨g, r, none⟩) x0.sl.length d, .string x0.ad, .int .i64 x0.si, .int .i64 x0.st]] w fun e w' => (∃ b1 k1 b2 k2, e = .returned (.agg #[.string (shOf h.sh x0.nm).nm, .slice b1 (shOf h.sh x0.nm).has.length k1, .slice b2 (shOf h.sh x0.nm).needs.length k2]) ∧ Ls w' (.slice b1 (shOf h.sh x0.nm).has.length k1) (shOf h.sh x0.nm).has ∧ Ls w' (.slice b2 (shOf h.sh x0.nm).needs.length k2) (shOf h.sh x0.nm).needs) ∧ Below w.heap.size w w' := by
  obtain ⟨k, hk, hkn⟩ := mem_at hm
  have ha := hok.2.2.2.1
  have hsh := shOf_at ha hk hkn
  have hlow : lowN (nms h.sh.bs) x0.nm = k := lowN_here ha (by rw [nms_length]; exact hk) (by rw [nms_get _ _ hk]; exact hkn)
  have hfind := fun W (hB : Below w.heap.size w W) => find_any h.sh _ x0.nm W (H.up hB) hok
  rw [hlow] at hfind
  rw [hsh]
  have hb5 : h.sh.bs.length ≤ 5 := hok.2.1
  obtain ⟨tv', bv', hag, -, a', c', hbv, -, hpos⟩ := H
  simp only [Value.agg.injEq, Array.mk.injEq, List.cons.injEq] at hag
  obtain ⟨-, rfl, -⟩ := hag
  simp only [Value.slice.injEq] at hbv
  obtain ⟨rfl, -, rfl⟩ := hbv
  obtain ⟨bb, oo, rfl, hS, hbb⟩ := hpos (by omega)
  have Hf : Hid (∀ W, Below w.heap.size w W → Calls Tryz.prog 95 #[.agg #[.slice a1 h.sh.things.length c1, .slice (some ⟨bb, oo, none⟩) h.sh.bs.length c2], .string x0.nm] W fun e w' => e = .returned (.tuple #[.int .i64 (k : Int), .bool (memS (nms h.sh.bs) x0.nm)]) ∧ Below W.heap.size W w') := hfind
  clear hfind hlow hsh hkn hm ha hok hpos
  go_enter Tryz.func63, Tryz.ntmps63
  go_upto_region 1 with fail
  obtain ⟨W1, hW1, kP, kR, kO, hB1, hs1⟩ : ∃ W1, ((w.alloc (.cells #[.int .i64 h.now, .int .i64 h.last, .slice a1 h.sh.things.length c1, .slice (some ⟨bb, oo, none⟩) h.sh.bs.length c2, .slice a3 h.bs.length c3, .slice a4 h.ds.length c4] 38)).alloc (.cells #[.string x0.nm, .slice (some ⟨p, q, none⟩) x0.ps.length c, .slice (some ⟨g, r, none⟩) x0.sl.length d, .string x0.ad, .int .i64 x0.si, .int .i64 x0.st] 51)).alloc (.cells #[.string ⟨#[]⟩, .slice none 0 0, .slice none 0 0] 86) = W1 ∧ CB W1 w.heap.size [.int .i64 h.now, .int .i64 h.last, .slice a1 h.sh.things.length c1, .slice (some ⟨bb, oo, none⟩) h.sh.bs.length c2, .slice a3 h.bs.length c3, .slice a4 h.ds.length c4] ∧ CB W1 (w.heap.size + 1) [.string x0.nm, .slice (some ⟨p, q, none⟩) x0.ps.length c, .slice (some ⟨g, r, none⟩) x0.sl.length d, .string x0.ad, .int .i64 x0.si, .int .i64 x0.st] ∧ CB W1 (w.heap.size + 2) [.string ⟨#[]⟩, .slice none 0 0, .slice none 0 0] ∧ Below w.heap.size w W1 ∧ W1.heap.size = w.heap.size + 3 := ⟨_, rfl, cb3 w [.int .i64 h.now, .int .i64 h.last, .slice a1 h.sh.things.length c1, .slice (some ⟨bb, oo, none⟩) h.sh.bs.length c2, .slice a3 h.bs.length c3, .slice a4 h.ds.length c4] [.string x0.nm, .slice (some ⟨p, q, none⟩) x0.ps.length c, .slice (some ⟨g, r, none⟩) x0.sl.length d, .string x0.ad, .int .i64 x0.si, .int .i64 x0.st] [.string ⟨#[]⟩, .slice none 0 0, .slice none 0 0] _ _ _⟩
  rw [hW1]
  clear hW1
  obtain ⟨d0, d1, d2, d3, d4, d5⟩ := kP.c6
  obtain ⟨e0, -⟩ := kR.c6
  go_wp2_with fail
  refine (Hf.out _ hB1).mono ?_
  rintro e w2 ⟨rfl, hB2⟩
  have hz2 := hB2.size
  have hB12 := up_trans hB1 hB2
  clear d0 d1 d2 d3 d4 d5 e0
  obtain ⟨d0, d1, d2, d3, d4, d5⟩ := (kP.up hB2 (by omega)).c6
  have kO2 := kO.up hB2 (by omega)
  obtain ⟨⟨o0, o1, o2⟩, f0, f1, f2⟩ := kO2.c3
  obtain ⟨ah, dh, an, dn, s0, s1, s2, l1, l2, -⟩ := (hS.at hk).cells
  have t0 := (hB12.cell (p := ⟨bb, oo + k * 3, none⟩) hbb).trans s0
  have t1 := (hB12.cell (p := ⟨bb, oo + k * 3 + 1, none⟩) hbb).trans s1
  have t2 := (hB12.cell (p := ⟨bb, oo + k * 3 + 2, none⟩) hbb).trans s2
  clear s0 s1 s2
  go_wp2_with fail
  refine end_cb3 Tryz.results63 Tryz.underlying86 rfl sizeShB kO2 rfl ?_
  have hg := below_set3 hB12 (b := w.heap.size + 2) (by omega) (.string (h.sh.bs[k]).nm) (.slice ah (h.sh.bs[k]).has.length dh) (.slice an (h.sh.bs[k]).needs.length dn)
  exact ⟨⟨ah, dh, an, dn, rfl, l1.up hg, l2.up hg⟩, hg⟩

theorem going_wait (nm ad : ByteArray) (a1 a2 : Option Addr) (n1 n2 c1 c2 : Nat) (st : Int) (w : World) :
    Calls Tryz.prog 65 #[.agg #[.string nm, .slice a1 n1 c1, .slice a2 n2 c2, .string ad, .int .i64 (-1), .int .i64 st]] w fun e w' => e = .returned (.tuple #[.int .i64 0, .bool false]) ∧ Below w.heap.size w w' := by
  have ta : ∀ w, (Instr.typeAssert (.iface 177 (.agg #[])) 127 136 true).run Tryz.prog w = .ok (.tuple #[.agg #[.int .i64 0], .bool false]) w := fun _ => by kernel_rfl
  have hB0 := (Below.refl w.heap.size w).alloc (Nat.le_refl _) (.cells #[.string nm, .slice a1 n1 c1, .slice a2 n2 c2, .string ad, .int .i64 (-1), .int .i64 st] 51)
  go_enter Tryz.func65, Tryz.ntmps65
  go_wp2_with fail
  refine (stand_wait _ _ _ _ _ _ _ _ _ _).mono ?_
  rintro e w1 ⟨rfl, hB1⟩
  have hB01 := up_trans hB0 hB1
  go_wp2_with fail
  go_returns
  exact ⟨rfl, hB01.alloc hB01.size _⟩
theorem going_go (nm ad : ByteArray) (a1 a2 : Option Addr) (n1 n2 c1 c2 : Nat) (si st : Int) (w : World) (h : ¬ si = -1) :
    Calls Tryz.prog 65 #[.agg #[.string nm, .slice a1 n1 c1, .slice a2 n2 c2, .string ad, .int .i64 si, .int .i64 st]] w fun e w' => e = .returned (.tuple #[.int .i64 si, .bool true]) ∧ Below w.heap.size w w' := by
  have ta : ∀ w, (Instr.typeAssert (.iface 136 (.agg #[.int .i64 si])) 127 136 true).run Tryz.prog w = .ok (.tuple #[.agg #[.int .i64 si], .bool true]) w := fun _ => by kernel_rfl
  have hB0 := (Below.refl w.heap.size w).alloc (Nat.le_refl _) (.cells #[.string nm, .slice a1 n1 c1, .slice a2 n2 c2, .string ad, .int .i64 si, .int .i64 st] 51)
  have H : Hid (¬ si = -1) := h
  clear h
  go_enter Tryz.func65, Tryz.ntmps65
  go_wp2_with fail
  refine (stand_go _ _ _ _ _ _ _ _ _ _ _ H.out).mono ?_
  rintro e w1 ⟨rfl, hB1⟩
  have hB01 := up_trans hB0 hB1
  go_wp2_with fail
  go_returns
  exact ⟨rfl, hB01.alloc hB01.size _⟩
end Go.Proofs.YtlkpgiifdclijaaGreatDoor
