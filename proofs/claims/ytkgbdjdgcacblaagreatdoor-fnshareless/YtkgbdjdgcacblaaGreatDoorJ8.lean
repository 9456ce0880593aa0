/- A name put into an ascending list: plain facts, and what is at hand while lists are joined. -/
import Derived.Test.YtkgbdjdgcacblaaGreatDoorJ0
import Derived.Test.YtkgbdjdgcacblaaGreatDoorJ4
import Derived.Test.YtkgbdjdgcacblaaGreatDoorJ1
import Derived.Test.YtkgbdjdgcacblaaGreatDoorKr5
namespace Go.Proofs.YtkgbdjdgcacblaaGreatDoor
open Go.RowKit

def lessB (a b : ByteArray) : Bool := Op.bytesLess a.toList b.toList
def sameB (a b : ByteArray) : Bool := a.toList == b.toList
/-- A name put into an ascending list. -/
def insL : List ByteArray → ByteArray → List ByteArray
  | [], x => [x]
  | y :: r, x => if lessB y x = true then y :: insL r x else if sameB y x = true then y :: r else x :: y :: r
/-- The first k are less. -/
def lowL (ss : List ByteArray) (x : ByteArray) (k : Nat) : Prop := ∀ (j : Nat) (s : ByteArray), j < k → ss[j]? = some s → lessB s x = true
theorem lowL_succ {ss : List ByteArray} {x : ByteArray} {k : Nat} (h : lowL ss x k) (hk : k < ss.length) (hl : lessB (ss[k]) x = true) : lowL ss x (k + 1) := fun j s hj hs => by
  rcases Nat.lt_or_ge j k with h' | h'
  · exact h j s h' hs
  · obtain rfl : j = k := by omega
    obtain ⟨_, rfl⟩ := List.getElem?_eq_some_iff.1 hs
    exact hl
theorem insL_new : ∀ (ss : List ByteArray) (x : ByteArray) (k : Nat), lowL ss x k → k ≤ ss.length → (∀ s, ss[k]? = some s → lessB s x = false ∧ sameB s x = false) → insL ss x = ss.take k ++ x :: ss.drop k
  | [], x, 0, _, _, _ => rfl
  | [], x, k + 1, _, h, _ => by simp at h
  | y :: r, x, 0, _, _, h => by
    obtain ⟨h1, h2⟩ := h y rfl
    rw [insL, h1, h2]; rfl
  | y :: r, x, k + 1, hl, hk, h => by
    have h0 := hl 0 y (by omega) rfl
    rw [insL, if_pos h0, insL_new r x k (fun j s hj hs => hl (j + 1) s (by omega) (by simpa using hs)) (by simpa using hk) (fun s hs => h s (by simpa using hs))]
    rfl
theorem insL_old : ∀ (ss : List ByteArray) (x : ByteArray) (k : Nat), lowL ss x k → (∃ s, ss[k]? = some s ∧ lessB s x = false ∧ sameB s x = true) → insL ss x = ss
  | [], x, k, _, ⟨s, hs, _⟩ => by simp at hs
  | y :: r, x, 0, _, ⟨s, hs, h1, h2⟩ => by
    obtain rfl : y = s := by simpa using hs
    rw [insL, h1, h2]; rfl
  | y :: r, x, k + 1, hl, ⟨s, hs, h1, h2⟩ => by
    have h0 := hl 0 y (by omega) rfl
    rw [insL, if_pos h0, insL_old r x k (fun j s hj hs => hl (j + 1) s (by omega) (by simpa using hs)) ⟨s, by simpa using hs, h1, h2⟩]
theorem insL_len (ss : List ByteArray) (x : ByteArray) : (insL ss x).length ≤ ss.length + 1 := by
  induction ss with
  | nil => simp [insL]
  | cons y r ih =>
    rw [insL]
    split
    · simp; omega
    · split <;> simp

/-- What is at hand while names are joined. -/
def Ow (w W : World) (g : Nat) (ss : List ByteArray) (v : Value) (n : Nat) (xs : List Value) : Prop := W.ownsRow w.heap.size 9 1 v n xs ∧ StrsAt W g 0 ss ∧ Below w.heap.size w W
theorem Ow.grow {w W W' : World} {g n n' : Nat} {ss : List ByteArray} {v v' : Value} {xs ys : List Value} (h : Ow w W g ss v n xs) (hg : g < w.heap.size) (hgr : W.grownBy W' v.ownBlock) (ho : W'.ownsRow w.heap.size 9 1 v' n' ys) : Ow w W' g ss v' n' ys :=
  ⟨ho, h.2.1.own h.1 hgr hg, below_own h.2.2 h.1 hgr (Nat.le_refl _)⟩
theorem Ow.alloc {w W : World} {g n : Nat} {ss : List ByteArray} {v : Value} {xs : List Value} (h : Ow w W g ss v n xs) (o : Obj) : Ow w (W.alloc o) g ss v n xs :=
  ⟨h.1.alloc o, h.2.1.alloc o, h.2.2.alloc h.2.2.size o⟩
theorem Ow.drew {w W : World} {g n : Nat} {ss : List ByteArray} {v : Value} {xs : List Value} (h : Ow w W g ss v n xs) : Ow w W.drew g ss v n xs := ⟨h.1, h.2.1, h.2.2.drew⟩
theorem ow_lit {w W : World} {g : Nat} {ss : List ByteArray} (hS : StrsAt W g 0 ss) (hB : Below w.heap.size w W) : Ow w (W.alloc (.cells #[] 9)) g ss (.slice (some ⟨W.heap.size, 0, none⟩) 0 0) 0 [] :=
  ⟨World.ownsRow_lit W #[] 0 hB.size (Nat.zero_le _) rfl, hS.alloc _, hB.alloc hB.size _⟩
theorem strs_drop {W : World} {g o2 k c : Nat} {ss : List ByteArray} (h : StrsAt W g 0 ss) (ho : (if c = k then some (⟨g, 0, none⟩ : Addr) else some ⟨g, k, none⟩) = some ⟨g, o2, none⟩) (hc : ss.length ≤ c) : StrsAt W g o2 (ss.drop k) := by
  by_cases h7 : c = k
  · intro i s hs
    have := (List.getElem?_eq_some_iff.1 hs).1; simp at this; omega
  · rw [if_neg h7] at ho
    obtain rfl : k = o2 := by simpa using ho
    have := h.drop k
    simpa using this
end Go.Proofs.YtkgbdjdgcacblaaGreatDoor

/- Books that change, in plain: needing less, asking. -/
namespace Go.Proofs.YtkgbdjdgcacblaaGreatDoor

/-- One batch is changed. -/
def chg (b : Bk) (p : Nat) (f : Ba → Ba) : Bk := match b.bs[p]? with
  | some x => ⟨b.things, b.bs.set p (f x)⟩
  | none => b
theorem chg_at {b : Bk} {p : Nat} {f : Ba → Ba} {x : Ba} (h : b.bs[p]? = some x) : chg b p f = ⟨b.things, b.bs.set p (f x)⟩ := by simp [chg, h]
def needsAt (b : Bk) (nm : ByteArray) : List ByteArray := ((b.bs[plN b nm]?).map (·.needs)).getD []
theorem needsAt_at {b : Bk} {nm : ByteArray} {x : Ba} (h : b.bs[plN b nm]? = some x) : needsAt b nm = x.needs := by simp [needsAt, h]
def lessF (needs : List ByteArray) (x : Ba) : Ba := ⟨x.nm, x.has.filter (memS needs), needs⟩
def insAll (has things : List ByteArray) : List ByteArray := things.foldl insL has
def askF (things : List ByteArray) (x : Ba) : Ba := ⟨x.nm, insAll x.has things, x.needs⟩
theorem insAll_take (has things : List ByteArray) (k : Nat) (hk : k < things.length) : insAll has (things.take (k + 1)) = insL (insAll has (things.take k)) things[k] := by
  unfold insAll; rw [List.take_succ_eq_append_getElem hk, List.foldl_append]; rfl
theorem insAll_len (has : List ByteArray) : ∀ things : List ByteArray, (insAll has things).length ≤ has.length + things.length := by
  intro things
  induction things generalizing has with
  | nil => simp [insAll]
  | cons x r ih =>
    have h1 := ih (insL has x)
    have h2 := insL_len has x
    simp only [insAll, List.foldl_cons, List.length_cons] at *
    omega
theorem insL_mem (ss : List ByteArray) (x : ByteArray) : ∀ s ∈ insL ss x, s ∈ ss ∨ s = x := by
  induction ss with
  | nil => intro s hs; simp [insL] at hs; exact .inr hs
  | cons y r ih =>
    intro s hs
    simp only [insL] at hs
    split at hs
    · rcases List.mem_cons.1 hs with h | h
      · exact .inl (by simp [h])
      · rcases ih s h with h | h
        · exact .inl (by simp [h])
        · exact .inr h
    · split at hs
      · exact .inl hs
      · rcases List.mem_cons.1 hs with h | h
        · exact .inr h
        · exact .inl h
theorem insAll_mem (has : List ByteArray) : ∀ things : List ByteArray, ∀ s ∈ insAll has things, s ∈ has ∨ s ∈ things := by
  intro things
  induction things generalizing has with
  | nil => intro s hs; exact .inl hs
  | cons x r ih =>
    intro s hs
    rcases ih (insL has x) s hs with h | h
    · rcases insL_mem has x s h with h | h
      · exact .inl h
      · exact .inr (by simp [h])
    · exact .inr (by simp [h])
noncomputable def lsnC (b : Bk) (nm : ByteArray) (needs : List ByteArray) : Int :=
  if bookB b = false then 1 else if memS (nms b.bs) nm = false then 3 else if pB (PartOk needs (needsAt b nm)) = false then 2 else 0
noncomputable def lsnB (b : Bk) (nm : ByteArray) (needs : List ByteArray) : Bk :=
  if bookB b = false then nobody else if lsnC b nm needs = 0 then chg b (plN b nm) (lessF needs) else b
theorem less_no {b : Bk} {nm : ByteArray} {needs : List ByteArray} (h : bookB b = false) : lsnC b nm needs = 1 ∧ lsnB b nm needs = nobody := by simp [lsnC, lsnB, h]
theorem less_none {b : Bk} {nm : ByteArray} {needs : List ByteArray} (h : bookB b = true) (hm : memS (nms b.bs) nm = false) : lsnC b nm needs = 3 ∧ lsnB b nm needs = b := by simp [lsnC, lsnB, h, hm]
theorem less_two {b : Bk} {nm : ByteArray} {needs : List ByteArray} (h : bookB b = true) (hm : memS (nms b.bs) nm = true) (hp : pB (PartOk needs (needsAt b nm)) = false) : lsnC b nm needs = 2 ∧ lsnB b nm needs = b := by simp [lsnC, lsnB, h, hm, hp]
theorem less_yes {b : Bk} {nm : ByteArray} {needs : List ByteArray} (h : bookB b = true) (hm : memS (nms b.bs) nm = true) (hp : pB (PartOk needs (needsAt b nm)) = true) : lsnC b nm needs = 0 ∧ lsnB b nm needs = chg b (plN b nm) (lessF needs) := by
  have hc : lsnC b nm needs = 0 := by simp [lsnC, h, hm, hp]
  exact ⟨hc, by rw [lsnB, h, if_neg (by simp), if_pos hc]⟩
theorem filter_take {ss : List ByteArray} {f : ByteArray → Bool} {k : Nat} (hk : k < ss.length) : (ss.take (k + 1)).filter f = (ss.take k).filter f ++ (if f ss[k] = true then [ss[k]] else []) := by
  rw [List.take_succ_eq_append_getElem hk, List.filter_append]
  congr 1
  by_cases h : f ss[k] = true
  · simp [h]
  · simp [h]
end Go.Proofs.YtkgbdjdgcacblaaGreatDoor

/- The program's chapter 13: looking for a name. -/
namespace Go.Proofs.YtkgbdjdgcacblaaGreatDoor
open Go.RowKit

/-- Where a name is, or would come in. -/
def lowN (ss : List ByteArray) (s : ByteArray) : Nat := (ss.takeWhile fun x => ltS x s).length
def LowTo (ss : List ByteArray) (s : ByteArray) (i : Nat) : Prop := ∀ (k : Nat) (x : ByteArray), k < i → ss[k]? = some x → ltS x s = true
def HighFrom (ss : List ByteArray) (s : ByteArray) (j : Nat) : Prop := ∀ (k : Nat) (x : ByteArray), j ≤ k → ss[k]? = some x → ltS x s = false
theorem lowN_at {ss : List ByteArray} {s : ByteArray} {i : Nat} (hi : i ≤ ss.length) (hl : LowTo ss s i) (hh : HighFrom ss s i) : lowN ss s = i :=
  tw_len _ _ _ hi hl (fun x hx => hh i x (Nat.le_refl _) hx)
theorem low_step {ss : List ByteArray} {s : ByteArray} {i h : Nat} (ha : Asc ss) (_ : LowTo ss s i) (hh : h < ss.length) (hs : ltS ss[h] s = true) : LowTo ss s (h + 1) := fun k x hk hx => by
  by_cases e : k = h
  · subst e
    rw [List.getElem?_eq_getElem hh] at hx
    obtain rfl := Option.some.inj hx
    exact hs
  · exact ltS_trans (asc_lt ha (h - k - 1) k x _ hx (by rw [show k + 1 + (h - k - 1) = h by omega]; exact List.getElem?_eq_getElem hh)) hs
theorem high_step {ss : List ByteArray} {s : ByteArray} {h : Nat} (ha : Asc ss) (hh : h < ss.length) (hs : ltS ss[h] s = false) : HighFrom ss s h := fun k x hk hx => by
  by_cases e : k = h
  · subst e
    rw [List.getElem?_eq_getElem hh] at hx
    obtain rfl := Option.some.inj hx
    exact hs
  · cases hq : ltS x s
    · rfl
    · have := ltS_trans (asc_lt ha (k - h - 1) h _ x (List.getElem?_eq_getElem hh) (by rw [show h + 1 + (k - h - 1) = k by omega]; exact hx)) hq
      rw [hs] at this; cases this
/-- It is there just if it is at that place. -/
theorem low_mem {ss : List ByteArray} {s : ByteArray} {i : Nat} (hl : LowTo ss s i) (hh : HighFrom ss s i) (ha : Asc ss) (hi : i < ss.length) : memS ss s = ((ss[i]).toList == s.toList) := by
  cases hq : ((ss[i]).toList == s.toList)
  · rw [memS_no]
    intro hm
    obtain ⟨k, hk, rfl⟩ := List.getElem_of_mem hm
    rcases Nat.lt_trichotomy k i with h1 | h1 | h1
    · have := hl k _ h1 (List.getElem?_eq_getElem hk)
      rw [ltS_irrefl] at this; cases this
    · subst h1; simp at hq
    · have h2 := asc_lt ha (k - i - 1) i _ _ (List.getElem?_eq_getElem hi) (by rw [show i + 1 + (k - i - 1) = k by omega]; exact List.getElem?_eq_getElem hk)
      have h3 := hh i _ (Nat.le_refl _) (List.getElem?_eq_getElem hi)
      rw [h2] at h3; cases h3
  · exact memS_found hi hq
theorem low_none {ss : List ByteArray} {s : ByteArray} {i : Nat} (hl : LowTo ss s i) (hi : ¬ i < ss.length) : memS ss s = false := by
  rw [memS_no]
  intro hm
  obtain ⟨k, hk, rfl⟩ := List.getElem_of_mem hm
  have := hl k _ (by omega) (List.getElem?_eq_getElem hk)
  rw [ltS_irrefl] at this; cases this
theorem isNaN_any (s : ByteArray) (w : World) : Calls Tryz.prog 85 #[.string s] w fun e w' => e = .returned (.bool false) ∧ w' = w := by
  go_enter Tryz.func85, Tryz.ntmps85
  go_wp2
  go_ret
  exact ⟨rfl, rfl⟩
theorem cmpNaN_any (s : ByteArray) (w : World) : Calls Tryz.prog 91 #[.string s] w fun e w' => e = .returned (.bool false) ∧ w' = w := by
  go_enter Tryz.func91, Tryz.ntmps91
  go_wp2
  go_ret
  exact ⟨rfl, rfl⟩
theorem cmpLess_any (a b : ByteArray) (w : World) : Calls Tryz.prog 84 #[.string a, .string b] w fun e w' => e = .returned (.bool (ltS a b)) ∧ w' = w := by
  have Hl : Hid (ltS a b = Op.bytesLess a.toList b.toList) := rfl
  go_enter Tryz.func84, Tryz.ntmps84
  go_wp2_with (go_at_call 91; refine (cmpNaN_any _ _).mono ?_; rintro e w' ⟨rfl, hw⟩; obtain rfl := hw.symm; clear hw)
  go_ret
  exact ⟨ret_bool Hl.out.symm, rfl⟩
theorem ret_find {i j : Nat} {a b : Bool} (h1 : i = j) (h2 : a = b) : Ending.returned (.tuple #[.int .i64 (i : Int), .bool a]) = .returned (.tuple #[.int .i64 (j : Int), .bool b]) := by rw [h1, h2]
set_option maxRecDepth 20000 in
set_option maxHeartbeats 2000000 in
theorem bsearch_any (ss : List ByteArray) (v : Value) (s : ByteArray) (w : World) (h : Ls w v ss) (ha : Asc ss) (hn : ss.length ≤ 1000) :
    Calls Tryz.prog 74 #[v, .string s] w fun e w' => e = .returned (.tuple #[.int .i64 (lowN ss s : Int), .bool (memS ss s)]) ∧ w' = w := by
  obtain ⟨a, c, rfl, -, -, hpos⟩ := h
  have Ha : Hid (Asc ss) := ha
  clear ha
  go_enter Tryz.func74, Tryz.ntmps74
  go_wp2_with fail
  go_loopw [7, 8, 9] (fun vi vj _ w' => ∃ i j : Nat, i ≤ j ∧ j ≤ ss.length ∧ vi = .int .i64 i ∧ vj = .int .i64 j ∧ LowTo ss s i ∧ HighFrom ss s j ∧ w' = w) (fun vi vj _ _ => (intOf vj).toNat - (intOf vi).toNat)
  case atStart => exact ⟨0, ss.length, by omega, by omega, rfl, rfl, fun k x hk => by omega, fun k x hk hx => by have := (List.getElem?_eq_some_iff.1 hx).1; omega, rfl⟩
  case round =>
    obtain ⟨i, j, hij, hjn, rfl, rfl, hlo, hhi, hw⟩ := hrel
    obtain rfl := hw.symm
    clear hw
    have HL : Hid (LowTo ss s i) := hlo
    have HH : Hid (HighFrom ss s j) := hhi
    clear hlo hhi
    by_cases hp : i < j
    · have hp' : (i : Int) < (j : Int) := by omega
      obtain ⟨b, o, rfl, hS, hb⟩ := hpos (by omega)
      have hm : (i + j) / 2 < ss.length := by omega
      have c0 := hS.cell hm
      have HY : Hid (ltS ss[(i + j) / 2] s = true → LowTo ss s ((i + j) / 2 + 1)) := fun hq => low_step Ha.out HL.out hm hq
      have HN : Hid (ltS ss[(i + j) / 2] s = false → HighFrom ss s ((i + j) / 2)) := fun hq => high_step Ha.out hm hq
      generalize ss[(i + j) / 2] = s0 at *
      obtain ⟨m, hmm, hm1, hm2⟩ : ∃ m : Nat, (i + j) / 2 = m ∧ i ≤ m ∧ m < j := ⟨_, rfl, by omega, by omega⟩
      rw [hmm] at c0 HY HN
      have hI : ((i : Int) + (j : Int)) / 2 = (m : Int) := by omega
      have hml : m < ss.length := by omega
      go_upto_region 5 with fail
      try rw [hI]
      clear hI hmm hm
      go_wp2_with fail
      refine (cmpLess_any s0 s _).mono ?_
      rintro e w' ⟨rfl, hw⟩
      obtain rfl := hw.symm
      clear hw
      cases hq : ltS s0 s
      · have Hq : Hid (HighFrom ss s m) := HN.out hq
        go_wp2_with fail
        go_roundw
        case rel => exact ⟨i, m, by omega, by omega, rfl, rfl, HL.out, Hq.out, by first | rfl | trivial⟩
        case measure => simp [intOf]; omega
      · have Hq : Hid (LowTo ss s (m + 1)) := HY.out hq
        go_wp2_with fail
        go_roundw
        case rel => exact ⟨m + 1, j, by omega, by omega, by go_num, rfl, Hq.out, HH.out, by first | rfl | trivial⟩
        case measure => simp [intOf]; omega
    · obtain rfl : i = j := by omega
      have hp' : ¬ (i : Int) < (i : Int) := by omega
      have HI : Hid (lowN ss s = i) := lowN_at hjn HL.out HH.out
      by_cases he : i < ss.length
      · have he' : (i : Int) < (ss.length : Int) := by omega
        obtain ⟨b, o, rfl, hS, hb⟩ := hpos (by omega)
        have c0 := hS.cell he
        have HM : Hid (memS ss s = ((ss[i]).toList == s.toList)) := low_mem HL.out HH.out Ha.out he
        generalize ss[i] = s0 at *
        cases hq : (s0.toList == s.toList)
        · have Hm : Hid (memS ss s = false) := by show _ = _; rw [HM.out, hq]
          go_wp2_with (go_at_call 85; refine (isNaN_any _ _).mono ?_; rintro e w' ⟨rfl, hw⟩; obtain rfl := hw.symm; clear hw)
          go_returns
          exact ⟨ret_find HI.out.symm Hm.out.symm, rfl⟩
        · have Hm : Hid (memS ss s = true) := by show _ = _; rw [HM.out, hq]
          go_wp2_with fail
          go_returns
          exact ⟨ret_find HI.out.symm Hm.out.symm, rfl⟩
      · have he' : ¬ (i : Int) < (ss.length : Int) := by omega
        have Hm : Hid (memS ss s = false) := low_none HL.out he
        go_wp2_with fail
        go_returns
        exact ⟨ret_find HI.out.symm Hm.out.symm, rfl⟩
/-- The place of the batch of a name, or where it would come in. -/
theorem find_any (b : Bk) (v : Value) (nm : ByteArray) (w : World) (h : BkV w v b) (hok : BookOk b) :
    Calls Tryz.prog 60 #[v, .string nm] w fun e w' => e = .returned (.tuple #[.int .i64 (lowN (nms b.bs) nm : Int), .bool (memS (nms b.bs) nm)]) ∧ Below w.heap.size w w' := by
  obtain ⟨a1, c1, a2, c2, rfl, -, h2⟩ := h.parts
  obtain ⟨W1, hW1, kA, hB1, hs1⟩ : ∃ W1, w.alloc (.cells #[.slice a1 (b).things.length c1, .slice a2 (b).bs.length c2] 26) = W1 ∧ CB W1 w.heap.size [.slice a1 b.things.length c1, .slice a2 b.bs.length c2] ∧ Below w.heap.size w W1 ∧ W1.heap.size = w.heap.size + 1 := ⟨_, rfl, cb1 w _ _⟩
  have hn5 : b.bs.length ≤ 5 := hok.2.1
  have Ha : Hid (Asc (nms b.bs)) := hok.2.2.2.1
  go_enter Tryz.func60, Tryz.ntmps60
  go_upto_region 1 with fail
  try rw [hW1]
  clear hW1 hs1
  obtain ⟨e0, e1⟩ := kA.c2'
  go_wp2_with fail
  refine (batchNames_any b.bs _ _ (h2.up hB1) (by omega)).mono ?_
  rintro e w2 ⟨⟨u, rfl, -, hl⟩, hb2⟩
  obtain ⟨ax, cx, rfl, -⟩ := id hl
  have hB2 := up_trans hB1 hb2
  clear e0 e1
  go_wp2_with fail
  refine (bsearch_any (nms b.bs) _ nm _ hl Ha.out (by rw [nms_length]; omega)).mono ?_
  rintro e w3 ⟨rfl, hw⟩
  obtain rfl := hw.symm
  go_wp2_with fail
  go_returns
  exact ⟨rfl, hB2⟩
end Go.Proofs.YtkgbdjdgcacblaaGreatDoor

/- The program's chapter 13: who asks; whether a list is of what they need. -/
namespace Go.Proofs.YtkgbdjdgcacblaaGreatDoor
open Go.RowKit

theorem low_pl {b : Bk} {nm : ByteArray} (ha : Asc (nms b.bs)) (hm : memS (nms b.bs) nm = true) : lowN (nms b.bs) nm = plN b nm := by
  obtain ⟨hi, hlt⟩ := plN_lt hm
  obtain ⟨k, hk, hkl, hkn⟩ := idxI_at (l := nms b.bs) (s := nm) (by omega)
  obtain rfl : plN b nm = k := by omega
  refine lowN_at (Nat.le_of_lt hkl) (fun j x hj hx => ?_) (fun j x hj hx => ?_)
  · exact asc_lt ha (plN b nm - j - 1) j x nm hx (by rw [show j + 1 + (plN b nm - j - 1) = plN b nm by omega, List.getElem?_eq_getElem hkl, hkn])
  · by_cases e : j = plN b nm
    · subst e
      rw [List.getElem?_eq_getElem hkl, hkn] at hx
      obtain rfl := Option.some.inj hx
      exact ltS_irrefl _
    · have h1 := asc_lt ha (j - plN b nm - 1) (plN b nm) nm x (by rw [List.getElem?_eq_getElem hkl, hkn]) (by rw [show plN b nm + 1 + (j - plN b nm - 1) = j by omega]; exact hx)
      cases hq : ltS x nm
      · rfl
      · have := ltS_trans h1 hq
        rw [ltS_irrefl] at this; cases this
/-- A refusal with its code, or none. -/
def refV (c : Int) : Value := if c = 0 then .nilIface else .iface 70 (.agg #[.int .i64 c])
theorem refV_zero : refV 0 = .nilIface := rfl
theorem refV_some {c : Int} (h : c ≠ 0) : refV c = .iface 70 (.agg #[.int .i64 c]) := by simp [refV, h]
noncomputable def ofC (b : Bk) (nm : ByteArray) (ls : List ByteArray) : Int := if memS (nms b.bs) nm = false then 3 else if pB (PartOk ls (needsAt b nm)) = false then 2 else 0
theorem of_none {b : Bk} {nm : ByteArray} {ls : List ByteArray} (hm : memS (nms b.bs) nm = false) : ofC b nm ls = 3 := by simp [ofC, hm]
theorem of_two {b : Bk} {nm : ByteArray} {ls : List ByteArray} (hm : memS (nms b.bs) nm = true) (hp : pB (PartOk ls (needsAt b nm)) = false) : ofC b nm ls = 2 := by simp [ofC, hm, hp]
theorem of_yes {b : Bk} {nm : ByteArray} {ls : List ByteArray} (hm : memS (nms b.bs) nm = true) (hp : pB (PartOk ls (needsAt b nm)) = true) : ofC b nm ls = 0 := by simp [ofC, hm, hp]
theorem part_nil (all : List ByteArray) : pB (PartOk [] all) = true := pB_yes ⟨fun i x hi hx => by simp at hx, fun i a b hi ha => by simp at ha⟩
theorem ret_ref {v : Value} {c : Int} (h : refV c = v) : Ending.returned v = .returned (refV c) := by rw [h]
theorem asker_any (nm : ByteArray) (w : World) : Calls Tryz.prog 112 #[.agg #[.string nm]] w fun e w' => e = .returned (.string nm) ∧ Below w.heap.size w w' := by
  go_enter Tryz.func112, Tryz.ntmps112
  go_wp2
  go_ret
  exact ⟨rfl, by go_grown⟩
set_option maxRecDepth 20000 in
set_option maxHeartbeats 2000000 in
theorem ofNeeds_any (b : Bk) (v : Value) (nm : ByteArray) (lv : Value) (ls : List ByteArray) (w : World) (h : BkV w v b) (hok : BookOk b) (hl : Ls w lv ls) :
    Calls Tryz.prog 114 #[v, .string nm, lv] w fun e w' => e = .returned (refV (ofC b nm ls)) ∧ Below w.heap.size w w' := by
  obtain ⟨a1, c1, a2, c2, rfl, -, h2⟩ := h.parts
  obtain ⟨la, lc, rfl, hln, -⟩ := id hl
  unfold maxLen at hln
  have hn5 : b.bs.length ≤ 5 := hok.2.1
  have hC : CB (w.alloc (.cells #[.slice a1 (b).things.length c1, .slice a2 (b).bs.length c2] 26)) w.heap.size [.slice a1 b.things.length c1, .slice a2 b.bs.length c2] := cb_alloc w _ _
  have hB0 := (Below.refl w.heap.size w).alloc (Nat.le_refl _) (.cells #[.slice a1 (b).things.length c1, .slice a2 (b).bs.length c2] 26)
  go_enter Tryz.func114, Tryz.ntmps114
  go_upto_region 1 with fail
  generalize w.alloc (.cells #[.slice a1 (b).things.length c1, .slice a2 (b).bs.length c2] 26) = W1 at *
  have hlt := hC.2.2
  have hk := h.up hB0
  obtain ⟨d0, d1⟩ := hC.c2'
  go_wp2_with fail
  refine (find_any b _ nm _ hk hok).mono ?_
  rintro e w2 ⟨rfl, hB2⟩
  have hB02 := up_trans hB0 hB2
  clear d0 d1
  cases hm : memS (nms b.bs) nm
  · have HC : Hid (refV (ofC b nm ls) = .iface 70 (.agg #[.int .i64 3])) := by show _ = _; rw [of_none hm]; rfl
    generalize lowN (nms b.bs) nm = q at *
    go_wp2_with fail
    go_ret
    exact ⟨ret_ref HC.out, hB02⟩
  obtain ⟨-, hpl⟩ := plN_lt hm
  rw [low_pl hok.2.2.2.1 hm]
  have HN : Hid (needsAt b nm = (b.bs[plN b nm]).needs) := needsAt_at (List.getElem?_eq_getElem hpl)
  have HT : Hid (pB (PartOk ls (needsAt b nm)) = false → refV (ofC b nm ls) = .iface 70 (.agg #[.int .i64 2])) := fun hp => by rw [of_two hm hp]; rfl
  have HY : Hid (pB (PartOk ls (needsAt b nm)) = true → refV (ofC b nm ls) = .nilIface) := fun hp => by rw [of_yes hm hp]; rfl
  generalize plN b nm = p at *
  obtain ⟨-, hpos⟩ := h2.at
  obtain ⟨bb, o, rfl, hS, hb⟩ := hpos (by omega)
  obtain ⟨a3, d3, a4, d4, c3, c4, c5, l3, l4, z0⟩ := ((hS.at hpl).up hB02 hb).cells
  obtain ⟨e0, e1⟩ := (hC.up hB2 hlt).c2'
  rw [HN.out] at HT HY
  have hl2 := hl.up hB02
  generalize b.bs[p] = x0 at *
  clear hm HN
  go_wp2_with fail
  refine (partOf_any ls x0.needs _ _ _ hl2 l4).mono ?_
  rintro e w3 ⟨rfl, hB3⟩
  have hB03 := up_trans hB02 hB3
  clear c3 c4 c5 e0 e1
  cases hp : pB (PartOk ls x0.needs)
  · have HC : Hid (refV (ofC b nm ls) = .iface 70 (.agg #[.int .i64 2])) := HT.out hp
    go_wp2_with fail
    go_ret
    exact ⟨ret_ref HC.out, hB03⟩
  · have HC : Hid (refV (ofC b nm ls) = .nilIface) := HY.out hp
    go_wp2_with fail
    go_ret
    exact ⟨ret_ref HC.out, hB03⟩
end Go.Proofs.YtkgbdjdgcacblaaGreatDoor

/- The program's chapter 13: what is asked, behind its interface. -/
namespace Go.Proofs.YtkgbdjdgcacblaaGreatDoor
open Go.RowKit

theorem as_whoV (n : Nat) (nm : Value) (w : World) : (Go.method (n + 1) 51 (.agg #[nm]) "loop.example/maltrun/impl.who").run Tryz.prog w = .ok (112, .agg #[nm]) w := by kernel_rfl
theorem as_whoL (n : Nat) (nm x : Value) (w : World) : (Go.method (n + 1) 40 (.agg #[nm, x]) "loop.example/maltrun/impl.who").run Tryz.prog w = .ok (112, .agg #[nm]) w := by kernel_rfl
theorem as_whoE (n : Nat) (nm x : Value) (w : World) : (Go.method (n + 1) 58 (.agg #[nm, x]) "loop.example/maltrun/impl.who").run Tryz.prog w = .ok (112, .agg #[nm]) w := by kernel_rfl
theorem as_whoA (n : Nat) (nm x : Value) (w : World) : (Go.method (n + 1) 122 (.agg #[nm, x]) "loop.example/maltrun/impl.who").run Tryz.prog w = .ok (112, .agg #[nm]) w := by kernel_rfl
theorem as_refV (n : Nat) (nm : Value) (w : World) : (Go.method (n + 1) 51 (.agg #[nm]) "loop.example/maltrun/impl.refusal").run Tryz.prog w = .ok (115, .agg #[nm]) w := by kernel_rfl
theorem as_refL (n : Nat) (nm x : Value) (w : World) : (Go.method (n + 1) 40 (.agg #[nm, x]) "loop.example/maltrun/impl.refusal").run Tryz.prog w = .ok (113, .agg #[nm, x]) w := by kernel_rfl
theorem as_refE (n : Nat) (nm x : Value) (w : World) : (Go.method (n + 1) 58 (.agg #[nm, x]) "loop.example/maltrun/impl.refusal").run Tryz.prog w = .ok (116, .agg #[nm, x]) w := by kernel_rfl
theorem as_refA (n : Nat) (nm x : Value) (w : World) : (Go.method (n + 1) 122 (.agg #[nm, x]) "loop.example/maltrun/impl.refusal").run Tryz.prog w = .ok (123, .agg #[nm, x]) w := by kernel_rfl
theorem ta_VE (v : Value) (w : World) : (Instr.typeAssert (.iface 51 v) 64 58 true).run Tryz.prog w = .ok (.tuple #[.agg #[.string ⟨#[]⟩, .slice none 0 0], .bool false]) w := by kernel_rfl
theorem ta_VA (v : Value) (w : World) : (Instr.typeAssert (.iface 51 v) 64 122 true).run Tryz.prog w = .ok (.tuple #[.agg #[.string ⟨#[]⟩, .slice none 0 0], .bool false]) w := by kernel_rfl
theorem ta_VL (v : Value) (w : World) : (Instr.typeAssert (.iface 51 v) 64 40 true).run Tryz.prog w = .ok (.tuple #[.agg #[.string ⟨#[]⟩, .slice none 0 0], .bool false]) w := by kernel_rfl
theorem ta_VV (v : Value) (w : World) : (Instr.typeAssert (.iface 51 v) 64 51 true).run Tryz.prog w = .ok (.tuple #[v, .bool true]) w := by kernel_rfl
theorem ta_LE (v : Value) (w : World) : (Instr.typeAssert (.iface 40 v) 64 58 true).run Tryz.prog w = .ok (.tuple #[.agg #[.string ⟨#[]⟩, .slice none 0 0], .bool false]) w := by kernel_rfl
theorem ta_LA (v : Value) (w : World) : (Instr.typeAssert (.iface 40 v) 64 122 true).run Tryz.prog w = .ok (.tuple #[.agg #[.string ⟨#[]⟩, .slice none 0 0], .bool false]) w := by kernel_rfl
theorem ta_LL (v : Value) (w : World) : (Instr.typeAssert (.iface 40 v) 64 40 true).run Tryz.prog w = .ok (.tuple #[v, .bool true]) w := by kernel_rfl
theorem ta_AE (v : Value) (w : World) : (Instr.typeAssert (.iface 122 v) 64 58 true).run Tryz.prog w = .ok (.tuple #[.agg #[.string ⟨#[]⟩, .slice none 0 0], .bool false]) w := by kernel_rfl
theorem ta_AA (v : Value) (w : World) : (Instr.typeAssert (.iface 122 v) 64 122 true).run Tryz.prog w = .ok (.tuple #[v, .bool true]) w := by kernel_rfl
theorem ta_EE (v : Value) (w : World) : (Instr.typeAssert (.iface 58 v) 64 58 true).run Tryz.prog w = .ok (.tuple #[v, .bool true]) w := by kernel_rfl
theorem ru_V (args : Array Value) (w : World) : (callFunc 115 args).run Tryz.prog w = .ok (.enter 115 args) w := by kernel_rfl
theorem ru_L (args : Array Value) (w : World) : (callFunc 113 args).run Tryz.prog w = .ok (.enter 113 args) w := by kernel_rfl
theorem ru_E (args : Array Value) (w : World) : (callFunc 116 args).run Tryz.prog w = .ok (.enter 116 args) w := by kernel_rfl
theorem ru_A (args : Array Value) (w : World) : (callFunc 123 args).run Tryz.prog w = .ok (.enter 123 args) w := by kernel_rfl
set_option maxRecDepth 20000 in
set_option maxHeartbeats 1000000 in
theorem leaveRef_any (b : Bk) (v : Value) (nm : ByteArray) (w : World) (h : BkV w v b) (hok : BookOk b) :
    Calls Tryz.prog 115 #[.agg #[.string nm], v] w fun e w' => e = .returned (refV (ofC b nm [])) ∧ Below w.heap.size w w' := by
  obtain ⟨a1, c1, a2, c2, rfl, -, -⟩ := h.parts
  obtain ⟨W1, hW1, kA, kB, hB1, hs1⟩ : ∃ W1, (w.alloc (.cells #[.string nm] 51)).alloc (.cells #[.slice a1 (b).things.length c1, .slice a2 (b).bs.length c2] 26) = W1 ∧ CB W1 w.heap.size [.string nm] ∧ CB W1 (w.heap.size + 1) [.slice a1 b.things.length c1, .slice a2 b.bs.length c2] ∧ Below w.heap.size w W1 ∧ W1.heap.size = w.heap.size + 2 := ⟨_, rfl, cb2 w _ _ _ _⟩
  go_enter Tryz.func115, Tryz.ntmps115
  go_upto_region 1 with fail
  try rw [hW1]
  clear hW1
  have hk := h.up hB1
  have e0 : W1.cell? ⟨w.heap.size, 0, none⟩ = some (.string nm) := kA.1 0 _ rfl
  obtain ⟨d0, d1⟩ := kB.c2'
  go_wp2_with fail
  refine (ofNeeds_any b _ nm _ [] _ hk hok (Ls.nil _ _ _)).mono ?_
  rintro e w2 ⟨rfl, hB2⟩
  clear d0 d1 e0
  go_wp2_with fail
  go_ret
  exact ⟨rfl, up_trans hB1 hB2⟩
set_option maxRecDepth 20000 in
set_option maxHeartbeats 1000000 in
theorem lessRef_any (b : Bk) (v : Value) (nm : ByteArray) (lv : Value) (ls : List ByteArray) (w : World) (h : BkV w v b) (hok : BookOk b) (hl : Ls w lv ls) :
    Calls Tryz.prog 113 #[.agg #[.string nm, lv], v] w fun e w' => e = .returned (refV (ofC b nm ls)) ∧ Below w.heap.size w w' := by
  obtain ⟨a1, c1, a2, c2, rfl, -, -⟩ := h.parts
  obtain ⟨la, lc, rfl, -⟩ := id hl
  obtain ⟨W1, hW1, kA, kB, hB1, hs1⟩ : ∃ W1, (w.alloc (.cells #[.string nm, .slice la ls.length lc] 40)).alloc (.cells #[.slice a1 (b).things.length c1, .slice a2 (b).bs.length c2] 26) = W1 ∧ CB W1 w.heap.size [.string nm, .slice la ls.length lc] ∧ CB W1 (w.heap.size + 1) [.slice a1 b.things.length c1, .slice a2 b.bs.length c2] ∧ Below w.heap.size w W1 ∧ W1.heap.size = w.heap.size + 2 := ⟨_, rfl, cb2 w _ _ _ _⟩
  go_enter Tryz.func113, Tryz.ntmps113
  go_upto_region 1 with fail
  try rw [hW1]
  clear hW1
  have hk := h.up hB1
  have hl1 := hl.up hB1
  obtain ⟨e0, e1⟩ := kA.c2'
  obtain ⟨d0, d1⟩ := kB.c2'
  go_wp2_with fail
  refine (ofNeeds_any b _ nm _ ls _ hk hok hl1).mono ?_
  rintro e w2 ⟨rfl, hB2⟩
  clear d0 d1 e0 e1
  go_wp2_with fail
  go_ret
  exact ⟨rfl, up_trans hB1 hB2⟩
end Go.Proofs.YtkgbdjdgcacblaaGreatDoor
