/- Books in plain: bits of things; who can have all it needs, orders that fit. -/
import Derived.Test.YtialglmnfchfmadGreatDoorK3
namespace Go.Proofs.YtialglmnfchfmadGreatDoor

/-- The sum of the bits of those things that are picked. -/
def bitsN : List ByteArray → (ByteArray → Bool) → Nat
  | [], _ => 0
  | t :: r, P => (if P t = true then 1 else 0) + 2 * bitsN r P
theorem bitsN_snoc (P : ByteArray → Bool) (t : ByteArray) : ∀ l : List ByteArray, bitsN (l ++ [t]) P = bitsN l P + (if P t = true then 2 ^ l.length else 0)
  | [] => by simp [bitsN]
  | x :: r => by
    rw [List.cons_append, bitsN, bitsN, bitsN_snoc P t r, List.length_cons, Nat.pow_succ]
    split <;> split <;> omega
theorem bitsN_lt (P : ByteArray → Bool) : ∀ l : List ByteArray, bitsN l P < 2 ^ l.length
  | [] => by simp [bitsN]
  | x :: r => by
    have := bitsN_lt P r
    rw [bitsN, List.length_cons, Nat.pow_succ]
    split <;> omega
theorem bitsN_small {l : List ByteArray} (h : l.length ≤ 8) (P : ByteArray → Bool) : bitsN l P < 256 :=
  Nat.lt_of_lt_of_le (bitsN_lt P l) (Nat.pow_le_pow_right (by omega) h)
theorem bitsN_congr {P Q : ByteArray → Bool} : ∀ {l : List ByteArray}, (∀ t ∈ l, P t = Q t) → bitsN l P = bitsN l Q
  | [], _ => rfl
  | x :: r, h => by rw [bitsN, bitsN, h x (by simp), bitsN_congr fun t ht => h t (by simp [ht])]
theorem bitsN_add {P Q : ByteArray → Bool} : ∀ {l : List ByteArray}, (∀ t ∈ l, P t = true → Q t = false) → bitsN l P + bitsN l Q = bitsN l fun t => P t || Q t
  | [], _ => rfl
  | x :: r, h => by
    have h1 := bitsN_add (P := P) (Q := Q) (l := r) fun t ht => h t (by simp [ht])
    have h2 := h x (by simp)
    rw [bitsN, bitsN, bitsN, ← h1]
    cases hp : P x <;> cases hq : Q x <;> simp_all <;> omega
theorem bitsN_sub {P Q : ByteArray → Bool} {l : List ByteArray} (h : ∀ t ∈ l, Q t = true → P t = true) : bitsN l P = bitsN l Q + bitsN l fun t => P t && !Q t := by
  rw [bitsN_add (fun t _ hq => by simp [hq])]
  refine bitsN_congr fun t ht => ?_
  cases hq : Q t
  · simp
  · simp [h t ht hq]
theorem bitsN_test (P : ByteArray → Bool) : ∀ (l : List ByteArray) (i : Nat), (bitsN l P).testBit i = (l[i]?.map P).getD false
  | [], i => by simp [bitsN]
  | x :: r, 0 => by
    rw [bitsN, Nat.testBit_zero]
    have e : ((if P x = true then 1 else 0) + 2 * bitsN r P) % 2 = (if P x = true then 1 else 0) := by split <;> omega
    rw [e]
    cases h : P x <;> simp [h]
  | x :: r, i + 1 => by
    rw [bitsN, Nat.testBit_succ, List.getElem?_cons_succ, ← bitsN_test P r i]
    congr 1
    split <;> omega
/-- Nothing that is needed lacks. -/
theorem bitsN_not {P Q : ByteArray → Bool} {l : List ByteArray} (hl : l.length ≤ 8) : (bitsN l P &&& (18446744073709551615 - bitsN l Q) = 0) ↔ ∀ t ∈ l, P t = true → Q t = true := by
  have hQ := bitsN_small hl Q
  have e : 18446744073709551615 - bitsN l Q = 2 ^ 64 - (bitsN l Q + 1) := by omega
  constructor
  · intro h t ht hp
    obtain ⟨i, hi, rfl⟩ := List.getElem_of_mem ht
    have h1 := congrArg (Nat.testBit · i) h
    simp only [Nat.testBit_and, Nat.zero_testBit] at h1
    rw [e, Nat.testBit_two_pow_sub_succ (by omega), bitsN_test, bitsN_test, List.getElem?_eq_getElem hi] at h1
    simp [hp] at h1
    exact h1 (by omega)
  · intro h
    refine Nat.eq_of_testBit_eq fun i => ?_
    rw [Nat.testBit_and, Nat.zero_testBit, e, Nat.testBit_two_pow_sub_succ (by omega), bitsN_test, bitsN_test]
    rcases Nat.lt_or_ge i l.length with hi | hi
    · rw [List.getElem?_eq_getElem hi]
      have := h l[i] (List.getElem_mem hi)
      cases hp : P l[i] <;> simp_all
    · rw [List.getElem?_eq_none hi]; simp

/-- Of the batches that are not gone, up to place k, none but the one at place 'at' has anything of its needs. -/
def CanTo (bs : List Ba) (at' : Nat) (gone : List ByteArray) (k : Nat) : Prop := ∀ (i : Nat) (x y : Ba), i < k → i ≠ at' → bs[i]? = some x → bs[at']? = some y → memS gone x.nm = false → shareB x.has y.needs = false
def Can (bs : List Ba) (at' : Nat) (gone : List ByteArray) : Prop := CanTo bs at' gone bs.length
theorem CanTo.zero (bs : List Ba) (a : Nat) (gone : List ByteArray) : CanTo bs a gone 0 := fun i _ _ h => by omega
theorem can_end {bs : List Ba} {a : Nat} {gone : List ByteArray} {k : Nat} (h : CanTo bs a gone k) (hk : ¬ k < bs.length) : Can bs a gone := fun i x y hi hne hx hy hm => h i x y (by omega) hne hx hy hm
theorem CanTo.step {bs : List Ba} {a : Nat} {gone : List ByteArray} {k : Nat} (h : CanTo bs a gone k) (hk : k < bs.length) (ha : a < bs.length) (h1 : k = a ∨ memS gone (bs[k]).nm = true ∨ shareB (bs[k]).has (bs[a]).needs = false) : CanTo bs a gone (k + 1) := fun i x y hi hne hx hy hm => by
  by_cases e : i = k
  · subst e
    rw [List.getElem?_eq_getElem hk] at hx
    rw [List.getElem?_eq_getElem ha] at hy
    obtain rfl := Option.some.inj hx
    obtain rfl := Option.some.inj hy
    rcases h1 with h1 | h1 | h1
    · exact absurd h1 hne
    · rw [hm] at h1; cases h1
    · exact h1
  · exact h i x y (by omega) hne hx hy hm
theorem can_no {bs : List Ba} {a : Nat} {gone : List ByteArray} {k : Nat} (hk : k < bs.length) (ha : a < bs.length) (hne : k ≠ a) (hm : memS gone (bs[k]).nm = false) (hs : shareB (bs[k]).has (bs[a]).needs = true) : ¬ Can bs a gone := fun h => by
  have := h k _ _ hk hne (List.getElem?_eq_getElem hk) (List.getElem?_eq_getElem ha) hm
  rw [hs] at this; cases this
/-- A thing that nobody has who is not gone. -/
def freeB (bs : List Ba) (G : Nat → Bool) (k : Nat) (t : ByteArray) : Bool := (List.range k).all fun i => G i || !((bs[i]?.map fun x => memS x.has t).getD false)
theorem freeB_iff (bs : List Ba) (G : Nat → Bool) (k : Nat) (t : ByteArray) : freeB bs G k t = true ↔ ∀ (i : Nat) (x : Ba), i < k → bs[i]? = some x → G i = false → memS x.has t = false := by
  simp only [freeB, List.all_eq_true, List.mem_range]
  constructor
  · intro h i x hi hx hg
    have := h i hi
    rw [hx, hg] at this
    simpa using this
  · intro h i hi
    cases hg : G i
    · cases hx : bs[i]? with
      | none => simp
      | some x => simp [h i x hi hx hg]
    · rfl
theorem freeB_succ (bs : List Ba) (G : Nat → Bool) (k : Nat) (t : ByteArray) : freeB bs G (k + 1) t = (freeB bs G k t && (G k || !((bs[k]?.map fun x => memS x.has t).getD false))) := by
  simp [freeB, List.range_succ]
/-- Who can have all it needs, by bits. -/
theorem can_bits {b : Bk} (hok : BookOk b) {a : Nat} (ha : a < b.bs.length) {gone : List ByteArray} {G : Nat → Bool} (hG : ∀ (i : Nat) (hi : i < b.bs.length), G i = memS gone (b.bs[i]).nm) (hga : G a = false) :
    (∀ t ∈ b.things, memS (b.bs[a]).needs t = true → (freeB b.bs G b.bs.length t || memS (b.bs[a]).has t) = true) ↔ Can b.bs a gone := by
  have hb := hok.2.2.2.2.1.at ha ha
  constructor
  · intro h i x y hi hne hx hy hm
    rw [List.getElem?_eq_getElem hi] at hx
    rw [List.getElem?_eq_getElem ha] at hy
    obtain rfl := Option.some.inj hx
    obtain rfl := Option.some.inj hy
    rw [shareB_no]
    intro s h1 h2
    have h3 := h s (part_mem hb.1.1 h2) ((memS_iff _ _).2 h2)
    rcases Bool.or_eq_true_iff.1 h3 with h4 | h4
    · have := (freeB_iff _ _ _ _).1 h4 i _ hi (List.getElem?_eq_getElem hi) (by rw [hG i hi]; exact hm)
      rw [memS_no] at this
      exact this h1
    · have h5 := (memS_iff _ _).1 h4
      rcases Nat.lt_or_gt_of_ne hne with h6 | h6
      · have := hok.2.2.2.2.2.at ha h6
        rw [shareB_no] at this
        exact this s h5 h1
      · have := hok.2.2.2.2.2.at hi h6
        rw [shareB_no] at this
        exact this s h1 h5
  · intro h t ht hn
    cases hh : memS (b.bs[a]).has t
    · rw [Bool.or_false, freeB_iff]
      intro i x hi hx hg
      rw [List.getElem?_eq_getElem hi] at hx
      obtain rfl := Option.some.inj hx
      by_cases e : i = a
      · subst e; exact hh
      · have := h i _ _ hi e (List.getElem?_eq_getElem hi) (List.getElem?_eq_getElem ha) (by rw [← hG i hi]; exact hg)
        rw [shareB_no] at this
        rw [memS_no]
        exact fun h1 => this t h1 ((memS_iff _ _).1 hn)
    · simp
/-- An order fits up to place k. -/
def FitsTo (bs : List Ba) (order : List ByteArray) (k : Nat) : Prop := ∀ (i : Nat) (s : ByteArray), i < k → order[i]? = some s → 0 ≤ idxI (nms bs) s ∧ memS (order.take i) s = false ∧ Can bs (idxI (nms bs) s).toNat (order.take i)
def Fits (b : Bk) (order : List ByteArray) : Prop := BookOk b ∧ order.length = b.bs.length ∧ FitsTo b.bs order order.length
theorem FitsTo.zero (bs : List Ba) (order : List ByteArray) : FitsTo bs order 0 := fun i _ h => by omega
theorem FitsTo.step {bs : List Ba} {order : List ByteArray} {k : Nat} (h : FitsTo bs order k) (hk : k < order.length) (h1 : 0 ≤ idxI (nms bs) order[k] ∧ memS (order.take k) order[k] = false ∧ Can bs (idxI (nms bs) order[k]).toNat (order.take k)) : FitsTo bs order (k + 1) := fun i s hi hs => by
  by_cases e : i = k
  · subst e
    rw [List.getElem?_eq_getElem hk] at hs
    obtain rfl := Option.some.inj hs
    exact h1
  · exact h i s (by omega) hs
theorem fits_at {b : Bk} {order : List ByteArray} (h : Fits b order) {k : Nat} (hk : k < order.length) : 0 ≤ idxI (nms b.bs) order[k] ∧ memS (order.take k) order[k] = false ∧ Can b.bs (idxI (nms b.bs) order[k]).toNat (order.take k) := h.2.2 k _ hk (List.getElem?_eq_getElem hk)
theorem fits_end {b : Bk} {order : List ByteArray} {k : Nat} (hok : BookOk b) (hl : order.length = b.bs.length) (h : FitsTo b.bs order k) (hk : ¬ k < order.length) : Fits b order := ⟨hok, hl, fun i s hi hs => h i s (by omega) hs⟩
theorem idxI_at {l : List ByteArray} {s : ByteArray} (h : 0 ≤ idxI l s) : ∃ k : Nat, idxI l s = (k : Int) ∧ ∃ hk : k < l.length, l[k] = s := by
  rw [idxI] at h ⊢
  split at h
  · rename_i hm
    rw [if_pos hm]
    refine ⟨_, rfl, ?_⟩
    have hl : l.findIdx (fun x => x.toList == s.toList) < l.length := by
      rw [List.findIdx_lt_length]
      rw [memS, List.any_eq_true] at hm
      exact hm
    refine ⟨hl, ?_⟩
    have := List.findIdx_getElem (w := hl)
    exact toL_eq (by simpa using this)
  · omega
end Go.Proofs.YtialglmnfchfmadGreatDoor

/- The program's table in plain: rows, and what is free. -/
namespace Go.Proofs.YtialglmnfchfmadGreatDoor

/-- A batch, and whether it is gone. -/
abbrev Tr := Ba × Bool
def rowC (things : List ByteArray) (p : Tr) : List Value := [.string p.1.nm, .int .u64 (bitsN things (memS p.1.has) : Nat), .int .u64 (bitsN things (memS p.1.needs) : Nat), .bool p.2]
def rowsL (things : List ByteArray) : List Tr → List Value
  | [] => []
  | p :: r => rowC things p ++ rowsL things r
theorem rowsL_length (things : List ByteArray) : ∀ ts : List Tr, (rowsL things ts).length = ts.length * 4
  | [] => rfl
  | p :: r => by rw [rowsL, List.length_append, rowsL_length things r, List.length_cons]; simp [rowC]; omega
theorem rowsL_snoc (things : List ByteArray) (p : Tr) : ∀ ts : List Tr, rowsL things (ts ++ [p]) = rowsL things ts ++ rowC things p
  | [] => by simp [rowsL]
  | q :: r => by rw [List.cons_append, rowsL, rowsL, rowsL_snoc things p r, List.append_assoc]
theorem rowsL_get (things : List ByteArray) : ∀ (ts : List Tr) (i j : Nat) (p : Tr), ts[i]? = some p → j < 4 → (rowsL things ts)[i * 4 + j]? = (rowC things p)[j]?
  | [], i, j, p, h, _ => by simp at h
  | q :: r, 0, j, p, h, hj => by
    simp at h; subst h
    rw [rowsL, List.getElem?_append_left (by simp [rowC]; omega)]; simp
  | q :: r, i + 1, j, p, h, hj => by
    rw [rowsL, List.getElem?_append_right (by simp [rowC]; omega)]
    have e : (i + 1) * 4 + j - (rowC things q).length = i * 4 + j := by simp [rowC]; omega
    rw [e]
    exact rowsL_get things r i j p (by simpa using h) hj
theorem rowsL_set (things : List ByteArray) : ∀ (ts : List Tr) (i : Nat) (p : Tr), ts[i]? = some p → (rowsL things ts).set (i * 4 + 3) (.bool true) = rowsL things (ts.set i (p.1, true))
  | [], i, p, h => by simp at h
  | q :: r, 0, p, h => by
    simp at h; subst h
    simp [rowsL, rowC]
  | q :: r, i + 1, p, h => by
    rw [rowsL, List.set_append_right _ _ (by simp [rowC]; omega)]
    have e : (i + 1) * 4 + 3 - (rowC things q).length = i * 4 + 3 := by simp [rowC]; omega
    rw [e, rowsL_set things r i p (by simpa using h)]
    simp [rowsL]
/-- A thing that nobody of the rows has who is not gone. -/
def freeL (ts : List Tr) (t : ByteArray) : Bool := ts.all fun p => p.2 || !memS p.1.has t
theorem freeL_iff (ts : List Tr) (t : ByteArray) : freeL ts t = true ↔ ∀ (i : Nat) (p : Tr), ts[i]? = some p → p.2 = false → memS p.1.has t = false := by
  simp only [freeL, List.all_eq_true, Bool.or_eq_true, Bool.not_eq_true']
  constructor
  · intro h i p hp h2
    rcases h p (List.mem_of_getElem? hp) with h3 | h3
    · rw [h2] at h3; cases h3
    · exact h3
  · intro h p hp
    obtain ⟨i, hi, rfl⟩ := List.getElem_of_mem hp
    cases h2 : ts[i].2
    · exact .inr (h i _ (List.getElem?_eq_getElem hi) h2)
    · exact .inl rfl
theorem freeL_eq {bs : List Ba} {ts : List Tr} (h : ts.map (·.1) = bs) (t : ByteArray) : freeL ts t = freeB bs (fun i => (ts[i]?.map (·.2)).getD false) bs.length t := by
  rw [Bool.eq_iff_iff, freeL_iff, freeB_iff]
  subst h
  constructor
  · intro h i x hi hx hg
    rw [List.getElem?_map, Option.map_eq_some_iff] at hx
    obtain ⟨p, hp, rfl⟩ := hx
    exact h i p hp (by rw [hp] at hg; simpa using hg)
  · intro h i p hp h2
    exact h i p.1 (by simpa using (List.getElem?_eq_some_iff.1 hp).1) (by rw [List.getElem?_map, hp]; rfl) (by rw [hp]; simpa using h2)
theorem freeL_snoc (ts : List Tr) (p : Tr) (t : ByteArray) : freeL (ts ++ [p]) t = (freeL ts t && (p.2 || !memS p.1.has t)) := by simp [freeL]
theorem map_at {bs : List Ba} {ts : List Tr} (h : ts.map (·.1) = bs) {i : Nat} {p : Tr} (hp : ts[i]? = some p) : bs[i]? = some p.1 := by subst h; rw [List.getElem?_map, hp]; rfl
/-- One more row. -/
theorem free_more {bs : List Ba} (ha : Apart bs) {ts : List Tr} {k : Nat} (hk : k < bs.length) (h : ts.map (·.1) = bs.take k) (things : List ByteArray) :
    bitsN things (freeL ts) = bitsN things (memS (bs[k]).has) + bitsN things (freeL (ts ++ [(bs[k], false)])) := by
  rw [bitsN_sub (P := freeL ts) (Q := memS (bs[k]).has)]
  · congr 1
    refine bitsN_congr fun t _ => ?_
    rw [freeL_snoc]; simp
  · intro t _ hm
    rw [freeL_iff]
    intro i p hp _
    have h1 := map_at h hp
    rw [List.getElem?_take] at h1
    split at h1
    · rename_i hi
      rw [List.getElem?_eq_getElem (by omega)] at h1
      obtain h1 := Option.some.inj h1
      have := ha.at hk hi
      rw [shareB_no] at this
      rw [memS_no, ← h1]
      exact this t ((memS_iff _ _).1 hm)
    · cases h1
/-- One goes. -/
theorem free_leave {bs : List Ba} (ha : Apart bs) {ts : List Tr} {i : Nat} {p : Tr} (h : ts.map (·.1) = bs) (hp : ts[i]? = some p) (hg : p.2 = false) (things : List ByteArray) :
    bitsN things (freeL ts) + bitsN things (memS p.1.has) = bitsN things (freeL (ts.set i (p.1, true))) := by
  have hi := (List.getElem?_eq_some_iff.1 hp).1
  have hb := map_at h hp
  have hib : i < bs.length := by rw [← h]; simpa using hi
  rw [bitsN_add]
  · refine bitsN_congr fun t _ => ?_
    rw [Bool.eq_iff_iff, Bool.or_eq_true, freeL_iff, freeL_iff]
    constructor
    · rintro (h1 | h1) j q hq hg2
      · rw [List.getElem?_set] at hq
        split at hq
        · obtain rfl := Option.some.inj hq; cases hg2
        · exact h1 j q hq hg2
      · rw [List.getElem?_set] at hq
        split at hq
        · obtain rfl := Option.some.inj hq; cases hg2
        · rename_i hne
          have hq' := map_at h hq
          have hjb := (List.getElem?_eq_some_iff.1 hq').1
          rw [memS_no]
          intro h5
          have h6 := (memS_iff _ _).1 h1
          rw [List.getElem?_eq_getElem hjb] at hq'
          rw [List.getElem?_eq_getElem hib] at hb
          have hq2 := Option.some.inj hq'
          have hb2 := Option.some.inj hb
          rcases Nat.lt_or_gt_of_ne hne with h7 | h7
          · have := ha.at hjb h7
            rw [shareB_no, hq2, hb2] at this
            exact this t h5 h6
          · have := ha.at hib h7
            rw [shareB_no, hq2, hb2] at this
            exact this t h6 h5
    · intro h1
      cases hm : memS p.1.has t
      · refine .inl fun j q hq hg2 => ?_
        by_cases e : i = j
        · subst e; rw [hp] at hq; obtain rfl := Option.some.inj hq; exact hm
        · exact h1 j q (by rw [List.getElem?_set, if_neg e]; exact hq) hg2
      · exact .inr rfl
  · intro t _ h1
    exact (freeL_iff _ _).1 h1 i p hp hg
/-- Who can, off the table. -/
theorem can_tab {b : Bk} (hok : BookOk b) {ts : List Tr} (h : ts.map (·.1) = b.bs) {gone : List ByteArray} (hG : ∀ (i : Nat) (p : Tr), ts[i]? = some p → p.2 = memS gone p.1.nm) {a : Nat} {p : Tr} (hp : ts[a]? = some p) (hg : p.2 = false) :
    (bitsN b.things (memS p.1.needs) &&& (18446744073709551615 - (bitsN b.things (freeL ts) + bitsN b.things (memS p.1.has))) = 0) ↔ Can b.bs a gone := by
  have hb := map_at h hp
  have hab : a < b.bs.length := (List.getElem?_eq_some_iff.1 hb).1
  have hb2 : b.bs[a] = p.1 := by rw [List.getElem?_eq_getElem hab] at hb; exact Option.some.inj hb
  rw [bitsN_add (fun t _ h1 => (freeL_iff _ _).1 h1 a p hp hg), bitsN_not hok.1.1,
    ← can_bits hok hab (gone := gone) (G := fun i => (ts[i]?.map (·.2)).getD false) (fun i hi => ?_) (by simp [hp, hg]), hb2]
  · constructor
    · intro h1 t ht hn; rw [← freeL_eq h]; exact h1 t ht hn
    · intro h1 t ht hn; have := h1 t ht hn; rwa [← freeL_eq h] at this
  · have hi' : i < ts.length := by rw [← h] at hi; simpa using hi
    have e := map_at h (List.getElem?_eq_getElem hi')
    rw [List.getElem?_eq_getElem hi] at e
    rw [List.getElem?_eq_getElem hi']
    simp only [Option.map_some, Option.getD_some]
    rw [hG i _ (List.getElem?_eq_getElem hi'), Option.some.inj e]
end Go.Proofs.YtialglmnfchfmadGreatDoor

/- Books in plain: the order in which always the first that can goes. -/
namespace Go.Proofs.YtialglmnfchfmadGreatDoor

/-- A batch that is not gone and can have all it needs. -/
def Good (bs : List Ba) (gone : List ByteArray) (k : Nat) : Prop := ∃ x, bs[k]? = some x ∧ memS gone x.nm = false ∧ Can bs k gone
/-- The place of the first of them, -1 if there is none. -/
def NextIs (bs : List Ba) (gone : List ByteArray) (n : Int) : Prop := (n = -1 ∧ ∀ k, k < bs.length → ¬ Good bs gone k) ∨ ∃ k : Nat, n = (k : Int) ∧ k < bs.length ∧ Good bs gone k ∧ ∀ j, j < k → ¬ Good bs gone j
theorem NextIs.uniq {bs : List Ba} {gone : List ByteArray} {m n : Int} (h : NextIs bs gone m) (h' : NextIs bs gone n) : m = n := by
  rcases h with ⟨rfl, h1⟩ | ⟨k, rfl, hk, hg, hl⟩ <;> rcases h' with ⟨rfl, h2⟩ | ⟨j, rfl, hj, gg, gl⟩
  · rfl
  · exact absurd gg (h1 j hj)
  · exact absurd hg (h2 k hk)
  · rcases Nat.lt_trichotomy k j with h3 | h3 | h3
    · exact absurd hg (gl k h3)
    · rw [h3]
    · exact absurd gg (hl j h3)
/-- n batches have gone, one behind the other, always the first that can. -/
inductive Goes (bs : List Ba) : Nat → List ByteArray → Prop
  | none : Goes bs 0 []
  | more {n : Nat} {gone : List ByteArray} {k : Nat} {x : Ba} : Goes bs n gone → NextIs bs gone (k : Int) → bs[k]? = some x → Goes bs (n + 1) (gone ++ [x.nm])
theorem Goes.length {bs : List Ba} {n : Nat} {gone : List ByteArray} (h : Goes bs n gone) : gone.length = n := by
  induction h with
  | none => rfl
  | more _ _ _ ih => simp [ih]
theorem Goes.uniq {bs : List Ba} {n : Nat} {g g' : List ByteArray} (h : Goes bs n g) (h' : Goes bs n g') : g = g' := by
  induction h generalizing g' with
  | none => cases h'; rfl
  | more h1 h2 h3 ih =>
    cases h' with
    | more k1 k2 k3 =>
      obtain rfl := ih k1
      have e := h2.uniq k2
      obtain rfl : _ = _ := Int.ofNat.inj e
      rw [h3] at k3
      obtain rfl := Option.some.inj k3
      rfl
theorem Goes.part {bs : List Ba} {n : Nat} {gone : List ByteArray} (h : Goes bs n gone) : ∀ m, m ≤ n → Goes bs m (gone.take m) := by
  induction h with
  | none => intro m hm; obtain rfl : m = 0 := by omega
            exact .none
  | @more n gone k x h1 h2 h3 ih =>
    intro m hm
    have hl := h1.length
    by_cases e : m = n + 1
    · subst e
      rw [List.take_of_length_le (by simp [hl])]
      exact .more h1 h2 h3
    · rw [List.take_append_of_le_length (by omega)]
      exact ih m (by omega)
/-- The order, and whether there is one. -/
def OrderIs (b : Bk) (ss : List ByteArray) (ok : Bool) : Prop := (ok = true ∧ BookOk b ∧ Goes b.bs b.bs.length ss) ∨ (ok = false ∧ ss = [] ∧ (¬ BookOk b ∨ ∃ n gone, n < b.bs.length ∧ Goes b.bs n gone ∧ NextIs b.bs gone (-1)))
theorem OrderIs.uniq {b : Bk} {ss ss' : List ByteArray} {ok ok' : Bool} (h : OrderIs b ss ok) (h' : OrderIs b ss' ok') : ss = ss' ∧ ok = ok' := by
  have no : ∀ {t}, BookOk b → Goes b.bs b.bs.length t → ¬ (¬ BookOk b ∨ ∃ n gone, n < b.bs.length ∧ Goes b.bs n gone ∧ NextIs b.bs gone (-1)) := by
    rintro t hb hg (h1 | ⟨n, gone, hn, h2, h3⟩)
    · exact h1 hb
    · have h4 := hg.part (n + 1) (by omega)
      have hl := hg.length
      generalize hq : t.take (n + 1) = q at h4
      cases h4 with
      | more k1 k2 k3 =>
        obtain rfl := h2.uniq k1
        have := h3.uniq k2
        omega
  rcases h with ⟨rfl, h1, h2⟩ | ⟨rfl, rfl, h2⟩ <;> rcases h' with ⟨rfl, g1, g2⟩ | ⟨rfl, rfl, g2⟩
  · exact ⟨h2.uniq g2, rfl⟩
  · exact absurd g2 (no h1 h2)
  · exact absurd h2 (no g1 g2)
  · exact ⟨rfl, rfl⟩
theorem goodTo_step {bs : List Ba} {gone : List ByteArray} {k : Nat} (h : ∀ j, j < k → ¬ Good bs gone j) (h1 : ¬ Good bs gone k) : ∀ j, j < k + 1 → ¬ Good bs gone j := fun j hj => by
  by_cases e : j = k
  · subst e; exact h1
  · exact h j (by omega)
theorem good_iff {bs : List Ba} {gone : List ByteArray} {k : Nat} (hk : k < bs.length) : Good bs gone k ↔ memS gone (bs[k]).nm = false ∧ Can bs k gone := by
  constructor
  · rintro ⟨x, hx, h⟩
    rw [List.getElem?_eq_getElem hk] at hx
    obtain rfl := Option.some.inj hx
    exact h
  · exact fun h => ⟨_, List.getElem?_eq_getElem hk, h⟩
end Go.Proofs.YtialglmnfchfmadGreatDoor

/- Books that change, in plain: coming, asking, needing less, going. -/
namespace Go.Proofs.YtialglmnfchfmadGreatDoor

/-- All names of a book are texts that can be. -/
def Szb (b : Bk) : Prop := (∀ s ∈ b.things, s.size ≤ maxLen) ∧ ∀ x ∈ b.bs, (∀ s ∈ x.has, s.size ≤ maxLen) ∧ (∀ s ∈ x.needs, s.size ≤ maxLen)
def nobody : Bk := ⟨[], []⟩
theorem szb_none : Szb nobody := ⟨fun s hs => by simp [nobody] at hs, fun x hx => by simp [nobody] at hx⟩
/-- The place of a batch. -/
def plN (b : Bk) (nm : ByteArray) : Nat := (idxI (nms b.bs) nm).toNat
theorem plN_lt {b : Bk} {nm : ByteArray} (h : memS (nms b.bs) nm = true) : idxI (nms b.bs) nm = (plN b nm : Int) ∧ plN b nm < b.bs.length := by
  have h0 := idxI_mem (nms b.bs) nm
  rw [h, decide_eq_true_eq] at h0
  refine ⟨by unfold plN; omega, ?_⟩
  rw [plN, idxI, if_pos h]
  have : (nms b.bs).findIdx (fun x => x.toList == nm.toList) < (nms b.bs).length := List.findIdx_lt_length.2 (by
    rw [memS, List.any_eq_true] at h; exact h)
  rw [nms_length] at this
  simpa using this
/-- Going. -/
noncomputable def leaveC (b : Bk) (nm : ByteArray) : Int := if bookB b = false then 1 else if memS (nms b.bs) nm = false then 3 else 0
noncomputable def leaveB (b : Bk) (nm : ByteArray) : Bk := if bookB b = false then nobody else if memS (nms b.bs) nm = false then b else ⟨b.things, b.bs.take (plN b nm) ++ b.bs.drop (plN b nm + 1)⟩
theorem leave_no {b : Bk} {nm : ByteArray} (h : bookB b = false) : leaveC b nm = 1 ∧ leaveB b nm = nobody := by simp [leaveC, leaveB, h]
theorem leave_none {b : Bk} {nm : ByteArray} (h : bookB b = true) (hm : memS (nms b.bs) nm = false) : leaveC b nm = 3 ∧ leaveB b nm = b := by simp [leaveC, leaveB, h, hm]
theorem leave_yes {b : Bk} {nm : ByteArray} (h : bookB b = true) (hm : memS (nms b.bs) nm = true) : leaveC b nm = 0 ∧ leaveB b nm = ⟨b.things, b.bs.take (plN b nm) ++ b.bs.drop (plN b nm + 1)⟩ := by simp [leaveC, leaveB, h, hm]
/-- Coming: behind all whose names are less. -/
def inN (b : Bk) (nm : ByteArray) : Nat := (b.bs.takeWhile fun x => ltS x.nm nm).length
noncomputable def enterC (b : Bk) (nm : ByteArray) (needs : List ByteArray) : Int :=
  if bookB b = false then 1 else if (nameB nm && pB (PartOk needs b.things)) = false then 2 else if memS (nms b.bs) nm = true then 3 else if 5 ≤ b.bs.length then 4 else 0
noncomputable def enterB (b : Bk) (nm : ByteArray) (needs : List ByteArray) : Bk :=
  if bookB b = false then nobody else if enterC b nm needs = 0 then ⟨b.things, b.bs.take (inN b nm) ++ ⟨nm, [], needs⟩ :: b.bs.drop (inN b nm)⟩ else b
/-- Up to place k all names are less. -/
def lowB (b : Bk) (nm : ByteArray) (k : Nat) : Prop := ∀ (j : Nat) (x : Ba), j < k → b.bs[j]? = some x → ltS x.nm nm = true
theorem tw_len {α : Type} (p : α → Bool) : ∀ (l : List α) (k : Nat), k ≤ l.length → (∀ j x, j < k → l[j]? = some x → p x = true) → (∀ x, l[k]? = some x → p x = false) → (l.takeWhile p).length = k
  | [], k, hk, _, _ => by simp at hk; subst hk; rfl
  | x :: r, 0, _, _, h2 => by
    rw [List.takeWhile_cons, h2 x (by simp)]; rfl
  | x :: r, k + 1, hk, h1, h2 => by
    rw [List.takeWhile_cons, h1 0 x (by omega) (by simp)]
    simp only [if_true, List.length_cons]
    rw [tw_len p r k (by simpa using hk) (fun j y hj hy => h1 (j + 1) y (by omega) (by simpa using hy)) (fun y hy => h2 y (by simpa using hy))]
theorem inN_at {b : Bk} {nm : ByteArray} {k : Nat} (hk : k ≤ b.bs.length) (hl : lowB b nm k) (hn : ∀ x, b.bs[k]? = some x → ltS x.nm nm = false) : inN b nm = k := tw_len _ _ _ hk hl hn
theorem enter_no {b : Bk} {nm : ByteArray} {needs : List ByteArray} (h : bookB b = false) : enterC b nm needs = 1 ∧ enterB b nm needs = nobody := by simp [enterC, enterB, h]
theorem enter_two {b : Bk} {nm : ByteArray} {needs : List ByteArray} (h : bookB b = true) (h2 : (nameB nm && pB (PartOk needs b.things)) = false) : enterC b nm needs = 2 ∧ enterB b nm needs = b := by simp [enterC, enterB, h, h2]
theorem enter_three {b : Bk} {nm : ByteArray} {needs : List ByteArray} (h : bookB b = true) (h2 : (nameB nm && pB (PartOk needs b.things)) = true) (h3 : memS (nms b.bs) nm = true) : enterC b nm needs = 3 ∧ enterB b nm needs = b := by simp [enterC, enterB, h, h2, h3]
theorem enter_four {b : Bk} {nm : ByteArray} {needs : List ByteArray} (h : bookB b = true) (h2 : (nameB nm && pB (PartOk needs b.things)) = true) (h3 : memS (nms b.bs) nm = false) (h4 : 5 ≤ b.bs.length) : enterC b nm needs = 4 ∧ enterB b nm needs = b := by simp [enterC, enterB, h, h2, h3, h4]
theorem enter_yes {b : Bk} {nm : ByteArray} {needs : List ByteArray} (h : bookB b = true) (h2 : (nameB nm && pB (PartOk needs b.things)) = true) (h3 : memS (nms b.bs) nm = false) (h4 : ¬ 5 ≤ b.bs.length) :
    enterC b nm needs = 0 ∧ enterB b nm needs = ⟨b.things, b.bs.take (inN b nm) ++ ⟨nm, [], needs⟩ :: b.bs.drop (inN b nm)⟩ := by
  have hc : enterC b nm needs = 0 := by simp [enterC, h, h2, h3, h4]
  exact ⟨hc, by rw [enterB, h, if_neg (by simp), if_pos hc]⟩
/-- What an ok book's lists hold is short. -/
theorem ok_small {b : Bk} (h : BookOk b) : b.things.length ≤ 8 ∧ b.bs.length ≤ 5 ∧ ∀ x ∈ b.bs, x.has.length ≤ 8 ∧ x.needs.length ≤ 8 := by
  refine ⟨h.1.1, h.2.1, fun x hx => ?_⟩
  obtain ⟨i, hi, rfl⟩ := List.getElem_of_mem hx
  have ho := h.2.2.2.2.1.at (k := i) hi hi
  have h1 := part_short ho.1
  have h2 := part_short ho.2
  have h0 := h.1.1
  omega
theorem book_ok {b : Bk} (h : bookB b = true) : BookOk b := pB_iff.1 h
end Go.Proofs.YtialglmnfchfmadGreatDoor
