/- The program's table in plain: rows, and what is free. -/
import Derived.Test.YtkapodkidlgkjafKb3
namespace Go.Proofs.Ytkapodkidlgkjaf

/-- A batch, and whether it is gone. -/
abbrev Tr := Ba × Bool
def rowC (things : List ByteArray) (p : Tr) : List Value := [.string p.1.nm, .int .u64 (bitsN things (memS p.1.has) : Nat), .int .u64 (bitsN things (memS p.1.needs) : Nat), .bool p.2]
def rowsL (things : List ByteArray) : List Tr → List Value
  | [] => []
  | p :: r => rowC things p ++ rowsL things r
theorem rowsL_length (things : List ByteArray) : ∀ ts : List Tr, (rowsL things ts).length = ts.length * 4
  | [] => rfl
  | p :: r => by rw [rowsL, List.length_append, rowsL_length things r, List.length_cons]; simp [rowC]; omega
theorem rowsL_snoc (things : List ByteArray) (p : Tr) : ∀ ts : List Tr, rowsL things (ts ++ [p]) = rowsL things ts ++ rowC things p
  | [] => by simp [rowsL]
  | q :: r => by rw [List.cons_append, rowsL, rowsL, rowsL_snoc things p r, List.append_assoc]
theorem rowsL_get (things : List ByteArray) : ∀ (ts : List Tr) (i j : Nat) (p : Tr), ts[i]? = some p → j < 4 → (rowsL things ts)[i * 4 + j]? = (rowC things p)[j]?
  | [], i, j, p, h, _ => by simp at h
  | q :: r, 0, j, p, h, hj => by
    simp at h; subst h
    rw [rowsL, List.getElem?_append_left (by simp [rowC]; omega)]; simp
  | q :: r, i + 1, j, p, h, hj => by
    rw [rowsL, List.getElem?_append_right (by simp [rowC]; omega)]
    have e : (i + 1) * 4 + j - (rowC things q).length = i * 4 + j := by simp [rowC]; omega
    rw [e]
    exact rowsL_get things r i j p (by simpa using h) hj
theorem rowsL_set (things : List ByteArray) : ∀ (ts : List Tr) (i : Nat) (p : Tr), ts[i]? = some p → (rowsL things ts).set (i * 4 + 3) (.bool true) = rowsL things (ts.set i (p.1, true))
  | [], i, p, h => by simp at h
  | q :: r, 0, p, h => by
    simp at h; subst h
    simp [rowsL, rowC]
  | q :: r, i + 1, p, h => by
    rw [rowsL, List.set_append_right _ _ (by simp [rowC]; omega)]
    have e : (i + 1) * 4 + 3 - (rowC things q).length = i * 4 + 3 := by simp [rowC]; omega
    rw [e, rowsL_set things r i p (by simpa using h)]
    simp [rowsL]
/-- A thing that nobody of the rows has who is not gone. -/
def freeL (ts : List Tr) (t : ByteArray) : Bool := ts.all fun p => p.2 || !memS p.1.has t
theorem freeL_iff (ts : List Tr) (t : ByteArray) : freeL ts t = true ↔ ∀ (i : Nat) (p : Tr), ts[i]? = some p → p.2 = false → memS p.1.has t = false := by
  simp only [freeL, List.all_eq_true, Bool.or_eq_true, Bool.not_eq_true']
  constructor
  · intro h i p hp h2
    rcases h p (List.mem_of_getElem? hp) with h3 | h3
    · rw [h2] at h3; cases h3
    · exact h3
  · intro h p hp
    obtain ⟨i, hi, rfl⟩ := List.getElem_of_mem hp
    cases h2 : ts[i].2
    · exact .inr (h i _ (List.getElem?_eq_getElem hi) h2)
    · exact .inl rfl
theorem freeL_eq {bs : List Ba} {ts : List Tr} (h : ts.map (·.1) = bs) (t : ByteArray) : freeL ts t = freeB bs (fun i => (ts[i]?.map (·.2)).getD false) bs.length t := by
  rw [Bool.eq_iff_iff, freeL_iff, freeB_iff]
  subst h
  constructor
  · intro h i x hi hx hg
    rw [List.getElem?_map, Option.map_eq_some_iff] at hx
    obtain ⟨p, hp, rfl⟩ := hx
    exact h i p hp (by rw [hp] at hg; simpa using hg)
  · intro h i p hp h2
    exact h i p.1 (by simpa using (List.getElem?_eq_some_iff.1 hp).1) (by rw [List.getElem?_map, hp]; rfl) (by rw [hp]; simpa using h2)
theorem freeL_snoc (ts : List Tr) (p : Tr) (t : ByteArray) : freeL (ts ++ [p]) t = (freeL ts t && (p.2 || !memS p.1.has t)) := by simp [freeL]
theorem map_at {bs : List Ba} {ts : List Tr} (h : ts.map (·.1) = bs) {i : Nat} {p : Tr} (hp : ts[i]? = some p) : bs[i]? = some p.1 := by subst h; rw [List.getElem?_map, hp]; rfl
/-- One more row. -/
theorem free_more {bs : List Ba} (ha : Apart bs) {ts : List Tr} {k : Nat} (hk : k < bs.length) (h : ts.map (·.1) = bs.take k) (things : List ByteArray) :
    bitsN things (freeL ts) = bitsN things (memS (bs[k]).has) + bitsN things (freeL (ts ++ [(bs[k], false)])) := by
  rw [bitsN_sub (P := freeL ts) (Q := memS (bs[k]).has)]
  · congr 1
    refine bitsN_congr fun t _ => ?_
    rw [freeL_snoc]; simp
  · intro t _ hm
    rw [freeL_iff]
    intro i p hp _
    have h1 := map_at h hp
    rw [List.getElem?_take] at h1
    split at h1
    · rename_i hi
      rw [List.getElem?_eq_getElem (by omega)] at h1
      obtain h1 := Option.some.inj h1
      have := ha.at hk hi
      rw [shareB_no] at this
      rw [memS_no, ← h1]
      exact this t ((memS_iff _ _).1 hm)
    · cases h1
/-- One goes. -/
theorem free_leave {bs : List Ba} (ha : Apart bs) {ts : List Tr} {i : Nat} {p : Tr} (h : ts.map (·.1) = bs) (hp : ts[i]? = some p) (hg : p.2 = false) (things : List ByteArray) :
    bitsN things (freeL ts) + bitsN things (memS p.1.has) = bitsN things (freeL (ts.set i (p.1, true))) := by
  have hi := (List.getElem?_eq_some_iff.1 hp).1
  have hb := map_at h hp
  have hib : i < bs.length := by rw [← h]; simpa using hi
  rw [bitsN_add]
  · refine bitsN_congr fun t _ => ?_
    rw [Bool.eq_iff_iff, Bool.or_eq_true, freeL_iff, freeL_iff]
    constructor
    · rintro (h1 | h1) j q hq hg2
      · rw [List.getElem?_set] at hq
        split at hq
        · obtain rfl := Option.some.inj hq; cases hg2
        · exact h1 j q hq hg2
      · rw [List.getElem?_set] at hq
        split at hq
        · obtain rfl := Option.some.inj hq; cases hg2
        · rename_i hne
          have hq' := map_at h hq
          have hjb := (List.getElem?_eq_some_iff.1 hq').1
          rw [memS_no]
          intro h5
          have h6 := (memS_iff _ _).1 h1
          rw [List.getElem?_eq_getElem hjb] at hq'
          rw [List.getElem?_eq_getElem hib] at hb
          have hq2 := Option.some.inj hq'
          have hb2 := Option.some.inj hb
          rcases Nat.lt_or_gt_of_ne hne with h7 | h7
          · have := ha.at hjb h7
            rw [shareB_no, hq2, hb2] at this
            exact this t h5 h6
          · have := ha.at hib h7
            rw [shareB_no, hq2, hb2] at this
            exact this t h6 h5
    · intro h1
      cases hm : memS p.1.has t
      · refine .inl fun j q hq hg2 => ?_
        by_cases e : i = j
        · subst e; rw [hp] at hq; obtain rfl := Option.some.inj hq; exact hm
        · exact h1 j q (by rw [List.getElem?_set, if_neg e]; exact hq) hg2
      · exact .inr rfl
  · intro t _ h1
    exact (freeL_iff _ _).1 h1 i p hp hg
/-- Who can, off the table. -/
theorem can_tab {b : Bk} (hok : BookOk b) {ts : List Tr} (h : ts.map (·.1) = b.bs) {gone : List ByteArray} (hG : ∀ (i : Nat) (p : Tr), ts[i]? = some p → p.2 = memS gone p.1.nm) {a : Nat} {p : Tr} (hp : ts[a]? = some p) (hg : p.2 = false) :
    (bitsN b.things (memS p.1.needs) &&& (18446744073709551615 - (bitsN b.things (freeL ts) + bitsN b.things (memS p.1.has))) = 0) ↔ Can b.bs a gone := by
  have hb := map_at h hp
  have hab : a < b.bs.length := (List.getElem?_eq_some_iff.1 hb).1
  have hb2 : b.bs[a] = p.1 := by rw [List.getElem?_eq_getElem hab] at hb; exact Option.some.inj hb
  rw [bitsN_add (fun t _ h1 => (freeL_iff _ _).1 h1 a p hp hg), bitsN_not hok.1.1,
    ← can_bits hok hab (gone := gone) (G := fun i => (ts[i]?.map (·.2)).getD false) (fun i hi => ?_) (by simp [hp, hg]), hb2]
  · constructor
    · intro h1 t ht hn; rw [← freeL_eq h]; exact h1 t ht hn
    · intro h1 t ht hn; have := h1 t ht hn; rwa [← freeL_eq h] at this
  · have hi' : i < ts.length := by rw [← h] at hi; simpa using hi
    have e := map_at h (List.getElem?_eq_getElem hi')
    rw [List.getElem?_eq_getElem hi] at e
    rw [List.getElem?_eq_getElem hi']
    simp only [Option.map_some, Option.getD_some]
    rw [hG i _ (List.getElem?_eq_getElem hi'), Option.some.inj e]
end Go.Proofs.Ytkapodkidlgkjaf
