/- Books in plain: ascending lists, who has what in a map. -/
import Derived.Test.YtkapodkidlgkjafKb
import Derived.Maps.Views
namespace Go.Proofs.Ytkapodkidlgkjaf
open Go.Maps

theorem bl_eq : ∀ (x y : List UInt8), Op.bytesLess x y = decide (x < y)
  | [], [] => by simp [Op.bytesLess]
  | _ :: _, [] => by simp [Op.bytesLess]
  | [], _ :: _ => by simp [Op.bytesLess]
  | a :: x, b :: y => by
    rw [Op.bytesLess, bl_eq x y]
    simp only [List.cons_lt_cons_iff]
    by_cases h1 : a < b <;> by_cases h2 : a = b <;> by_cases h3 : x < y <;> simp [h1, h2, h3]
theorem ltS_iff (a b : ByteArray) : ltS a b = true ↔ a.toList < b.toList := by rw [ltS, bl_eq]; simp
theorem ltS_trans {a b c : ByteArray} (h : ltS a b = true) (k : ltS b c = true) : ltS a c = true := by
  rw [ltS_iff] at *; exact List.lt_trans h k
theorem ltS_irrefl (a : ByteArray) : ltS a a = false := by
  rw [← Bool.not_eq_true, ltS_iff]; exact List.lt_irrefl _
theorem asc_lt {l : List ByteArray} (h : Asc l) : ∀ (d i : Nat) (a b : ByteArray), l[i]? = some a → l[i + 1 + d]? = some b → ltS a b = true
  | 0, i, a, b, ha, hb => h i a b (List.getElem?_eq_some_iff.1 hb).1 ha hb
  | d + 1, i, a, b, ha, hb => by
    have hl : i + 1 + (d + 1) < l.length := (List.getElem?_eq_some_iff.1 hb).1
    have hm : l[i + 1]? = some l[i + 1] := List.getElem?_eq_getElem (by omega)
    exact ltS_trans (h i a _ (by omega) ha hm) (asc_lt h d (i + 1) _ b hm (by rw [show i + 1 + 1 + d = i + 1 + (d + 1) by omega]; exact hb))
theorem asc_ne {l : List ByteArray} (h : Asc l) {i j : Nat} {a : ByteArray} (hi : l[i]? = some a) (hj : l[j]? = some a) : i = j := by
  rcases Nat.lt_trichotomy i j with h1 | h1 | h1
  · have := asc_lt h (j - i - 1) i a a hi (by rw [show i + 1 + (j - i - 1) = j by omega]; exact hj)
    rw [ltS_irrefl] at this; cases this
  · exact h1
  · have := asc_lt h (i - j - 1) j a a hj (by rw [show j + 1 + (i - j - 1) = i by omega]; exact hi)
    rw [ltS_irrefl] at this; cases this
/-- A list whose places differ, all of another list, is no longer than it. -/
theorem short_of : ∀ (l m : List ByteArray), (∀ (i j : Nat) (a : ByteArray), l[i]? = some a → l[j]? = some a → i = j) → (∀ s ∈ l, s ∈ m) → l.length ≤ m.length
  | [], m, _, _ => by simp
  | x :: r, m, hd, hs => by
    have hx : x ∈ m := hs x (by simp)
    obtain ⟨m1, m2, rfl⟩ := List.append_of_mem hx
    have := short_of r (m1 ++ m2) (fun i j a hi hj => by
      have := hd (i + 1) (j + 1) a (by simpa using hi) (by simpa using hj)
      omega) (fun s h => by
      have h1 := hs s (by simp [h])
      rcases List.mem_append.1 h1 with h2 | h2
      · simp [h2]
      · rcases List.mem_cons.1 h2 with h3 | h3
        · subst h3
          obtain ⟨i, hi, e⟩ := List.getElem_of_mem h
          have := hd 0 (i + 1) s (by simp) (by simp [List.getElem?_eq_getElem hi, e])
          omega
        · simp [h3])
    simp at this ⊢; omega
theorem part_short {l all : List ByteArray} (h : PartOk l all) : l.length ≤ all.length := short_of l all (fun _ _ _ hi hj => asc_ne h.2 hi hj) (fun _ hs => part_mem h.1 hs)

/-- What a name is in a map. -/
def kl (s : ByteArray) : Lit := .string s.data.toList
theorem kl_inj {a b : ByteArray} (h : kl a = kl b) : a = b := by
  simp only [kl, Lit.string.injEq] at h
  cases a; cases b; simp at h; rw [h]
theorem kl_key (s : ByteArray) : WideAt.IsKeyLit (kl s) := trivial
/-- Up to batch k, and of it up to place m, a thing is at place i. -/
def HadBy (bs : List Ba) (k m : Nat) (s : ByteArray) (i : Nat) : Prop := ∃ x, bs[i]? = some x ∧ (i < k ∧ s ∈ x.has ∨ i = k ∧ s ∈ x.has.take m)
/-- The map tells of each thing that somebody has, up to there, who. -/
def HoldD (D : DataW Unit) (bs : List Ba) (k m : Nat) : Prop := IsMap D ∧ (∀ s, Maps.has D (kl s) = true → ∃ i, HadBy bs k m s i) ∧ (∀ s i, HadBy bs k m s i → Maps.has D (kl s) = true ∧ ∀ z, D.atKey (kl s) z = .lit (.int .i64 (i : Int)))
theorem HoldD.start (bs : List Ba) : HoldD (.map []) bs 0 0 := by
  refine ⟨isMap_empty, fun s h => by simp [Maps.has] at h, fun s i h => ?_⟩
  obtain ⟨x, _, h | h⟩ := h
  · omega
  · simp at h
theorem HadBy.up {bs : List Ba} {k m i : Nat} {s : ByteArray} (h : HadBy bs k m s i) : HadBy bs k (m + 1) s i := by
  obtain ⟨x, hx, h | ⟨h1, h2⟩⟩ := h
  · exact ⟨x, hx, .inl h⟩
  · refine ⟨x, hx, .inr ⟨h1, ?_⟩⟩
    rw [List.mem_take_iff_getElem] at h2 ⊢
    obtain ⟨j, hj, e⟩ := h2
    exact ⟨j, by omega, e⟩
theorem HadBy.new {bs : List Ba} {k m : Nat} (hk : k < bs.length) (hm : m < (bs[k]).has.length) : HadBy bs k (m + 1) ((bs[k]).has[m]) k :=
  ⟨bs[k], List.getElem?_eq_getElem hk, .inr ⟨rfl, by rw [List.mem_take_iff_getElem]; exact ⟨m, by omega, rfl⟩⟩⟩
theorem HadBy.split {bs : List Ba} {k m i : Nat} {s : ByteArray} (hk : k < bs.length) (hm : m < (bs[k]).has.length) (h : HadBy bs k (m + 1) s i) : HadBy bs k m s i ∨ (i = k ∧ s = (bs[k]).has[m]) := by
  obtain ⟨x, hx, h | ⟨rfl, h2⟩⟩ := h
  · exact .inl ⟨x, hx, .inl h⟩
  · rw [List.getElem?_eq_getElem hk] at hx
    obtain rfl := Option.some.inj hx
    rw [List.take_succ_eq_append_getElem hm] at h2
    rcases List.mem_append.1 h2 with h3 | h3
    · exact .inl ⟨_, List.getElem?_eq_getElem hk, .inr ⟨rfl, h3⟩⟩
    · exact .inr ⟨rfl, by simpa using h3⟩
theorem HoldD.step {D : DataW Unit} {bs : List Ba} {k m : Nat} (h : HoldD D bs k m) (hk : k < bs.length) (hm : m < (bs[k]).has.length) (hn : Maps.has D (kl ((bs[k]).has[m])) = false) :
    HoldD (D.put (kl ((bs[k]).has[m])) (.lit (.int .i64 (k : Int)))) bs k (m + 1) := by
  obtain ⟨h1, h2, h3⟩ := h
  refine ⟨h1.put _ _, fun s hs => ?_, fun s i hi => ?_⟩
  · by_cases e : kl s = kl ((bs[k]).has[m])
    · obtain rfl := kl_inj e
      exact ⟨k, HadBy.new hk hm⟩
    · rw [has_put_other e] at hs
      obtain ⟨i, hi⟩ := h2 s hs
      exact ⟨i, hi.up⟩
  · rcases hi.split hk hm with h4 | ⟨rfl, rfl⟩
    · have e : kl s ≠ kl ((bs[k]).has[m]) := fun e => by
        have := (h3 s i h4).1
        rw [e, hn] at this; cases this
      exact ⟨by rw [has_put_other e]; exact (h3 s i h4).1, fun z => by rw [atKey_put_other e]; exact (h3 s i h4).2 z⟩
    · exact ⟨has_put_same h1 (kl_key _) _, fun z => atKey_put_same h1 (kl_key _) _ z⟩
theorem HadBy.next {bs : List Ba} {k m i : Nat} {s : ByteArray} (hk : k < bs.length) (hm : ¬ m < (bs[k]).has.length) : HadBy bs k m s i ↔ HadBy bs (k + 1) 0 s i := by
  constructor
  · rintro ⟨x, hx, h | ⟨rfl, h2⟩⟩
    · exact ⟨x, hx, .inl ⟨by omega, h.2⟩⟩
    · exact ⟨x, hx, .inl ⟨by omega, List.mem_of_mem_take h2⟩⟩
  · rintro ⟨x, hx, h | ⟨_, h2⟩⟩
    · by_cases e : i = k
      · subst e
        rw [List.getElem?_eq_getElem hk] at hx
        obtain rfl := Option.some.inj hx
        exact ⟨_, List.getElem?_eq_getElem hk, .inr ⟨rfl, by rw [List.take_of_length_le (by omega)]; exact h.2⟩⟩
      · exact ⟨x, hx, .inl ⟨by omega, h.2⟩⟩
    · simp at h2
theorem HoldD.next {D : DataW Unit} {bs : List Ba} {k m : Nat} (h : HoldD D bs k m) (hk : k < bs.length) (hm : ¬ m < (bs[k]).has.length) : HoldD D bs (k + 1) 0 :=
  ⟨h.1, fun s hs => by obtain ⟨i, hi⟩ := h.2.1 s hs; exact ⟨i, (HadBy.next hk hm).1 hi⟩, fun s i hi => h.2.2 s i ((HadBy.next hk hm).2 hi)⟩
/-- Somebody has it already: two have one thing. -/
theorem HoldD.twice {D : DataW Unit} {bs : List Ba} {k m : Nat} (h : HoldD D bs k m) (hk : k < bs.length) (hm : m < (bs[k]).has.length) (hd : Asc (bs[k]).has) (hn : Maps.has D (kl ((bs[k]).has[m])) = true) : ¬ Apart bs := fun ha => by
  obtain ⟨i, x, hx, h4 | ⟨rfl, h4⟩⟩ := h.2.1 _ hn
  · have hi : i < bs.length := (List.getElem?_eq_some_iff.1 hx).1
    have := ha.at hk h4.1
    rw [shareB_no] at this
    rw [List.getElem?_eq_getElem hi] at hx
    obtain rfl := Option.some.inj hx
    exact this _ (List.getElem_mem hm) h4.2
  · rw [List.getElem?_eq_getElem hk] at hx
    obtain rfl := Option.some.inj hx
    rw [List.mem_take_iff_getElem] at h4
    obtain ⟨j, hj, e⟩ := h4
    have := asc_ne hd (i := j) (j := m) (List.getElem?_eq_getElem (by omega)) (by rw [e]; exact List.getElem?_eq_getElem hm)
    omega
theorem HoldD.apart {D : DataW Unit} {bs : List Ba} {k : Nat} (h : HoldD D bs k 0) (hk : ¬ k < bs.length) : Apart bs := fun i j x y hji hi hx hy => by
  have li := (List.getElem?_eq_some_iff.1 hx).1
  have lj := (List.getElem?_eq_some_iff.1 hy).1
  rw [shareB_no]
  intro s h1 h2
  have e1 := (h.2.2 s i ⟨x, hx, .inl ⟨by omega, h1⟩⟩).2 .nil
  have e2 := (h.2.2 s j ⟨y, hy, .inl ⟨by omega, h2⟩⟩).2 .nil
  rw [e1] at e2
  simp at e2
  omega
/-- Who has a thing, off the map. -/
theorem HoldD.who {D : DataW Unit} {bs : List Ba} {k : Nat} (h : HoldD D bs k 0) {s : ByteArray} (hs : Maps.has D (kl s) = true) : ∃ (i : Nat) (hi : i < bs.length), (∀ z, D.atKey (kl s) z = .lit (.int .i64 (i : Int))) ∧ whoB bs s = (bs[i]).nm := by
  obtain ⟨i, hi⟩ := h.2.1 s hs
  have hz := (h.2.2 s i hi).2
  obtain ⟨x, hx, h4 | ⟨_, h4⟩⟩ := hi
  · have li := (List.getElem?_eq_some_iff.1 hx).1
    refine ⟨i, li, hz, whoB_at li (fun j y hj hy => ?_) ?_⟩
    · rw [memS_no]
      intro h5
      have := (h.2.2 s j ⟨y, hy, .inl ⟨by omega, h5⟩⟩).2 .nil
      rw [hz] at this
      simp at this
      omega
    · rw [memS_iff]
      rw [List.getElem?_eq_getElem li] at hx
      obtain rfl := Option.some.inj hx
      exact h4.2
  · simp at h4
theorem HoldD.whoNone {D : DataW Unit} {bs : List Ba} {k : Nat} (h : HoldD D bs k 0) (hk : ¬ k < bs.length) {s : ByteArray} (hs : Maps.has D (kl s) = false) : whoB bs s = ⟨#[]⟩ :=
  whoB_none hk fun i x hi hx => by
    rw [memS_no]
    intro h5
    have := (h.2.2 s i ⟨x, hx, .inl ⟨hi, h5⟩⟩).1
    rw [hs] at this; cases this
end Go.Proofs.Ytkapodkidlgkjaf
