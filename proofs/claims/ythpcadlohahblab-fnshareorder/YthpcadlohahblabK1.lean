/- Books in plain: no program in it. -/
import Derived.Test.YthpcadlohahblabA1
import Derived.Laws.Strings
import Derived.Maps.Views
namespace Go.Proofs.Ythpcadlohahblab

/-- A batch; a book. -/
structure Ba where
  nm : ByteArray
  has : List ByteArray
  needs : List ByteArray
structure Bk where
  things : List ByteArray
  bs : List Ba
/-- Whether something holds, as a bool. -/
noncomputable def pB (p : Prop) : Bool := @decide p (Classical.propDecidable p)
theorem pB_yes {p : Prop} (h : p) : pB p = true := by unfold pB; simp [h]
theorem pB_no {p : Prop} (h : ¬ p) : pB p = false := by unfold pB; simp [h]
theorem pB_iff {p : Prop} : pB p = true ↔ p := by unfold pB; simp
theorem pB_not {p : Prop} : pB p = false ↔ ¬ p := by unfold pB; simp

def ltS (a b : ByteArray) : Bool := Op.bytesLess a.toList b.toList
def memS (l : List ByteArray) (s : ByteArray) : Bool := l.any fun x => x.toList == s.toList
def shareB (a b : List ByteArray) : Bool := a.any fun s => memS b s
theorem toL_eq {a b : ByteArray} (h : a.toList = b.toList) : a = b := by
  rw [Go.ByteArray.toList_eq, Go.ByteArray.toList_eq] at h
  cases a; cases b; simp at h; rw [h]
theorem memS_iff (l : List ByteArray) (s : ByteArray) : memS l s = true ↔ s ∈ l := by
  simp only [memS, List.any_eq_true, beq_iff_eq]
  constructor
  · rintro ⟨x, hx, h⟩; rwa [← toL_eq h]
  · exact fun h => ⟨s, h, rfl⟩
theorem memS_no (l : List ByteArray) (s : ByteArray) : memS l s = false ↔ s ∉ l := by rw [← memS_iff]; simp
theorem shareB_iff (a b : List ByteArray) : shareB a b = true ↔ ∃ s, s ∈ a ∧ s ∈ b := by
  simp only [shareB, List.any_eq_true, memS_iff]
theorem shareB_no (a b : List ByteArray) : shareB a b = false ↔ ∀ s, s ∈ a → s ∉ b := by
  rw [← Bool.not_eq_true, shareB_iff]; simp
theorem memS_take {l : List ByteArray} {s : ByteArray} {k : Nat} (hk : k < l.length) (h : memS (l.take k) s = false) (hq : ((l[k]).toList == s.toList) = false) : memS (l.take (k + 1)) s = false := by
  rw [List.take_succ_eq_append_getElem hk, memS, List.any_append]
  rw [memS] at h
  simp [h, hq]
theorem memS_found {l : List ByteArray} {s : ByteArray} {k : Nat} (hk : k < l.length) (hq : ((l[k]).toList == s.toList) = true) : memS l s = true := by
  rw [memS, List.any_eq_true]
  exact ⟨l[k], List.getElem_mem hk, hq⟩
theorem memS_all {l : List ByteArray} {s : ByteArray} {k : Nat} (hk : ¬ k < l.length) (h : memS (l.take k) s = false) : memS l s = false := by
  rwa [List.take_of_length_le (by omega)] at h
theorem shareB_take {a b : List ByteArray} {k : Nat} (hk : k < a.length) (h : shareB (a.take k) b = false) (hq : memS b a[k] = false) : shareB (a.take (k + 1)) b = false := by
  rw [List.take_succ_eq_append_getElem hk, shareB, List.any_append]
  rw [shareB] at h
  simp [h, hq]
theorem shareB_found {a b : List ByteArray} {k : Nat} (hk : k < a.length) (hq : memS b a[k] = true) : shareB a b = true := by
  rw [shareB, List.any_eq_true]
  exact ⟨a[k], List.getElem_mem hk, hq⟩
theorem shareB_all {a b : List ByteArray} {k : Nat} (hk : ¬ k < a.length) (h : shareB (a.take k) b = false) : shareB a b = false := by
  rwa [List.take_of_length_le (by omega)] at h

/-- Ascending up to place k; names up to place k; of a list up to place k. -/
def AscTo (l : List ByteArray) (k : Nat) : Prop := ∀ (i : Nat) (a b : ByteArray), i + 1 < k → l[i]? = some a → l[i + 1]? = some b → ltS a b = true
def NamesTo (l : List ByteArray) (k : Nat) : Prop := ∀ (i : Nat) (a : ByteArray), i < k → l[i]? = some a → nameB a = true
def PartTo (l all : List ByteArray) (k : Nat) : Prop := ∀ (i : Nat) (a : ByteArray), i < k → l[i]? = some a → memS all a = true
def Asc (l : List ByteArray) : Prop := AscTo l l.length
def Names (l : List ByteArray) : Prop := NamesTo l l.length
def Part (l all : List ByteArray) : Prop := PartTo l all l.length
def PartOk (l all : List ByteArray) : Prop := Part l all ∧ Asc l
def ThingsOk (l : List ByteArray) : Prop := l.length ≤ 8 ∧ Names l ∧ Asc l
theorem AscTo.zero (l : List ByteArray) : AscTo l 0 := fun i _ _ h => by omega
theorem AscTo.one (l : List ByteArray) : AscTo l 1 := fun i _ _ h => by omega
theorem NamesTo.zero (l : List ByteArray) : NamesTo l 0 := fun i _ h => by omega
theorem PartTo.zero (l all : List ByteArray) : PartTo l all 0 := fun i _ h => by omega
theorem AscTo.step {l : List ByteArray} {k : Nat} (h : AscTo l (k + 1)) (hk : k + 1 < l.length) (hl : ltS l[k] l[k + 1] = true) : AscTo l (k + 2) := fun i a b hi ha hb => by
  by_cases e : i = k
  · subst e
    rw [List.getElem?_eq_getElem (by omega)] at ha hb
    obtain rfl := Option.some.inj ha
    obtain rfl := Option.some.inj hb
    exact hl
  · exact h i a b (by omega) ha hb
theorem NamesTo.step {l : List ByteArray} {k : Nat} (h : NamesTo l k) (hk : k < l.length) (hl : nameB l[k] = true) : NamesTo l (k + 1) := fun i a hi ha => by
  by_cases e : i = k
  · subst e
    rw [List.getElem?_eq_getElem hk] at ha
    obtain rfl := Option.some.inj ha
    exact hl
  · exact h i a (by omega) ha
theorem PartTo.step {l all : List ByteArray} {k : Nat} (h : PartTo l all k) (hk : k < l.length) (hl : memS all l[k] = true) : PartTo l all (k + 1) := fun i a hi ha => by
  by_cases e : i = k
  · subst e
    rw [List.getElem?_eq_getElem hk] at ha
    obtain rfl := Option.some.inj ha
    exact hl
  · exact h i a (by omega) ha
theorem asc_end {l : List ByteArray} {k : Nat} (h : AscTo l k) (hk : ¬ k < l.length) : Asc l := fun i a b hi ha hb => h i a b (by omega) ha hb
theorem names_end {l : List ByteArray} {k : Nat} (h : NamesTo l k) (hk : ¬ k < l.length) : Names l := fun i a hi ha => h i a (by omega) ha
theorem part_end {l all : List ByteArray} {k : Nat} (h : PartTo l all k) (hk : ¬ k < l.length) : Part l all := fun i a hi ha => h i a (by omega) ha
theorem asc_at {l : List ByteArray} (h : Asc l) {k : Nat} (hk : k + 1 < l.length) : ltS l[k] l[k + 1] = true := h k _ _ hk (by rw [List.getElem?_eq_getElem]) (by rw [List.getElem?_eq_getElem])
theorem names_at {l : List ByteArray} (h : Names l) {k : Nat} (hk : k < l.length) : nameB l[k] = true := h k _ hk (by rw [List.getElem?_eq_getElem])
theorem part_at {l all : List ByteArray} (h : Part l all) {k : Nat} (hk : k < l.length) : memS all l[k] = true := h k _ hk (by rw [List.getElem?_eq_getElem])
theorem names_mem {l : List ByteArray} (h : Names l) {s : ByteArray} (hs : s ∈ l) : nameB s = true := by
  obtain ⟨i, hi, rfl⟩ := List.getElem_of_mem hs
  exact names_at h hi
theorem part_mem {l all : List ByteArray} (h : Part l all) {s : ByteArray} (hs : s ∈ l) : s ∈ all := by
  obtain ⟨i, hi, rfl⟩ := List.getElem_of_mem hs
  exact (memS_iff _ _).1 (part_at h hi)

/-- What a batch at place i of a book is asked; none of the batches up to place k shares what it has with one ahead of it. -/
def BaOk (things : List ByteArray) (x : Ba) : Prop := PartOk x.needs things ∧ PartOk x.has x.needs
def BasTo (things : List ByteArray) (bs : List Ba) (k : Nat) : Prop := ∀ (i : Nat) (x : Ba), i < k → bs[i]? = some x → BaOk things x
/-- No batch up to place n has what one ahead of it has; of batch n itself those ahead of place m. -/
def ApartTo (bs : List Ba) (n m : Nat) : Prop := ∀ (i j : Nat) (x y : Ba), j < i → (i < n ∨ i = n ∧ j < m) → bs[i]? = some x → bs[j]? = some y → shareB x.has y.has = false
def nms (bs : List Ba) : List ByteArray := bs.map (·.nm)
def Apart (bs : List Ba) : Prop := ApartTo bs bs.length 0
def BookOk (b : Bk) : Prop := ThingsOk b.things ∧ b.bs.length ≤ 5 ∧ Names (nms b.bs) ∧ Asc (nms b.bs) ∧ BasTo b.things b.bs b.bs.length ∧ Apart b.bs
noncomputable def bookB (b : Bk) : Bool := pB (BookOk b)
theorem nms_length (bs : List Ba) : (nms bs).length = bs.length := by simp [nms]
theorem nms_get (bs : List Ba) (k : Nat) (hk : k < bs.length) : (nms bs)[k]'(by rw [nms_length]; exact hk) = (bs[k]).nm := by simp [nms]
theorem nms_take (bs : List Ba) (k : Nat) : nms (bs.take k) = (nms bs).take k := by simp [nms]
theorem BasTo.zero (things : List ByteArray) (bs : List Ba) : BasTo things bs 0 := fun i _ h => by omega
theorem BasTo.step {things : List ByteArray} {bs : List Ba} {k : Nat} (h : BasTo things bs k) (hk : k < bs.length) (hl : BaOk things bs[k]) : BasTo things bs (k + 1) := fun i a hi ha => by
  by_cases e : i = k
  · subst e
    rw [List.getElem?_eq_getElem hk] at ha
    obtain rfl := Option.some.inj ha
    exact hl
  · exact h i a (by omega) ha
theorem BasTo.at {things : List ByteArray} {bs : List Ba} {n k : Nat} (h : BasTo things bs n) (hn : k < n) (hk : k < bs.length) : BaOk things bs[k] := h k _ hn (by rw [List.getElem?_eq_getElem])
theorem bas_end {things : List ByteArray} {bs : List Ba} {k : Nat} (h : BasTo things bs k) (hk : ¬ k < bs.length) : BasTo things bs bs.length := fun i a hi ha => h i a (by omega) ha
theorem ApartTo.zero (bs : List Ba) : ApartTo bs 0 0 := fun i j _ _ _ h => by omega
theorem ApartTo.step {bs : List Ba} {n m : Nat} (h : ApartTo bs n m) (hn : n < bs.length) (hm : m < n) (hq : shareB (bs[n]).has (bs[m]).has = false) : ApartTo bs n (m + 1) := fun i j x y hji hi hx hy => by
  by_cases e : i = n ∧ j = m
  · obtain ⟨rfl, rfl⟩ := e
    rw [List.getElem?_eq_getElem (by omega)] at hx hy
    obtain rfl := Option.some.inj hx
    obtain rfl := Option.some.inj hy
    exact hq
  · exact h i j x y hji (by omega) hx hy
theorem ApartTo.next {bs : List Ba} {n m : Nat} (h : ApartTo bs n m) (hm : ¬ m < n) : ApartTo bs (n + 1) 0 := fun i j x y hji hi hx hy => h i j x y hji (by omega) hx hy
theorem apart_end {bs : List Ba} {n : Nat} (h : ApartTo bs n 0) (hn : ¬ n < bs.length) : Apart bs := fun i j x y hji hi hx hy => h i j x y hji (by
  have := (List.getElem?_eq_some_iff.1 hx).1
  omega) hx hy
theorem Apart.at {bs : List Ba} (h : Apart bs) {n m : Nat} (hn : n < bs.length) (hm : m < n) : shareB (bs[n]).has (bs[m]).has = false := h n m _ _ hm (by omega) (by rw [List.getElem?_eq_getElem]) (by rw [List.getElem?_eq_getElem])
/-- The place of the first batch that has a thing, and its name. -/
def whoB (bs : List Ba) (s : ByteArray) : ByteArray := ((bs.find? fun x => memS x.has s).map (·.nm)).getD ⟨#[]⟩
noncomputable def whoS (b : Bk) (s : ByteArray) : ByteArray := if bookB b = true then whoB b.bs s else ⟨#[]⟩
/-- No batch up to place k has a thing. -/
def FreeTo (bs : List Ba) (s : ByteArray) (k : Nat) : Prop := ∀ (i : Nat) (x : Ba), i < k → bs[i]? = some x → memS x.has s = false
theorem FreeTo.zero (bs : List Ba) (s : ByteArray) : FreeTo bs s 0 := fun i _ h => by omega
theorem FreeTo.step {bs : List Ba} {s : ByteArray} {k : Nat} (h : FreeTo bs s k) (hk : k < bs.length) (hl : memS (bs[k]).has s = false) : FreeTo bs s (k + 1) := fun i a hi ha => by
  by_cases e : i = k
  · subst e
    rw [List.getElem?_eq_getElem hk] at ha
    obtain rfl := Option.some.inj ha
    exact hl
  · exact h i a (by omega) ha
theorem whoB_at {bs : List Ba} {s : ByteArray} {k : Nat} (hk : k < bs.length) (h : FreeTo bs s k) (hl : memS (bs[k]).has s = true) : whoB bs s = (bs[k]).nm := by
  have : bs.find? (fun x => memS x.has s) = some bs[k] := by
    rw [List.find?_eq_some_iff_getElem]
    exact ⟨hl, k, hk, rfl, fun j hj => by rw [h j _ hj (by rw [List.getElem?_eq_getElem (by omega)])]; rfl⟩
  rw [whoB, this]; rfl
theorem whoB_none {bs : List Ba} {s : ByteArray} {k : Nat} (hk : ¬ k < bs.length) (h : FreeTo bs s k) : whoB bs s = ⟨#[]⟩ := by
  have : bs.find? (fun x => memS x.has s) = none := by
    rw [List.find?_eq_none]
    intro x hx
    obtain ⟨i, hi, rfl⟩ := List.getElem_of_mem hx
    rw [h i _ (by omega) (by rw [List.getElem?_eq_getElem])]; simp
  rw [whoB, this]; rfl
/-- The place of a text in a list, -1 if it is not there. -/
def idxI (l : List ByteArray) (s : ByteArray) : Int := if memS l s = true then (l.findIdx fun x => x.toList == s.toList : Nat) else -1
theorem idxI_found {l : List ByteArray} {s : ByteArray} {k : Nat} (hk : k < l.length) (h : memS (l.take k) s = false) (hq : ((l[k]).toList == s.toList) = true) : idxI l s = (k : Int) := by
  have hf : l.findIdx (fun x => x.toList == s.toList) = k := by
    rw [List.findIdx_eq hk]
    refine ⟨hq, fun j hj => ?_⟩
    rw [memS, List.any_eq_false] at h
    have := h (l[j]) (by rw [List.mem_take_iff_getElem]; exact ⟨j, by omega, rfl⟩)
    simpa using this
  rw [idxI, if_pos (memS_found hk hq), hf]
theorem idxI_none {l : List ByteArray} {s : ByteArray} (h : memS l s = false) : idxI l s = -1 := by rw [idxI, h]; simp
theorem idxI_mem (l : List ByteArray) (s : ByteArray) : decide (0 ≤ idxI l s) = memS l s := by
  cases h : memS l s
  · rw [idxI_none h]; rfl
  · rw [idxI, if_pos h]; simp
theorem beq_flip (a b : List UInt8) : (a == b) = (b == a) := by
  rw [Bool.eq_iff_iff, beq_iff_eq, beq_iff_eq]; exact eq_comm
end Go.Proofs.Ythpcadlohahblab

/- Books in plain: ascending lists, who has what in a map. -/
namespace Go.Proofs.Ythpcadlohahblab
open Go.Maps

theorem bl_eq : ∀ (x y : List UInt8), Op.bytesLess x y = decide (x < y)
  | [], [] => by simp [Op.bytesLess]
  | _ :: _, [] => by simp [Op.bytesLess]
  | [], _ :: _ => by simp [Op.bytesLess]
  | a :: x, b :: y => by
    rw [Op.bytesLess, bl_eq x y]
    simp only [List.cons_lt_cons_iff]
    by_cases h1 : a < b <;> by_cases h2 : a = b <;> by_cases h3 : x < y <;> simp [h1, h2, h3]
theorem ltS_iff (a b : ByteArray) : ltS a b = true ↔ a.toList < b.toList := by rw [ltS, bl_eq]; simp
theorem ltS_trans {a b c : ByteArray} (h : ltS a b = true) (k : ltS b c = true) : ltS a c = true := by
  rw [ltS_iff] at *; exact List.lt_trans h k
theorem ltS_irrefl (a : ByteArray) : ltS a a = false := by
  rw [← Bool.not_eq_true, ltS_iff]; exact List.lt_irrefl _
theorem asc_lt {l : List ByteArray} (h : Asc l) : ∀ (d i : Nat) (a b : ByteArray), l[i]? = some a → l[i + 1 + d]? = some b → ltS a b = true
  | 0, i, a, b, ha, hb => h i a b (List.getElem?_eq_some_iff.1 hb).1 ha hb
  | d + 1, i, a, b, ha, hb => by
    have hl : i + 1 + (d + 1) < l.length := (List.getElem?_eq_some_iff.1 hb).1
    have hm : l[i + 1]? = some l[i + 1] := List.getElem?_eq_getElem (by omega)
    exact ltS_trans (h i a _ (by omega) ha hm) (asc_lt h d (i + 1) _ b hm (by rw [show i + 1 + 1 + d = i + 1 + (d + 1) by omega]; exact hb))
theorem asc_ne {l : List ByteArray} (h : Asc l) {i j : Nat} {a : ByteArray} (hi : l[i]? = some a) (hj : l[j]? = some a) : i = j := by
  rcases Nat.lt_trichotomy i j with h1 | h1 | h1
  · have := asc_lt h (j - i - 1) i a a hi (by rw [show i + 1 + (j - i - 1) = j by omega]; exact hj)
    rw [ltS_irrefl] at this; cases this
  · exact h1
  · have := asc_lt h (i - j - 1) j a a hj (by rw [show j + 1 + (i - j - 1) = i by omega]; exact hi)
    rw [ltS_irrefl] at this; cases this
/-- A list whose places differ, all of another list, is no longer than it. -/
theorem short_of : ∀ (l m : List ByteArray), (∀ (i j : Nat) (a : ByteArray), l[i]? = some a → l[j]? = some a → i = j) → (∀ s ∈ l, s ∈ m) → l.length ≤ m.length
  | [], m, _, _ => by simp
  | x :: r, m, hd, hs => by
    have hx : x ∈ m := hs x (by simp)
    obtain ⟨m1, m2, rfl⟩ := List.append_of_mem hx
    have := short_of r (m1 ++ m2) (fun i j a hi hj => by
      have := hd (i + 1) (j + 1) a (by simpa using hi) (by simpa using hj)
      omega) (fun s h => by
      have h1 := hs s (by simp [h])
      rcases List.mem_append.1 h1 with h2 | h2
      · simp [h2]
      · rcases List.mem_cons.1 h2 with h3 | h3
        · subst h3
          obtain ⟨i, hi, e⟩ := List.getElem_of_mem h
          have := hd 0 (i + 1) s (by simp) (by simp [List.getElem?_eq_getElem hi, e])
          omega
        · simp [h3])
    simp at this ⊢; omega
theorem part_short {l all : List ByteArray} (h : PartOk l all) : l.length ≤ all.length := short_of l all (fun _ _ _ hi hj => asc_ne h.2 hi hj) (fun _ hs => part_mem h.1 hs)

/-- What a name is in a map. -/
def kl (s : ByteArray) : Lit := .string s.data.toList
theorem kl_inj {a b : ByteArray} (h : kl a = kl b) : a = b := by
  simp only [kl, Lit.string.injEq] at h
  cases a; cases b; simp at h; rw [h]
theorem kl_key (s : ByteArray) : WideAt.IsKeyLit (kl s) := trivial
/-- Up to batch k, and of it up to place m, a thing is at place i. -/
def HadBy (bs : List Ba) (k m : Nat) (s : ByteArray) (i : Nat) : Prop := ∃ x, bs[i]? = some x ∧ (i < k ∧ s ∈ x.has ∨ i = k ∧ s ∈ x.has.take m)
/-- The map tells of each thing that somebody has, up to there, who. -/
def HoldD (D : DataW Unit) (bs : List Ba) (k m : Nat) : Prop := IsMap D ∧ (∀ s, Maps.has D (kl s) = true → ∃ i, HadBy bs k m s i) ∧ (∀ s i, HadBy bs k m s i → Maps.has D (kl s) = true ∧ ∀ z, D.atKey (kl s) z = .lit (.int .i64 (i : Int)))
theorem HoldD.start (bs : List Ba) : HoldD (.map []) bs 0 0 := by
  refine ⟨isMap_empty, fun s h => by simp [Maps.has] at h, fun s i h => ?_⟩
  obtain ⟨x, _, h | h⟩ := h
  · omega
  · simp at h
theorem HadBy.up {bs : List Ba} {k m i : Nat} {s : ByteArray} (h : HadBy bs k m s i) : HadBy bs k (m + 1) s i := by
  obtain ⟨x, hx, h | ⟨h1, h2⟩⟩ := h
  · exact ⟨x, hx, .inl h⟩
  · refine ⟨x, hx, .inr ⟨h1, ?_⟩⟩
    rw [List.mem_take_iff_getElem] at h2 ⊢
    obtain ⟨j, hj, e⟩ := h2
    exact ⟨j, by omega, e⟩
theorem HadBy.new {bs : List Ba} {k m : Nat} (hk : k < bs.length) (hm : m < (bs[k]).has.length) : HadBy bs k (m + 1) ((bs[k]).has[m]) k :=
  ⟨bs[k], List.getElem?_eq_getElem hk, .inr ⟨rfl, by rw [List.mem_take_iff_getElem]; exact ⟨m, by omega, rfl⟩⟩⟩
theorem HadBy.split {bs : List Ba} {k m i : Nat} {s : ByteArray} (hk : k < bs.length) (hm : m < (bs[k]).has.length) (h : HadBy bs k (m + 1) s i) : HadBy bs k m s i ∨ (i = k ∧ s = (bs[k]).has[m]) := by
  obtain ⟨x, hx, h | ⟨rfl, h2⟩⟩ := h
  · exact .inl ⟨x, hx, .inl h⟩
  · rw [List.getElem?_eq_getElem hk] at hx
    obtain rfl := Option.some.inj hx
    rw [List.take_succ_eq_append_getElem hm] at h2
    rcases List.mem_append.1 h2 with h3 | h3
    · exact .inl ⟨_, List.getElem?_eq_getElem hk, .inr ⟨rfl, h3⟩⟩
    · exact .inr ⟨rfl, by simpa using h3⟩
theorem HoldD.step {D : DataW Unit} {bs : List Ba} {k m : Nat} (h : HoldD D bs k m) (hk : k < bs.length) (hm : m < (bs[k]).has.length) (hn : Maps.has D (kl ((bs[k]).has[m])) = false) :
    HoldD (D.put (kl ((bs[k]).has[m])) (.lit (.int .i64 (k : Int)))) bs k (m + 1) := by
  obtain ⟨h1, h2, h3⟩ := h
  refine ⟨h1.put _ _, fun s hs => ?_, fun s i hi => ?_⟩
  · by_cases e : kl s = kl ((bs[k]).has[m])
    · obtain rfl := kl_inj e
      exact ⟨k, HadBy.new hk hm⟩
    · rw [has_put_other e] at hs
      obtain ⟨i, hi⟩ := h2 s hs
      exact ⟨i, hi.up⟩
  · rcases hi.split hk hm with h4 | ⟨rfl, rfl⟩
    · have e : kl s ≠ kl ((bs[k]).has[m]) := fun e => by
        have := (h3 s i h4).1
        rw [e, hn] at this; cases this
      exact ⟨by rw [has_put_other e]; exact (h3 s i h4).1, fun z => by rw [atKey_put_other e]; exact (h3 s i h4).2 z⟩
    · exact ⟨has_put_same h1 (kl_key _) _, fun z => atKey_put_same h1 (kl_key _) _ z⟩
theorem HadBy.next {bs : List Ba} {k m i : Nat} {s : ByteArray} (hk : k < bs.length) (hm : ¬ m < (bs[k]).has.length) : HadBy bs k m s i ↔ HadBy bs (k + 1) 0 s i := by
  constructor
  · rintro ⟨x, hx, h | ⟨rfl, h2⟩⟩
    · exact ⟨x, hx, .inl ⟨by omega, h.2⟩⟩
    · exact ⟨x, hx, .inl ⟨by omega, List.mem_of_mem_take h2⟩⟩
  · rintro ⟨x, hx, h | ⟨_, h2⟩⟩
    · by_cases e : i = k
      · subst e
        rw [List.getElem?_eq_getElem hk] at hx
        obtain rfl := Option.some.inj hx
        exact ⟨_, List.getElem?_eq_getElem hk, .inr ⟨rfl, by rw [List.take_of_length_le (by omega)]; exact h.2⟩⟩
      · exact ⟨x, hx, .inl ⟨by omega, h.2⟩⟩
    · simp at h2
theorem HoldD.next {D : DataW Unit} {bs : List Ba} {k m : Nat} (h : HoldD D bs k m) (hk : k < bs.length) (hm : ¬ m < (bs[k]).has.length) : HoldD D bs (k + 1) 0 :=
  ⟨h.1, fun s hs => by obtain ⟨i, hi⟩ := h.2.1 s hs; exact ⟨i, (HadBy.next hk hm).1 hi⟩, fun s i hi => h.2.2 s i ((HadBy.next hk hm).2 hi)⟩
/-- Somebody has it already: two have one thing. -/
theorem HoldD.twice {D : DataW Unit} {bs : List Ba} {k m : Nat} (h : HoldD D bs k m) (hk : k < bs.length) (hm : m < (bs[k]).has.length) (hd : Asc (bs[k]).has) (hn : Maps.has D (kl ((bs[k]).has[m])) = true) : ¬ Apart bs := fun ha => by
  obtain ⟨i, x, hx, h4 | ⟨rfl, h4⟩⟩ := h.2.1 _ hn
  · have hi : i < bs.length := (List.getElem?_eq_some_iff.1 hx).1
    have := ha.at hk h4.1
    rw [shareB_no] at this
    rw [List.getElem?_eq_getElem hi] at hx
    obtain rfl := Option.some.inj hx
    exact this _ (List.getElem_mem hm) h4.2
  · rw [List.getElem?_eq_getElem hk] at hx
    obtain rfl := Option.some.inj hx
    rw [List.mem_take_iff_getElem] at h4
    obtain ⟨j, hj, e⟩ := h4
    have := asc_ne hd (i := j) (j := m) (List.getElem?_eq_getElem (by omega)) (by rw [e]; exact List.getElem?_eq_getElem hm)
    omega
theorem HoldD.apart {D : DataW Unit} {bs : List Ba} {k : Nat} (h : HoldD D bs k 0) (hk : ¬ k < bs.length) : Apart bs := fun i j x y hji hi hx hy => by
  have li := (List.getElem?_eq_some_iff.1 hx).1
  have lj := (List.getElem?_eq_some_iff.1 hy).1
  rw [shareB_no]
  intro s h1 h2
  have e1 := (h.2.2 s i ⟨x, hx, .inl ⟨by omega, h1⟩⟩).2 .nil
  have e2 := (h.2.2 s j ⟨y, hy, .inl ⟨by omega, h2⟩⟩).2 .nil
  rw [e1] at e2
  simp at e2
  omega
/-- Who has a thing, off the map. -/
theorem HoldD.who {D : DataW Unit} {bs : List Ba} {k : Nat} (h : HoldD D bs k 0) {s : ByteArray} (hs : Maps.has D (kl s) = true) : ∃ (i : Nat) (hi : i < bs.length), (∀ z, D.atKey (kl s) z = .lit (.int .i64 (i : Int))) ∧ whoB bs s = (bs[i]).nm := by
  obtain ⟨i, hi⟩ := h.2.1 s hs
  have hz := (h.2.2 s i hi).2
  obtain ⟨x, hx, h4 | ⟨_, h4⟩⟩ := hi
  · have li := (List.getElem?_eq_some_iff.1 hx).1
    refine ⟨i, li, hz, whoB_at li (fun j y hj hy => ?_) ?_⟩
    · rw [memS_no]
      intro h5
      have := (h.2.2 s j ⟨y, hy, .inl ⟨by omega, h5⟩⟩).2 .nil
      rw [hz] at this
      simp at this
      omega
    · rw [memS_iff]
      rw [List.getElem?_eq_getElem li] at hx
      obtain rfl := Option.some.inj hx
      exact h4.2
  · simp at h4
theorem HoldD.whoNone {D : DataW Unit} {bs : List Ba} {k : Nat} (h : HoldD D bs k 0) (hk : ¬ k < bs.length) {s : ByteArray} (hs : Maps.has D (kl s) = false) : whoB bs s = ⟨#[]⟩ :=
  whoB_none hk fun i x hi hx => by
    rw [memS_no]
    intro h5
    have := (h.2.2 s i ⟨x, hx, .inl ⟨hi, h5⟩⟩).1
    rw [hs] at this; cases this
end Go.Proofs.Ythpcadlohahblab

/- Books in plain: bits of things; who can have all it needs, orders that fit. -/
namespace Go.Proofs.Ythpcadlohahblab

/-- The sum of the bits of those things that are picked. -/
def bitsN : List ByteArray → (ByteArray → Bool) → Nat
  | [], _ => 0
  | t :: r, P => (if P t = true then 1 else 0) + 2 * bitsN r P
theorem bitsN_snoc (P : ByteArray → Bool) (t : ByteArray) : ∀ l : List ByteArray, bitsN (l ++ [t]) P = bitsN l P + (if P t = true then 2 ^ l.length else 0)
  | [] => by simp [bitsN]
  | x :: r => by
    rw [List.cons_append, bitsN, bitsN, bitsN_snoc P t r, List.length_cons, Nat.pow_succ]
    split <;> split <;> omega
theorem bitsN_lt (P : ByteArray → Bool) : ∀ l : List ByteArray, bitsN l P < 2 ^ l.length
  | [] => by simp [bitsN]
  | x :: r => by
    have := bitsN_lt P r
    rw [bitsN, List.length_cons, Nat.pow_succ]
    split <;> omega
theorem bitsN_small {l : List ByteArray} (h : l.length ≤ 8) (P : ByteArray → Bool) : bitsN l P < 256 :=
  Nat.lt_of_lt_of_le (bitsN_lt P l) (Nat.pow_le_pow_right (by omega) h)
theorem bitsN_congr {P Q : ByteArray → Bool} : ∀ {l : List ByteArray}, (∀ t ∈ l, P t = Q t) → bitsN l P = bitsN l Q
  | [], _ => rfl
  | x :: r, h => by rw [bitsN, bitsN, h x (by simp), bitsN_congr fun t ht => h t (by simp [ht])]
theorem bitsN_add {P Q : ByteArray → Bool} : ∀ {l : List ByteArray}, (∀ t ∈ l, P t = true → Q t = false) → bitsN l P + bitsN l Q = bitsN l fun t => P t || Q t
  | [], _ => rfl
  | x :: r, h => by
    have h1 := bitsN_add (P := P) (Q := Q) (l := r) fun t ht => h t (by simp [ht])
    have h2 := h x (by simp)
    rw [bitsN, bitsN, bitsN, ← h1]
    cases hp : P x <;> cases hq : Q x <;> simp_all <;> omega
theorem bitsN_sub {P Q : ByteArray → Bool} {l : List ByteArray} (h : ∀ t ∈ l, Q t = true → P t = true) : bitsN l P = bitsN l Q + bitsN l fun t => P t && !Q t := by
  rw [bitsN_add (fun t _ hq => by simp [hq])]
  refine bitsN_congr fun t ht => ?_
  cases hq : Q t
  · simp
  · simp [h t ht hq]
theorem bitsN_test (P : ByteArray → Bool) : ∀ (l : List ByteArray) (i : Nat), (bitsN l P).testBit i = (l[i]?.map P).getD false
  | [], i => by simp [bitsN]
  | x :: r, 0 => by
    rw [bitsN, Nat.testBit_zero]
    have e : ((if P x = true then 1 else 0) + 2 * bitsN r P) % 2 = (if P x = true then 1 else 0) := by split <;> omega
    rw [e]
    cases h : P x <;> simp [h]
  | x :: r, i + 1 => by
    rw [bitsN, Nat.testBit_succ, List.getElem?_cons_succ, ← bitsN_test P r i]
    congr 1
    split <;> omega
/-- Nothing that is needed lacks. -/
theorem bitsN_not {P Q : ByteArray → Bool} {l : List ByteArray} (hl : l.length ≤ 8) : (bitsN l P &&& (18446744073709551615 - bitsN l Q) = 0) ↔ ∀ t ∈ l, P t = true → Q t = true := by
  have hQ := bitsN_small hl Q
  have e : 18446744073709551615 - bitsN l Q = 2 ^ 64 - (bitsN l Q + 1) := by omega
  constructor
  · intro h t ht hp
    obtain ⟨i, hi, rfl⟩ := List.getElem_of_mem ht
    have h1 := congrArg (Nat.testBit · i) h
    simp only [Nat.testBit_and, Nat.zero_testBit] at h1
    rw [e, Nat.testBit_two_pow_sub_succ (by omega), bitsN_test, bitsN_test, List.getElem?_eq_getElem hi] at h1
    simp [hp] at h1
    exact h1 (by omega)
  · intro h
    refine Nat.eq_of_testBit_eq fun i => ?_
    rw [Nat.testBit_and, Nat.zero_testBit, e, Nat.testBit_two_pow_sub_succ (by omega), bitsN_test, bitsN_test]
    rcases Nat.lt_or_ge i l.length with hi | hi
    · rw [List.getElem?_eq_getElem hi]
      have := h l[i] (List.getElem_mem hi)
      cases hp : P l[i] <;> simp_all
    · rw [List.getElem?_eq_none hi]; simp

/-- Of the batches that are not gone, up to place k, none but the one at place 'at' has anything of its needs. -/
def CanTo (bs : List Ba) (at' : Nat) (gone : List ByteArray) (k : Nat) : Prop := ∀ (i : Nat) (x y : Ba), i < k → i ≠ at' → bs[i]? = some x → bs[at']? = some y → memS gone x.nm = false → shareB x.has y.needs = false
def Can (bs : List Ba) (at' : Nat) (gone : List ByteArray) : Prop := CanTo bs at' gone bs.length
theorem CanTo.zero (bs : List Ba) (a : Nat) (gone : List ByteArray) : CanTo bs a gone 0 := fun i _ _ h => by omega
theorem can_end {bs : List Ba} {a : Nat} {gone : List ByteArray} {k : Nat} (h : CanTo bs a gone k) (hk : ¬ k < bs.length) : Can bs a gone := fun i x y hi hne hx hy hm => h i x y (by omega) hne hx hy hm
theorem CanTo.step {bs : List Ba} {a : Nat} {gone : List ByteArray} {k : Nat} (h : CanTo bs a gone k) (hk : k < bs.length) (ha : a < bs.length) (h1 : k = a ∨ memS gone (bs[k]).nm = true ∨ shareB (bs[k]).has (bs[a]).needs = false) : CanTo bs a gone (k + 1) := fun i x y hi hne hx hy hm => by
  by_cases e : i = k
  · subst e
    rw [List.getElem?_eq_getElem hk] at hx
    rw [List.getElem?_eq_getElem ha] at hy
    obtain rfl := Option.some.inj hx
    obtain rfl := Option.some.inj hy
    rcases h1 with h1 | h1 | h1
    · exact absurd h1 hne
    · rw [hm] at h1; cases h1
    · exact h1
  · exact h i x y (by omega) hne hx hy hm
theorem can_no {bs : List Ba} {a : Nat} {gone : List ByteArray} {k : Nat} (hk : k < bs.length) (ha : a < bs.length) (hne : k ≠ a) (hm : memS gone (bs[k]).nm = false) (hs : shareB (bs[k]).has (bs[a]).needs = true) : ¬ Can bs a gone := fun h => by
  have := h k _ _ hk hne (List.getElem?_eq_getElem hk) (List.getElem?_eq_getElem ha) hm
  rw [hs] at this; cases this
/-- A thing that nobody has who is not gone. -/
def freeB (bs : List Ba) (G : Nat → Bool) (k : Nat) (t : ByteArray) : Bool := (List.range k).all fun i => G i || !((bs[i]?.map fun x => memS x.has t).getD false)
theorem freeB_iff (bs : List Ba) (G : Nat → Bool) (k : Nat) (t : ByteArray) : freeB bs G k t = true ↔ ∀ (i : Nat) (x : Ba), i < k → bs[i]? = some x → G i = false → memS x.has t = false := by
  simp only [freeB, List.all_eq_true, List.mem_range]
  constructor
  · intro h i x hi hx hg
    have := h i hi
    rw [hx, hg] at this
    simpa using this
  · intro h i hi
    cases hg : G i
    · cases hx : bs[i]? with
      | none => simp
      | some x => simp [h i x hi hx hg]
    · rfl
theorem freeB_succ (bs : List Ba) (G : Nat → Bool) (k : Nat) (t : ByteArray) : freeB bs G (k + 1) t = (freeB bs G k t && (G k || !((bs[k]?.map fun x => memS x.has t).getD false))) := by
  simp [freeB, List.range_succ]
/-- Who can have all it needs, by bits. -/
theorem can_bits {b : Bk} (hok : BookOk b) {a : Nat} (ha : a < b.bs.length) {gone : List ByteArray} {G : Nat → Bool} (hG : ∀ (i : Nat) (hi : i < b.bs.length), G i = memS gone (b.bs[i]).nm) (hga : G a = false) :
    (∀ t ∈ b.things, memS (b.bs[a]).needs t = true → (freeB b.bs G b.bs.length t || memS (b.bs[a]).has t) = true) ↔ Can b.bs a gone := by
  have hb := hok.2.2.2.2.1.at ha ha
  constructor
  · intro h i x y hi hne hx hy hm
    rw [List.getElem?_eq_getElem hi] at hx
    rw [List.getElem?_eq_getElem ha] at hy
    obtain rfl := Option.some.inj hx
    obtain rfl := Option.some.inj hy
    rw [shareB_no]
    intro s h1 h2
    have h3 := h s (part_mem hb.1.1 h2) ((memS_iff _ _).2 h2)
    rcases Bool.or_eq_true_iff.1 h3 with h4 | h4
    · have := (freeB_iff _ _ _ _).1 h4 i _ hi (List.getElem?_eq_getElem hi) (by rw [hG i hi]; exact hm)
      rw [memS_no] at this
      exact this h1
    · have h5 := (memS_iff _ _).1 h4
      rcases Nat.lt_or_gt_of_ne hne with h6 | h6
      · have := hok.2.2.2.2.2.at ha h6
        rw [shareB_no] at this
        exact this s h5 h1
      · have := hok.2.2.2.2.2.at hi h6
        rw [shareB_no] at this
        exact this s h1 h5
  · intro h t ht hn
    cases hh : memS (b.bs[a]).has t
    · rw [Bool.or_false, freeB_iff]
      intro i x hi hx hg
      rw [List.getElem?_eq_getElem hi] at hx
      obtain rfl := Option.some.inj hx
      by_cases e : i = a
      · subst e; exact hh
      · have := h i _ _ hi e (List.getElem?_eq_getElem hi) (List.getElem?_eq_getElem ha) (by rw [← hG i hi]; exact hg)
        rw [shareB_no] at this
        rw [memS_no]
        exact fun h1 => this t h1 ((memS_iff _ _).1 hn)
    · simp
/-- An order fits up to place k. -/
def FitsTo (bs : List Ba) (order : List ByteArray) (k : Nat) : Prop := ∀ (i : Nat) (s : ByteArray), i < k → order[i]? = some s → 0 ≤ idxI (nms bs) s ∧ memS (order.take i) s = false ∧ Can bs (idxI (nms bs) s).toNat (order.take i)
def Fits (b : Bk) (order : List ByteArray) : Prop := BookOk b ∧ order.length = b.bs.length ∧ FitsTo b.bs order order.length
theorem FitsTo.zero (bs : List Ba) (order : List ByteArray) : FitsTo bs order 0 := fun i _ h => by omega
theorem FitsTo.step {bs : List Ba} {order : List ByteArray} {k : Nat} (h : FitsTo bs order k) (hk : k < order.length) (h1 : 0 ≤ idxI (nms bs) order[k] ∧ memS (order.take k) order[k] = false ∧ Can bs (idxI (nms bs) order[k]).toNat (order.take k)) : FitsTo bs order (k + 1) := fun i s hi hs => by
  by_cases e : i = k
  · subst e
    rw [List.getElem?_eq_getElem hk] at hs
    obtain rfl := Option.some.inj hs
    exact h1
  · exact h i s (by omega) hs
theorem fits_at {b : Bk} {order : List ByteArray} (h : Fits b order) {k : Nat} (hk : k < order.length) : 0 ≤ idxI (nms b.bs) order[k] ∧ memS (order.take k) order[k] = false ∧ Can b.bs (idxI (nms b.bs) order[k]).toNat (order.take k) := h.2.2 k _ hk (List.getElem?_eq_getElem hk)
theorem fits_end {b : Bk} {order : List ByteArray} {k : Nat} (hok : BookOk b) (hl : order.length = b.bs.length) (h : FitsTo b.bs order k) (hk : ¬ k < order.length) : Fits b order := ⟨hok, hl, fun i s hi hs => h i s (by omega) hs⟩
theorem idxI_at {l : List ByteArray} {s : ByteArray} (h : 0 ≤ idxI l s) : ∃ k : Nat, idxI l s = (k : Int) ∧ ∃ hk : k < l.length, l[k] = s := by
  rw [idxI] at h ⊢
  split at h
  · rename_i hm
    rw [if_pos hm]
    refine ⟨_, rfl, ?_⟩
    have hl : l.findIdx (fun x => x.toList == s.toList) < l.length := by
      rw [List.findIdx_lt_length]
      rw [memS, List.any_eq_true] at hm
      exact hm
    refine ⟨hl, ?_⟩
    have := List.findIdx_getElem (w := hl)
    exact toL_eq (by simpa using this)
  · omega
end Go.Proofs.Ythpcadlohahblab

/- The program's table in plain: rows, and what is free. -/
namespace Go.Proofs.Ythpcadlohahblab

/-- A batch, and whether it is gone. -/
abbrev Tr := Ba × Bool
def rowC (things : List ByteArray) (p : Tr) : List Value := [.string p.1.nm, .int .u64 (bitsN things (memS p.1.has) : Nat), .int .u64 (bitsN things (memS p.1.needs) : Nat), .bool p.2]
def rowsL (things : List ByteArray) : List Tr → List Value
  | [] => []
  | p :: r => rowC things p ++ rowsL things r
theorem rowsL_length (things : List ByteArray) : ∀ ts : List Tr, (rowsL things ts).length = ts.length * 4
  | [] => rfl
  | p :: r => by rw [rowsL, List.length_append, rowsL_length things r, List.length_cons]; simp [rowC]; omega
theorem rowsL_snoc (things : List ByteArray) (p : Tr) : ∀ ts : List Tr, rowsL things (ts ++ [p]) = rowsL things ts ++ rowC things p
  | [] => by simp [rowsL]
  | q :: r => by rw [List.cons_append, rowsL, rowsL, rowsL_snoc things p r, List.append_assoc]
theorem rowsL_get (things : List ByteArray) : ∀ (ts : List Tr) (i j : Nat) (p : Tr), ts[i]? = some p → j < 4 → (rowsL things ts)[i * 4 + j]? = (rowC things p)[j]?
  | [], i, j, p, h, _ => by simp at h
  | q :: r, 0, j, p, h, hj => by
    simp at h; subst h
    rw [rowsL, List.getElem?_append_left (by simp [rowC]; omega)]; simp
  | q :: r, i + 1, j, p, h, hj => by
    rw [rowsL, List.getElem?_append_right (by simp [rowC]; omega)]
    have e : (i + 1) * 4 + j - (rowC things q).length = i * 4 + j := by simp [rowC]; omega
    rw [e]
    exact rowsL_get things r i j p (by simpa using h) hj
theorem rowsL_set (things : List ByteArray) : ∀ (ts : List Tr) (i : Nat) (p : Tr), ts[i]? = some p → (rowsL things ts).set (i * 4 + 3) (.bool true) = rowsL things (ts.set i (p.1, true))
  | [], i, p, h => by simp at h
  | q :: r, 0, p, h => by
    simp at h; subst h
    simp [rowsL, rowC]
  | q :: r, i + 1, p, h => by
    rw [rowsL, List.set_append_right _ _ (by simp [rowC]; omega)]
    have e : (i + 1) * 4 + 3 - (rowC things q).length = i * 4 + 3 := by simp [rowC]; omega
    rw [e, rowsL_set things r i p (by simpa using h)]
    simp [rowsL]
/-- A thing that nobody of the rows has who is not gone. -/
def freeL (ts : List Tr) (t : ByteArray) : Bool := ts.all fun p => p.2 || !memS p.1.has t
theorem freeL_iff (ts : List Tr) (t : ByteArray) : freeL ts t = true ↔ ∀ (i : Nat) (p : Tr), ts[i]? = some p → p.2 = false → memS p.1.has t = false := by
  simp only [freeL, List.all_eq_true, Bool.or_eq_true, Bool.not_eq_true']
  constructor
  · intro h i p hp h2
    rcases h p (List.mem_of_getElem? hp) with h3 | h3
    · rw [h2] at h3; cases h3
    · exact h3
  · intro h p hp
    obtain ⟨i, hi, rfl⟩ := List.getElem_of_mem hp
    cases h2 : ts[i].2
    · exact .inr (h i _ (List.getElem?_eq_getElem hi) h2)
    · exact .inl rfl
theorem freeL_eq {bs : List Ba} {ts : List Tr} (h : ts.map (·.1) = bs) (t : ByteArray) : freeL ts t = freeB bs (fun i => (ts[i]?.map (·.2)).getD false) bs.length t := by
  rw [Bool.eq_iff_iff, freeL_iff, freeB_iff]
  subst h
  constructor
  · intro h i x hi hx hg
    rw [List.getElem?_map, Option.map_eq_some_iff] at hx
    obtain ⟨p, hp, rfl⟩ := hx
    exact h i p hp (by rw [hp] at hg; simpa using hg)
  · intro h i p hp h2
    exact h i p.1 (by simpa using (List.getElem?_eq_some_iff.1 hp).1) (by rw [List.getElem?_map, hp]; rfl) (by rw [hp]; simpa using h2)
theorem freeL_snoc (ts : List Tr) (p : Tr) (t : ByteArray) : freeL (ts ++ [p]) t = (freeL ts t && (p.2 || !memS p.1.has t)) := by simp [freeL]
theorem map_at {bs : List Ba} {ts : List Tr} (h : ts.map (·.1) = bs) {i : Nat} {p : Tr} (hp : ts[i]? = some p) : bs[i]? = some p.1 := by subst h; rw [List.getElem?_map, hp]; rfl
/-- One more row. -/
theorem free_more {bs : List Ba} (ha : Apart bs) {ts : List Tr} {k : Nat} (hk : k < bs.length) (h : ts.map (·.1) = bs.take k) (things : List ByteArray) :
    bitsN things (freeL ts) = bitsN things (memS (bs[k]).has) + bitsN things (freeL (ts ++ [(bs[k], false)])) := by
  rw [bitsN_sub (P := freeL ts) (Q := memS (bs[k]).has)]
  · congr 1
    refine bitsN_congr fun t _ => ?_
    rw [freeL_snoc]; simp
  · intro t _ hm
    rw [freeL_iff]
    intro i p hp _
    have h1 := map_at h hp
    rw [List.getElem?_take] at h1
    split at h1
    · rename_i hi
      rw [List.getElem?_eq_getElem (by omega)] at h1
      obtain h1 := Option.some.inj h1
      have := ha.at hk hi
      rw [shareB_no] at this
      rw [memS_no, ← h1]
      exact this t ((memS_iff _ _).1 hm)
    · cases h1
/-- One goes. -/
theorem free_leave {bs : List Ba} (ha : Apart bs) {ts : List Tr} {i : Nat} {p : Tr} (h : ts.map (·.1) = bs) (hp : ts[i]? = some p) (hg : p.2 = false) (things : List ByteArray) :
    bitsN things (freeL ts) + bitsN things (memS p.1.has) = bitsN things (freeL (ts.set i (p.1, true))) := by
  have hi := (List.getElem?_eq_some_iff.1 hp).1
  have hb := map_at h hp
  have hib : i < bs.length := by rw [← h]; simpa using hi
  rw [bitsN_add]
  · refine bitsN_congr fun t _ => ?_
    rw [Bool.eq_iff_iff, Bool.or_eq_true, freeL_iff, freeL_iff]
    constructor
    · rintro (h1 | h1) j q hq hg2
      · rw [List.getElem?_set] at hq
        split at hq
        · obtain rfl := Option.some.inj hq; cases hg2
        · exact h1 j q hq hg2
      · rw [List.getElem?_set] at hq
        split at hq
        · obtain rfl := Option.some.inj hq; cases hg2
        · rename_i hne
          have hq' := map_at h hq
          have hjb := (List.getElem?_eq_some_iff.1 hq').1
          rw [memS_no]
          intro h5
          have h6 := (memS_iff _ _).1 h1
          rw [List.getElem?_eq_getElem hjb] at hq'
          rw [List.getElem?_eq_getElem hib] at hb
          have hq2 := Option.some.inj hq'
          have hb2 := Option.some.inj hb
          rcases Nat.lt_or_gt_of_ne hne with h7 | h7
          · have := ha.at hjb h7
            rw [shareB_no, hq2, hb2] at this
            exact this t h5 h6
          · have := ha.at hib h7
            rw [shareB_no, hq2, hb2] at this
            exact this t h6 h5
    · intro h1
      cases hm : memS p.1.has t
      · refine .inl fun j q hq hg2 => ?_
        by_cases e : i = j
        · subst e; rw [hp] at hq; obtain rfl := Option.some.inj hq; exact hm
        · exact h1 j q (by rw [List.getElem?_set, if_neg e]; exact hq) hg2
      · exact .inr rfl
  · intro t _ h1
    exact (freeL_iff _ _).1 h1 i p hp hg
/-- Who can, off the table. -/
theorem can_tab {b : Bk} (hok : BookOk b) {ts : List Tr} (h : ts.map (·.1) = b.bs) {gone : List ByteArray} (hG : ∀ (i : Nat) (p : Tr), ts[i]? = some p → p.2 = memS gone p.1.nm) {a : Nat} {p : Tr} (hp : ts[a]? = some p) (hg : p.2 = false) :
    (bitsN b.things (memS p.1.needs) &&& (18446744073709551615 - (bitsN b.things (freeL ts) + bitsN b.things (memS p.1.has))) = 0) ↔ Can b.bs a gone := by
  have hb := map_at h hp
  have hab : a < b.bs.length := (List.getElem?_eq_some_iff.1 hb).1
  have hb2 : b.bs[a] = p.1 := by rw [List.getElem?_eq_getElem hab] at hb; exact Option.some.inj hb
  rw [bitsN_add (fun t _ h1 => (freeL_iff _ _).1 h1 a p hp hg), bitsN_not hok.1.1,
    ← can_bits hok hab (gone := gone) (G := fun i => (ts[i]?.map (·.2)).getD false) (fun i hi => ?_) (by simp [hp, hg]), hb2]
  · constructor
    · intro h1 t ht hn; rw [← freeL_eq h]; exact h1 t ht hn
    · intro h1 t ht hn; have := h1 t ht hn; rwa [← freeL_eq h] at this
  · have hi' : i < ts.length := by rw [← h] at hi; simpa using hi
    have e := map_at h (List.getElem?_eq_getElem hi')
    rw [List.getElem?_eq_getElem hi] at e
    rw [List.getElem?_eq_getElem hi']
    simp only [Option.map_some, Option.getD_some]
    rw [hG i _ (List.getElem?_eq_getElem hi'), Option.some.inj e]
end Go.Proofs.Ythpcadlohahblab

/- Books in plain: the order in which always the first that can goes. -/
namespace Go.Proofs.Ythpcadlohahblab

/-- A batch that is not gone and can have all it needs. -/
def Good (bs : List Ba) (gone : List ByteArray) (k : Nat) : Prop := ∃ x, bs[k]? = some x ∧ memS gone x.nm = false ∧ Can bs k gone
/-- The place of the first of them, -1 if there is none. -/
def NextIs (bs : List Ba) (gone : List ByteArray) (n : Int) : Prop := (n = -1 ∧ ∀ k, k < bs.length → ¬ Good bs gone k) ∨ ∃ k : Nat, n = (k : Int) ∧ k < bs.length ∧ Good bs gone k ∧ ∀ j, j < k → ¬ Good bs gone j
theorem NextIs.uniq {bs : List Ba} {gone : List ByteArray} {m n : Int} (h : NextIs bs gone m) (h' : NextIs bs gone n) : m = n := by
  rcases h with ⟨rfl, h1⟩ | ⟨k, rfl, hk, hg, hl⟩ <;> rcases h' with ⟨rfl, h2⟩ | ⟨j, rfl, hj, gg, gl⟩
  · rfl
  · exact absurd gg (h1 j hj)
  · exact absurd hg (h2 k hk)
  · rcases Nat.lt_trichotomy k j with h3 | h3 | h3
    · exact absurd hg (gl k h3)
    · rw [h3]
    · exact absurd gg (hl j h3)
/-- n batches have gone, one behind the other, always the first that can. -/
inductive Goes (bs : List Ba) : Nat → List ByteArray → Prop
  | none : Goes bs 0 []
  | more {n : Nat} {gone : List ByteArray} {k : Nat} {x : Ba} : Goes bs n gone → NextIs bs gone (k : Int) → bs[k]? = some x → Goes bs (n + 1) (gone ++ [x.nm])
theorem Goes.length {bs : List Ba} {n : Nat} {gone : List ByteArray} (h : Goes bs n gone) : gone.length = n := by
  induction h with
  | none => rfl
  | more _ _ _ ih => simp [ih]
theorem Goes.uniq {bs : List Ba} {n : Nat} {g g' : List ByteArray} (h : Goes bs n g) (h' : Goes bs n g') : g = g' := by
  induction h generalizing g' with
  | none => cases h'; rfl
  | more h1 h2 h3 ih =>
    cases h' with
    | more k1 k2 k3 =>
      obtain rfl := ih k1
      have e := h2.uniq k2
      obtain rfl : _ = _ := Int.ofNat.inj e
      rw [h3] at k3
      obtain rfl := Option.some.inj k3
      rfl
theorem Goes.part {bs : List Ba} {n : Nat} {gone : List ByteArray} (h : Goes bs n gone) : ∀ m, m ≤ n → Goes bs m (gone.take m) := by
  induction h with
  | none => intro m hm; obtain rfl : m = 0 := by omega
            exact .none
  | @more n gone k x h1 h2 h3 ih =>
    intro m hm
    have hl := h1.length
    by_cases e : m = n + 1
    · subst e
      rw [List.take_of_length_le (by simp [hl])]
      exact .more h1 h2 h3
    · rw [List.take_append_of_le_length (by omega)]
      exact ih m (by omega)
/-- The order, and whether there is one. -/
def OrderIs (b : Bk) (ss : List ByteArray) (ok : Bool) : Prop := (ok = true ∧ BookOk b ∧ Goes b.bs b.bs.length ss) ∨ (ok = false ∧ ss = [] ∧ (¬ BookOk b ∨ ∃ n gone, n < b.bs.length ∧ Goes b.bs n gone ∧ NextIs b.bs gone (-1)))
theorem OrderIs.uniq {b : Bk} {ss ss' : List ByteArray} {ok ok' : Bool} (h : OrderIs b ss ok) (h' : OrderIs b ss' ok') : ss = ss' ∧ ok = ok' := by
  have no : ∀ {t}, BookOk b → Goes b.bs b.bs.length t → ¬ (¬ BookOk b ∨ ∃ n gone, n < b.bs.length ∧ Goes b.bs n gone ∧ NextIs b.bs gone (-1)) := by
    rintro t hb hg (h1 | ⟨n, gone, hn, h2, h3⟩)
    · exact h1 hb
    · have h4 := hg.part (n + 1) (by omega)
      have hl := hg.length
      generalize hq : t.take (n + 1) = q at h4
      cases h4 with
      | more k1 k2 k3 =>
        obtain rfl := h2.uniq k1
        have := h3.uniq k2
        omega
  rcases h with ⟨rfl, h1, h2⟩ | ⟨rfl, rfl, h2⟩ <;> rcases h' with ⟨rfl, g1, g2⟩ | ⟨rfl, rfl, g2⟩
  · exact ⟨h2.uniq g2, rfl⟩
  · exact absurd g2 (no h1 h2)
  · exact absurd h2 (no g1 g2)
  · exact ⟨rfl, rfl⟩
theorem goodTo_step {bs : List Ba} {gone : List ByteArray} {k : Nat} (h : ∀ j, j < k → ¬ Good bs gone j) (h1 : ¬ Good bs gone k) : ∀ j, j < k + 1 → ¬ Good bs gone j := fun j hj => by
  by_cases e : j = k
  · subst e; exact h1
  · exact h j (by omega)
theorem good_iff {bs : List Ba} {gone : List ByteArray} {k : Nat} (hk : k < bs.length) : Good bs gone k ↔ memS gone (bs[k]).nm = false ∧ Can bs k gone := by
  constructor
  · rintro ⟨x, hx, h⟩
    rw [List.getElem?_eq_getElem hk] at hx
    obtain rfl := Option.some.inj hx
    exact h
  · exact fun h => ⟨_, List.getElem?_eq_getElem hk, h⟩
end Go.Proofs.Ythpcadlohahblab

/- Books that change, in plain: coming, asking, needing less, going. -/
namespace Go.Proofs.Ythpcadlohahblab

/-- All names of a book are texts that can be. -/
def Szb (b : Bk) : Prop := (∀ s ∈ b.things, s.size ≤ maxLen) ∧ ∀ x ∈ b.bs, (∀ s ∈ x.has, s.size ≤ maxLen) ∧ (∀ s ∈ x.needs, s.size ≤ maxLen)
def nobody : Bk := ⟨[], []⟩
theorem szb_none : Szb nobody := ⟨fun s hs => by simp [nobody] at hs, fun x hx => by simp [nobody] at hx⟩
/-- The place of a batch. -/
def plN (b : Bk) (nm : ByteArray) : Nat := (idxI (nms b.bs) nm).toNat
theorem plN_lt {b : Bk} {nm : ByteArray} (h : memS (nms b.bs) nm = true) : idxI (nms b.bs) nm = (plN b nm : Int) ∧ plN b nm < b.bs.length := by
  have h0 := idxI_mem (nms b.bs) nm
  rw [h, decide_eq_true_eq] at h0
  refine ⟨by unfold plN; omega, ?_⟩
  rw [plN, idxI, if_pos h]
  have : (nms b.bs).findIdx (fun x => x.toList == nm.toList) < (nms b.bs).length := List.findIdx_lt_length.2 (by
    rw [memS, List.any_eq_true] at h; exact h)
  rw [nms_length] at this
  simpa using this
/-- Going. -/
noncomputable def leaveC (b : Bk) (nm : ByteArray) : Int := if bookB b = false then 1 else if memS (nms b.bs) nm = false then 3 else 0
noncomputable def leaveB (b : Bk) (nm : ByteArray) : Bk := if bookB b = false then nobody else if memS (nms b.bs) nm = false then b else ⟨b.things, b.bs.take (plN b nm) ++ b.bs.drop (plN b nm + 1)⟩
theorem leave_no {b : Bk} {nm : ByteArray} (h : bookB b = false) : leaveC b nm = 1 ∧ leaveB b nm = nobody := by simp [leaveC, leaveB, h]
theorem leave_none {b : Bk} {nm : ByteArray} (h : bookB b = true) (hm : memS (nms b.bs) nm = false) : leaveC b nm = 3 ∧ leaveB b nm = b := by simp [leaveC, leaveB, h, hm]
theorem leave_yes {b : Bk} {nm : ByteArray} (h : bookB b = true) (hm : memS (nms b.bs) nm = true) : leaveC b nm = 0 ∧ leaveB b nm = ⟨b.things, b.bs.take (plN b nm) ++ b.bs.drop (plN b nm + 1)⟩ := by simp [leaveC, leaveB, h, hm]
/-- Coming: behind all whose names are less. -/
def inN (b : Bk) (nm : ByteArray) : Nat := (b.bs.takeWhile fun x => ltS x.nm nm).length
noncomputable def enterC (b : Bk) (nm : ByteArray) (needs : List ByteArray) : Int :=
  if bookB b = false then 1 else if (nameB nm && pB (PartOk needs b.things)) = false then 2 else if memS (nms b.bs) nm = true then 3 else if 5 ≤ b.bs.length then 4 else 0
noncomputable def enterB (b : Bk) (nm : ByteArray) (needs : List ByteArray) : Bk :=
  if bookB b = false then nobody else if enterC b nm needs = 0 then ⟨b.things, b.bs.take (inN b nm) ++ ⟨nm, [], needs⟩ :: b.bs.drop (inN b nm)⟩ else b
/-- Up to place k all names are less. -/
def lowB (b : Bk) (nm : ByteArray) (k : Nat) : Prop := ∀ (j : Nat) (x : Ba), j < k → b.bs[j]? = some x → ltS x.nm nm = true
theorem tw_len {α : Type} (p : α → Bool) : ∀ (l : List α) (k : Nat), k ≤ l.length → (∀ j x, j < k → l[j]? = some x → p x = true) → (∀ x, l[k]? = some x → p x = false) → (l.takeWhile p).length = k
  | [], k, hk, _, _ => by simp at hk; subst hk; rfl
  | x :: r, 0, _, _, h2 => by
    rw [List.takeWhile_cons, h2 x (by simp)]; rfl
  | x :: r, k + 1, hk, h1, h2 => by
    rw [List.takeWhile_cons, h1 0 x (by omega) (by simp)]
    simp only [if_true, List.length_cons]
    rw [tw_len p r k (by simpa using hk) (fun j y hj hy => h1 (j + 1) y (by omega) (by simpa using hy)) (fun y hy => h2 y (by simpa using hy))]
theorem inN_at {b : Bk} {nm : ByteArray} {k : Nat} (hk : k ≤ b.bs.length) (hl : lowB b nm k) (hn : ∀ x, b.bs[k]? = some x → ltS x.nm nm = false) : inN b nm = k := tw_len _ _ _ hk hl hn
theorem enter_no {b : Bk} {nm : ByteArray} {needs : List ByteArray} (h : bookB b = false) : enterC b nm needs = 1 ∧ enterB b nm needs = nobody := by simp [enterC, enterB, h]
theorem enter_two {b : Bk} {nm : ByteArray} {needs : List ByteArray} (h : bookB b = true) (h2 : (nameB nm && pB (PartOk needs b.things)) = false) : enterC b nm needs = 2 ∧ enterB b nm needs = b := by simp [enterC, enterB, h, h2]
theorem enter_three {b : Bk} {nm : ByteArray} {needs : List ByteArray} (h : bookB b = true) (h2 : (nameB nm && pB (PartOk needs b.things)) = true) (h3 : memS (nms b.bs) nm = true) : enterC b nm needs = 3 ∧ enterB b nm needs = b := by simp [enterC, enterB, h, h2, h3]
theorem enter_four {b : Bk} {nm : ByteArray} {needs : List ByteArray} (h : bookB b = true) (h2 : (nameB nm && pB (PartOk needs b.things)) = true) (h3 : memS (nms b.bs) nm = false) (h4 : 5 ≤ b.bs.length) : enterC b nm needs = 4 ∧ enterB b nm needs = b := by simp [enterC, enterB, h, h2, h3, h4]
theorem enter_yes {b : Bk} {nm : ByteArray} {needs : List ByteArray} (h : bookB b = true) (h2 : (nameB nm && pB (PartOk needs b.things)) = true) (h3 : memS (nms b.bs) nm = false) (h4 : ¬ 5 ≤ b.bs.length) :
    enterC b nm needs = 0 ∧ enterB b nm needs = ⟨b.things, b.bs.take (inN b nm) ++ ⟨nm, [], needs⟩ :: b.bs.drop (inN b nm)⟩ := by
  have hc : enterC b nm needs = 0 := by simp [enterC, h, h2, h3, h4]
  exact ⟨hc, by rw [enterB, h, if_neg (by simp), if_pos hc]⟩
/-- What an ok book's lists hold is short. -/
theorem ok_small {b : Bk} (h : BookOk b) : b.things.length ≤ 8 ∧ b.bs.length ≤ 5 ∧ ∀ x ∈ b.bs, x.has.length ≤ 8 ∧ x.needs.length ≤ 8 := by
  refine ⟨h.1.1, h.2.1, fun x hx => ?_⟩
  obtain ⟨i, hi, rfl⟩ := List.getElem_of_mem hx
  have ho := h.2.2.2.2.1.at (k := i) hi hi
  have h1 := part_short ho.1
  have h2 := part_short ho.2
  have h0 := h.1.1
  omega
theorem book_ok {b : Bk} (h : bookB b = true) : BookOk b := pB_iff.1 h
end Go.Proofs.Ythpcadlohahblab

/- Books in plain: an order fits just if the greedy one goes through; all orders. -/
namespace Go.Proofs.Ythpcadlohahblab

theorem nm_at {b : Bk} (h : BookOk b) {k : Nat} {x : Ba} (hx : b.bs[k]? = some x) : idxI (nms b.bs) x.nm = (k : Int) := by
  obtain ⟨hk, rfl⟩ := List.getElem?_eq_some_iff.1 hx
  have hl : k < (nms b.bs).length := by rw [nms_length]; exact hk
  refine idxI_found hl ?_ (by rw [nms_get _ _ hk]; simp)
  rw [memS_no]
  intro hm
  obtain ⟨j, hj, hjs⟩ := List.mem_take_iff_getElem.1 hm
  have hj2 : j < (nms b.bs).length := by omega
  have h1 : (nms b.bs)[j]? = some (b.bs[k]).nm := by rw [List.getElem?_eq_getElem hj2, ← hjs]
  have h2 : (nms b.bs)[k]? = some (b.bs[k]).nm := by rw [List.getElem?_eq_getElem hl, nms_get _ _ hk]
  have := asc_ne h.2.2.2.1 h1 h2
  omega
theorem can_mono {bs : List Ba} {k : Nat} {g g' : List ByteArray} (h : Can bs k g) (hs : ∀ s, memS g s = true → memS g' s = true) : Can bs k g' := fun i x y hi hne hx hy hm => by
  refine h i x y hi hne hx hy ?_
  cases hc : memS g x.nm
  · rfl
  · rw [hs _ hc] at hm; cases hm
theorem diff_of {l : List ByteArray} (hd : ∀ (i : Nat) (s : ByteArray), l[i]? = some s → memS (l.take i) s = false) : ∀ (i j : Nat) (a : ByteArray), l[i]? = some a → l[j]? = some a → i = j := by
  have key : ∀ (i j : Nat) (a : ByteArray), l[i]? = some a → l[j]? = some a → ¬ i < j := fun i j a hi hj hlt => by
    have := hd j a hj
    rw [memS_no] at this
    obtain ⟨hi', rfl⟩ := List.getElem?_eq_some_iff.1 hi
    exact this (List.mem_take_iff_getElem.2 ⟨i, by omega, rfl⟩)
  intro i j a hi hj
  have h1 := key i j a hi hj
  have h2 := key j i a hj hi
  omega
theorem goes_fitsTo {b : Bk} (hok : BookOk b) {n : Nat} {ss : List ByteArray} (h : Goes b.bs n ss) : FitsTo b.bs ss ss.length := by
  induction h with
  | none => exact fun i s hi => by simp at hi
  | @more n gone k x h1 h2 h3 ih =>
    have hgood : Good b.bs gone k := by
      rcases h2 with ⟨h0, _⟩ | ⟨j, hj, _, hg, _⟩
      · omega
      · obtain rfl : k = j := by omega
        exact hg
    obtain ⟨y, hy, hm, hc⟩ := hgood
    rw [h3] at hy
    obtain rfl := Option.some.inj hy
    have hidx := nm_at hok h3
    intro i s hi hs
    by_cases e : i < gone.length
    · rw [List.getElem?_append_left e] at hs
      rw [List.take_append_of_le_length (by omega)]
      exact ih i s e hs
    · have hl : i = gone.length := by simp at hi; omega
      subst hl
      obtain rfl : x.nm = s := by simpa using hs
      rw [List.take_left, hidx]
      exact ⟨by omega, hm, hc⟩
theorem goes_fits {b : Bk} (hok : BookOk b) {ss : List ByteArray} (h : Goes b.bs b.bs.length ss) : Fits b ss := ⟨hok, h.length, goes_fitsTo hok h⟩
/-- Where an order fits, the greedy one finds somebody at each step. -/
theorem fits_next {b : Bk} {order gone : List ByteArray} {n : Nat} (hf : Fits b order) (hg : Goes b.bs n gone) (hn : n < b.bs.length) : ∃ k, k < b.bs.length ∧ Good b.bs gone k := by
  obtain ⟨hok, hl, hft⟩ := hf
  have hd : ∀ (i : Nat) (s : ByteArray), order[i]? = some s → memS (order.take i) s = false := fun i s hs => (hft i s (List.getElem?_eq_some_iff.1 hs).1 hs).2.1
  have hex : ∃ i : Nat, ∃ s, order[i]? = some s ∧ memS gone s = false := by
    refine Classical.byContradiction fun hno => ?_
    have hall : ∀ s ∈ order, s ∈ gone := fun s hs => by
      obtain ⟨i, hi, rfl⟩ := List.getElem_of_mem hs
      refine (memS_iff _ _).1 ?_
      cases hc : memS gone order[i]
      · exact absurd ⟨i, order[i], List.getElem?_eq_getElem hi, hc⟩ hno
      · rfl
    have := short_of order gone (diff_of hd) hall
    have := hg.length
    omega
  obtain ⟨i, hi⟩ := hex
  obtain ⟨j, ⟨s, hs, hms⟩, hmin⟩ : ∃ j : Nat, (∃ s, order[j]? = some s ∧ memS gone s = false) ∧ ∀ m : Nat, m < j → ¬ ∃ s, order[m]? = some s ∧ memS gone s = false := by
    have : ∀ n : Nat, ∀ i : Nat, i < n → (∃ s, order[i]? = some s ∧ memS gone s = false) → ∃ j : Nat, (∃ s, order[j]? = some s ∧ memS gone s = false) ∧ ∀ m : Nat, m < j → ¬ ∃ s, order[m]? = some s ∧ memS gone s = false := by
      intro n
      induction n with
      | zero => intro i hi; omega
      | succ n ih =>
        intro i hi hp
        by_cases hq : ∃ m, m < i ∧ ∃ s, order[m]? = some s ∧ memS gone s = false
        · obtain ⟨m, hm, hs⟩ := hq
          exact ih m (by omega) hs
        · exact ⟨i, hp, fun m hm hs => hq ⟨m, hm, hs⟩⟩
    exact this (i + 1) i (by omega) hi
  have hj := (List.getElem?_eq_some_iff.1 hs).1
  obtain ⟨h0, -, hc⟩ := hft j s hj hs
  obtain ⟨k, hk, hkl, hks⟩ := idxI_at h0
  rw [hk] at hc
  have hkb : k < b.bs.length := by rwa [nms_length] at hkl
  refine ⟨k, hkb, b.bs[k], List.getElem?_eq_getElem hkb, ?_, can_mono hc fun t ht => ?_⟩
  · rw [nms_get _ _ hkb] at hks
    rw [hks]; exact hms
  · obtain ⟨m, hm, hmt⟩ := List.mem_take_iff_getElem.1 ((memS_iff _ _).1 ht)
    have hm' := hmin m (by omega)
    cases hq : memS gone t
    · exact absurd ⟨t, by rw [List.getElem?_eq_getElem (by omega), hmt], hq⟩ hm'
    · rfl
theorem good_first {bs : List Ba} {gone : List ByteArray} {k : Nat} (hk : k < bs.length) (h : Good bs gone k) : ∃ (j : Nat) (x : Ba), NextIs bs gone (j : Int) ∧ bs[j]? = some x := by
  have : ∀ n, ∀ k, k < n → k < bs.length → Good bs gone k → ∃ (j : Nat) (x : Ba), NextIs bs gone (j : Int) ∧ bs[j]? = some x := by
    intro n
    induction n with
    | zero => intro k hk; omega
    | succ n ih =>
      intro k hk hkl hg
      by_cases hq : ∃ m, m < k ∧ Good bs gone m
      · obtain ⟨m, hm, hgm⟩ := hq
        exact ih m (by omega) (by omega) hgm
      · exact ⟨k, bs[k], .inr ⟨k, rfl, hkl, hg, fun m hm hgm => hq ⟨m, hm, hgm⟩⟩, List.getElem?_eq_getElem hkl⟩
  exact this (k + 1) k (by omega) hk h
theorem fits_goes {b : Bk} {order : List ByteArray} (hf : Fits b order) : ∃ ss, Goes b.bs b.bs.length ss := by
  have : ∀ n, n ≤ b.bs.length → ∃ ss, Goes b.bs n ss := by
    intro n
    induction n with
    | zero => exact fun _ => ⟨[], .none⟩
    | succ n ih =>
      intro hn
      obtain ⟨g, hg⟩ := ih (by omega)
      obtain ⟨k, hk, hgd⟩ := fits_next hf hg (by omega)
      obtain ⟨j, x, hj, hx⟩ := good_first hk hgd
      exact ⟨_, .more hg hj hx⟩
  exact this _ (Nat.le_refl _)
/-- Safe just if some order fits. -/
theorem order_iff {b : Bk} {ss : List ByteArray} {ok : Bool} (h : OrderIs b ss ok) : (ok = true ↔ ∃ order, Fits b order) := by
  constructor
  · rintro rfl
    rcases h with ⟨-, hok, hg⟩ | ⟨h0, _⟩
    · exact ⟨ss, goes_fits hok hg⟩
    · cases h0
  · rintro ⟨order, hf⟩
    obtain ⟨t, ht⟩ := fits_goes hf
    exact (h.uniq (.inl ⟨rfl, hf.1, ht⟩)).2
theorem order_fits {b : Bk} {ss : List ByteArray} (h : OrderIs b ss true) : Fits b ss := by
  rcases h with ⟨-, hok, hg⟩ | ⟨h0, _⟩
  · exact goes_fits hok hg
  · cases h0
/-- Some order that begins so fits. -/
def SomeFit (b : Bk) (gone : List ByteArray) : Prop := ∃ rest, Fits b (gone ++ rest)
theorem some_full {b : Bk} {gone : List ByteArray} (h : gone.length = b.bs.length) : SomeFit b gone ↔ Fits b gone := by
  constructor
  · rintro ⟨rest, hf⟩
    have := hf.2.1
    obtain rfl : rest = [] := List.eq_nil_of_length_eq_zero (by simp at this; omega)
    simpa using hf
  · exact fun h => ⟨[], by simpa using h⟩
theorem some_step {b : Bk} {gone : List ByteArray} (h : gone.length < b.bs.length) (hs : SomeFit b gone) : ∃ (k : Nat) (x : Ba), b.bs[k]? = some x ∧ memS gone x.nm = false ∧ SomeFit b (gone ++ [x.nm]) := by
  obtain ⟨rest, hf⟩ := hs
  have hl := hf.2.1
  cases rest with
  | nil => simp at hl; omega
  | cons s r =>
    obtain ⟨h0, h1, -⟩ := hf.2.2 gone.length s (by simp) (by simp)
    obtain ⟨k, -, hkl, hks⟩ := idxI_at h0
    have hkb : k < b.bs.length := by rwa [nms_length] at hkl
    rw [nms_get _ _ hkb] at hks
    refine ⟨k, b.bs[k], List.getElem?_eq_getElem hkb, ?_, r, ?_⟩
    · rw [hks]; simpa using h1
    · rw [hks]; simpa using hf
theorem some_of {b : Bk} {gone : List ByteArray} {s : ByteArray} (h : SomeFit b (gone ++ [s])) : SomeFit b gone := by
  obtain ⟨rest, hf⟩ := h
  exact ⟨s :: rest, by simpa using hf⟩
end Go.Proofs.Ythpcadlohahblab
