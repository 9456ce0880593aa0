/- Books in plain: ascending lists, who has what in a map. -/
import Derived.Test.YtnojjmkmkelbgaaGreatJ1
import Derived.Maps.Views
import Derived.Laws.OwnMore
import Derived.OrdersHeld
import Derived.Deep.RegionHeld
namespace Go.Proofs.YtnojjmkmkelbgaaGreat
open Go.Maps

theorem bl_eq : ∀ (x y : List UInt8), Op.bytesLess x y = decide (x < y)
  | [], [] => by simp [Op.bytesLess]
  | _ :: _, [] => by simp [Op.bytesLess]
  | [], _ :: _ => by simp [Op.bytesLess]
  | a :: x, b :: y => by
    rw [Op.bytesLess, bl_eq x y]
    simp only [List.cons_lt_cons_iff]
    by_cases h1 : a < b <;> by_cases h2 : a = b <;> by_cases h3 : x < y <;> simp [h1, h2, h3]
theorem ltS_iff (a b : ByteArray) : ltS a b = true ↔ a.toList < b.toList := by rw [ltS, bl_eq]; simp
theorem ltS_trans {a b c : ByteArray} (h : ltS a b = true) (k : ltS b c = true) : ltS a c = true := by
  rw [ltS_iff] at *; exact List.lt_trans h k
theorem ltS_irrefl (a : ByteArray) : ltS a a = false := by
  rw [← Bool.not_eq_true, ltS_iff]; exact List.lt_irrefl _
theorem asc_lt {l : List ByteArray} (h : Asc l) : ∀ (d i : Nat) (a b : ByteArray), l[i]? = some a → l[i + 1 + d]? = some b → ltS a b = true
  | 0, i, a, b, ha, hb => h i a b (List.getElem?_eq_some_iff.1 hb).1 ha hb
  | d + 1, i, a, b, ha, hb => by
    have hl : i + 1 + (d + 1) < l.length := (List.getElem?_eq_some_iff.1 hb).1
    have hm : l[i + 1]? = some l[i + 1] := List.getElem?_eq_getElem (by omega)
    exact ltS_trans (h i a _ (by omega) ha hm) (asc_lt h d (i + 1) _ b hm (by rw [show i + 1 + 1 + d = i + 1 + (d + 1) by omega]; exact hb))
theorem asc_ne {l : List ByteArray} (h : Asc l) {i j : Nat} {a : ByteArray} (hi : l[i]? = some a) (hj : l[j]? = some a) : i = j := by
  rcases Nat.lt_trichotomy i j with h1 | h1 | h1
  · have := asc_lt h (j - i - 1) i a a hi (by rw [show i + 1 + (j - i - 1) = j by omega]; exact hj)
    rw [ltS_irrefl] at this; cases this
  · exact h1
  · have := asc_lt h (i - j - 1) j a a hj (by rw [show j + 1 + (i - j - 1) = i by omega]; exact hi)
    rw [ltS_irrefl] at this; cases this
/-- A list whose places differ, all of another list, is no longer than it. -/
theorem short_of : ∀ (l m : List ByteArray), (∀ (i j : Nat) (a : ByteArray), l[i]? = some a → l[j]? = some a → i = j) → (∀ s ∈ l, s ∈ m) → l.length ≤ m.length
  | [], m, _, _ => by simp
  | x :: r, m, hd, hs => by
    have hx : x ∈ m := hs x (by simp)
    obtain ⟨m1, m2, rfl⟩ := List.append_of_mem hx
    have := short_of r (m1 ++ m2) (fun i j a hi hj => by
      have := hd (i + 1) (j + 1) a (by simpa using hi) (by simpa using hj)
      omega) (fun s h => by
      have h1 := hs s (by simp [h])
      rcases List.mem_append.1 h1 with h2 | h2
      · simp [h2]
      · rcases List.mem_cons.1 h2 with h3 | h3
        · subst h3
          obtain ⟨i, hi, e⟩ := List.getElem_of_mem h
          have := hd 0 (i + 1) s (by simp) (by simp [List.getElem?_eq_getElem hi, e])
          omega
        · simp [h3])
    simp at this ⊢; omega
theorem part_short {l all : List ByteArray} (h : PartOk l all) : l.length ≤ all.length := short_of l all (fun _ _ _ hi hj => asc_ne h.2 hi hj) (fun _ hs => part_mem h.1 hs)

/-- What a name is in a map. -/
def kl (s : ByteArray) : Lit := .string s.data.toList
theorem kl_inj {a b : ByteArray} (h : kl a = kl b) : a = b := by
  simp only [kl, Lit.string.injEq] at h
  cases a; cases b; simp at h; rw [h]
theorem kl_key (s : ByteArray) : WideAt.IsKeyLit (kl s) := trivial
/-- Up to batch k, and of it up to place m, a thing is at place i. -/
def HadBy (bs : List Ba) (k m : Nat) (s : ByteArray) (i : Nat) : Prop := ∃ x, bs[i]? = some x ∧ (i < k ∧ s ∈ x.has ∨ i = k ∧ s ∈ x.has.take m)
/-- The map tells of each thing that somebody has, up to there, who. -/
def HoldD (D : DataW Unit) (bs : List Ba) (k m : Nat) : Prop := IsMap D ∧ (∀ s, Maps.has D (kl s) = true → ∃ i, HadBy bs k m s i) ∧ (∀ s i, HadBy bs k m s i → Maps.has D (kl s) = true ∧ ∀ z, D.atKey (kl s) z = .lit (.int .i64 (i : Int)))
theorem HoldD.start (bs : List Ba) : HoldD (.map []) bs 0 0 := by
  refine ⟨isMap_empty, fun s h => by simp [Maps.has] at h, fun s i h => ?_⟩
  obtain ⟨x, _, h | h⟩ := h
  · omega
  · simp at h
theorem HadBy.up {bs : List Ba} {k m i : Nat} {s : ByteArray} (h : HadBy bs k m s i) : HadBy bs k (m + 1) s i := by
  obtain ⟨x, hx, h | ⟨h1, h2⟩⟩ := h
  · exact ⟨x, hx, .inl h⟩
  · refine ⟨x, hx, .inr ⟨h1, ?_⟩⟩
    rw [List.mem_take_iff_getElem] at h2 ⊢
    obtain ⟨j, hj, e⟩ := h2
    exact ⟨j, by omega, e⟩
theorem HadBy.new {bs : List Ba} {k m : Nat} (hk : k < bs.length) (hm : m < (bs[k]).has.length) : HadBy bs k (m + 1) ((bs[k]).has[m]) k :=
  ⟨bs[k], List.getElem?_eq_getElem hk, .inr ⟨rfl, by rw [List.mem_take_iff_getElem]; exact ⟨m, by omega, rfl⟩⟩⟩
theorem HadBy.split {bs : List Ba} {k m i : Nat} {s : ByteArray} (hk : k < bs.length) (hm : m < (bs[k]).has.length) (h : HadBy bs k (m + 1) s i) : HadBy bs k m s i ∨ (i = k ∧ s = (bs[k]).has[m]) := by
  obtain ⟨x, hx, h | ⟨rfl, h2⟩⟩ := h
  · exact .inl ⟨x, hx, .inl h⟩
  · rw [List.getElem?_eq_getElem hk] at hx
    obtain rfl := Option.some.inj hx
    rw [List.take_succ_eq_append_getElem hm] at h2
    rcases List.mem_append.1 h2 with h3 | h3
    · exact .inl ⟨_, List.getElem?_eq_getElem hk, .inr ⟨rfl, h3⟩⟩
    · exact .inr ⟨rfl, by simpa using h3⟩
theorem HoldD.step {D : DataW Unit} {bs : List Ba} {k m : Nat} (h : HoldD D bs k m) (hk : k < bs.length) (hm : m < (bs[k]).has.length) (hn : Maps.has D (kl ((bs[k]).has[m])) = false) :
    HoldD (D.put (kl ((bs[k]).has[m])) (.lit (.int .i64 (k : Int)))) bs k (m + 1) := by
  obtain ⟨h1, h2, h3⟩ := h
  refine ⟨h1.put _ _, fun s hs => ?_, fun s i hi => ?_⟩
  · by_cases e : kl s = kl ((bs[k]).has[m])
    · obtain rfl := kl_inj e
      exact ⟨k, HadBy.new hk hm⟩
    · rw [has_put_other e] at hs
      obtain ⟨i, hi⟩ := h2 s hs
      exact ⟨i, hi.up⟩
  · rcases hi.split hk hm with h4 | ⟨rfl, rfl⟩
    · have e : kl s ≠ kl ((bs[k]).has[m]) := fun e => by
        have := (h3 s i h4).1
        rw [e, hn] at this; cases this
      exact ⟨by rw [has_put_other e]; exact (h3 s i h4).1, fun z => by rw [atKey_put_other e]; exact (h3 s i h4).2 z⟩
    · exact ⟨has_put_same h1 (kl_key _) _, fun z => atKey_put_same h1 (kl_key _) _ z⟩
theorem HadBy.next {bs : List Ba} {k m i : Nat} {s : ByteArray} (hk : k < bs.length) (hm : ¬ m < (bs[k]).has.length) : HadBy bs k m s i ↔ HadBy bs (k + 1) 0 s i := by
  constructor
  · rintro ⟨x, hx, h | ⟨rfl, h2⟩⟩
    · exact ⟨x, hx, .inl ⟨by omega, h.2⟩⟩
    · exact ⟨x, hx, .inl ⟨by omega, List.mem_of_mem_take h2⟩⟩
  · rintro ⟨x, hx, h | ⟨_, h2⟩⟩
    · by_cases e : i = k
      · subst e
        rw [List.getElem?_eq_getElem hk] at hx
        obtain rfl := Option.some.inj hx
        exact ⟨_, List.getElem?_eq_getElem hk, .inr ⟨rfl, by rw [List.take_of_length_le (by omega)]; exact h.2⟩⟩
      · exact ⟨x, hx, .inl ⟨by omega, h.2⟩⟩
    · simp at h2
theorem HoldD.next {D : DataW Unit} {bs : List Ba} {k m : Nat} (h : HoldD D bs k m) (hk : k < bs.length) (hm : ¬ m < (bs[k]).has.length) : HoldD D bs (k + 1) 0 :=
  ⟨h.1, fun s hs => by obtain ⟨i, hi⟩ := h.2.1 s hs; exact ⟨i, (HadBy.next hk hm).1 hi⟩, fun s i hi => h.2.2 s i ((HadBy.next hk hm).2 hi)⟩
/-- Somebody has it already: two have one thing. -/
theorem HoldD.twice {D : DataW Unit} {bs : List Ba} {k m : Nat} (h : HoldD D bs k m) (hk : k < bs.length) (hm : m < (bs[k]).has.length) (hd : Asc (bs[k]).has) (hn : Maps.has D (kl ((bs[k]).has[m])) = true) : ¬ Apart bs := fun ha => by
  obtain ⟨i, x, hx, h4 | ⟨rfl, h4⟩⟩ := h.2.1 _ hn
  · have hi : i < bs.length := (List.getElem?_eq_some_iff.1 hx).1
    have := ha.at hk h4.1
    rw [shareB_no] at this
    rw [List.getElem?_eq_getElem hi] at hx
    obtain rfl := Option.some.inj hx
    exact this _ (List.getElem_mem hm) h4.2
  · rw [List.getElem?_eq_getElem hk] at hx
    obtain rfl := Option.some.inj hx
    rw [List.mem_take_iff_getElem] at h4
    obtain ⟨j, hj, e⟩ := h4
    have := asc_ne hd (i := j) (j := m) (List.getElem?_eq_getElem (by omega)) (by rw [e]; exact List.getElem?_eq_getElem hm)
    omega
theorem HoldD.apart {D : DataW Unit} {bs : List Ba} {k : Nat} (h : HoldD D bs k 0) (hk : ¬ k < bs.length) : Apart bs := fun i j x y hji hi hx hy => by
  have li := (List.getElem?_eq_some_iff.1 hx).1
  have lj := (List.getElem?_eq_some_iff.1 hy).1
  rw [shareB_no]
  intro s h1 h2
  have e1 := (h.2.2 s i ⟨x, hx, .inl ⟨by omega, h1⟩⟩).2 .nil
  have e2 := (h.2.2 s j ⟨y, hy, .inl ⟨by omega, h2⟩⟩).2 .nil
  rw [e1] at e2
  simp at e2
  omega
/-- Who has a thing, off the map. -/
theorem HoldD.who {D : DataW Unit} {bs : List Ba} {k : Nat} (h : HoldD D bs k 0) {s : ByteArray} (hs : Maps.has D (kl s) = true) : ∃ (i : Nat) (hi : i < bs.length), (∀ z, D.atKey (kl s) z = .lit (.int .i64 (i : Int))) ∧ whoB bs s = (bs[i]).nm := by
  obtain ⟨i, hi⟩ := h.2.1 s hs
  have hz := (h.2.2 s i hi).2
  obtain ⟨x, hx, h4 | ⟨_, h4⟩⟩ := hi
  · have li := (List.getElem?_eq_some_iff.1 hx).1
    refine ⟨i, li, hz, whoB_at li (fun j y hj hy => ?_) ?_⟩
    · rw [memS_no]
      intro h5
      have := (h.2.2 s j ⟨y, hy, .inl ⟨by omega, h5⟩⟩).2 .nil
      rw [hz] at this
      simp at this
      omega
    · rw [memS_iff]
      rw [List.getElem?_eq_getElem li] at hx
      obtain rfl := Option.some.inj hx
      exact h4.2
  · simp at h4
theorem HoldD.whoNone {D : DataW Unit} {bs : List Ba} {k : Nat} (h : HoldD D bs k 0) (hk : ¬ k < bs.length) {s : ByteArray} (hs : Maps.has D (kl s) = false) : whoB bs s = ⟨#[]⟩ :=
  whoB_none hk fun i x hi hx => by
    rw [memS_no]
    intro h5
    have := (h.2.2 s i ⟨x, hx, .inl ⟨hi, h5⟩⟩).1
    rw [hs] at this; cases this
end Go.Proofs.YtnojjmkmkelbgaaGreat

/- Books in plain: bits of things; who can have all it needs, orders that fit. -/
namespace Go.Proofs.YtnojjmkmkelbgaaGreat

/-- The sum of the bits of those things that are picked. -/
def bitsN : List ByteArray → (ByteArray → Bool) → Nat
  | [], _ => 0
  | t :: r, P => (if P t = true then 1 else 0) + 2 * bitsN r P
theorem bitsN_snoc (P : ByteArray → Bool) (t : ByteArray) : ∀ l : List ByteArray, bitsN (l ++ [t]) P = bitsN l P + (if P t = true then 2 ^ l.length else 0)
  | [] => by simp [bitsN]
  | x :: r => by
    rw [List.cons_append, bitsN, bitsN, bitsN_snoc P t r, List.length_cons, Nat.pow_succ]
    split <;> split <;> omega
theorem bitsN_lt (P : ByteArray → Bool) : ∀ l : List ByteArray, bitsN l P < 2 ^ l.length
  | [] => by simp [bitsN]
  | x :: r => by
    have := bitsN_lt P r
    rw [bitsN, List.length_cons, Nat.pow_succ]
    split <;> omega
theorem bitsN_small {l : List ByteArray} (h : l.length ≤ 8) (P : ByteArray → Bool) : bitsN l P < 256 :=
  Nat.lt_of_lt_of_le (bitsN_lt P l) (Nat.pow_le_pow_right (by omega) h)
theorem bitsN_congr {P Q : ByteArray → Bool} : ∀ {l : List ByteArray}, (∀ t ∈ l, P t = Q t) → bitsN l P = bitsN l Q
  | [], _ => rfl
  | x :: r, h => by rw [bitsN, bitsN, h x (by simp), bitsN_congr fun t ht => h t (by simp [ht])]
theorem bitsN_add {P Q : ByteArray → Bool} : ∀ {l : List ByteArray}, (∀ t ∈ l, P t = true → Q t = false) → bitsN l P + bitsN l Q = bitsN l fun t => P t || Q t
  | [], _ => rfl
  | x :: r, h => by
    have h1 := bitsN_add (P := P) (Q := Q) (l := r) fun t ht => h t (by simp [ht])
    have h2 := h x (by simp)
    rw [bitsN, bitsN, bitsN, ← h1]
    cases hp : P x <;> cases hq : Q x <;> simp_all <;> omega
theorem bitsN_sub {P Q : ByteArray → Bool} {l : List ByteArray} (h : ∀ t ∈ l, Q t = true → P t = true) : bitsN l P = bitsN l Q + bitsN l fun t => P t && !Q t := by
  rw [bitsN_add (fun t _ hq => by simp [hq])]
  refine bitsN_congr fun t ht => ?_
  cases hq : Q t
  · simp
  · simp [h t ht hq]
theorem bitsN_test (P : ByteArray → Bool) : ∀ (l : List ByteArray) (i : Nat), (bitsN l P).testBit i = (l[i]?.map P).getD false
  | [], i => by simp [bitsN]
  | x :: r, 0 => by
    rw [bitsN, Nat.testBit_zero]
    have e : ((if P x = true then 1 else 0) + 2 * bitsN r P) % 2 = (if P x = true then 1 else 0) := by split <;> omega
    rw [e]
    cases h : P x <;> simp [h]
  | x :: r, i + 1 => by
    rw [bitsN, Nat.testBit_succ, List.getElem?_cons_succ, ← bitsN_test P r i]
    congr 1
    split <;> omega
/-- Nothing that is needed lacks. -/
theorem bitsN_not {P Q : ByteArray → Bool} {l : List ByteArray} (hl : l.length ≤ 8) : (bitsN l P &&& (18446744073709551615 - bitsN l Q) = 0) ↔ ∀ t ∈ l, P t = true → Q t = true := by
  have hQ := bitsN_small hl Q
  have e : 18446744073709551615 - bitsN l Q = 2 ^ 64 - (bitsN l Q + 1) := by omega
  constructor
  · intro h t ht hp
    obtain ⟨i, hi, rfl⟩ := List.getElem_of_mem ht
    have h1 := congrArg (Nat.testBit · i) h
    simp only [Nat.testBit_and, Nat.zero_testBit] at h1
    rw [e, Nat.testBit_two_pow_sub_succ (by omega), bitsN_test, bitsN_test, List.getElem?_eq_getElem hi] at h1
    simp [hp] at h1
    exact h1 (by omega)
  · intro h
    refine Nat.eq_of_testBit_eq fun i => ?_
    rw [Nat.testBit_and, Nat.zero_testBit, e, Nat.testBit_two_pow_sub_succ (by omega), bitsN_test, bitsN_test]
    rcases Nat.lt_or_ge i l.length with hi | hi
    · rw [List.getElem?_eq_getElem hi]
      have := h l[i] (List.getElem_mem hi)
      cases hp : P l[i] <;> simp_all
    · rw [List.getElem?_eq_none hi]; simp

/-- Of the batches that are not gone, up to place k, none but the one at place 'at' has anything of its needs. -/
def CanTo (bs : List Ba) (at' : Nat) (gone : List ByteArray) (k : Nat) : Prop := ∀ (i : Nat) (x y : Ba), i < k → i ≠ at' → bs[i]? = some x → bs[at']? = some y → memS gone x.nm = false → shareB x.has y.needs = false
def Can (bs : List Ba) (at' : Nat) (gone : List ByteArray) : Prop := CanTo bs at' gone bs.length
theorem CanTo.zero (bs : List Ba) (a : Nat) (gone : List ByteArray) : CanTo bs a gone 0 := fun i _ _ h => by omega
theorem can_end {bs : List Ba} {a : Nat} {gone : List ByteArray} {k : Nat} (h : CanTo bs a gone k) (hk : ¬ k < bs.length) : Can bs a gone := fun i x y hi hne hx hy hm => h i x y (by omega) hne hx hy hm
theorem CanTo.step {bs : List Ba} {a : Nat} {gone : List ByteArray} {k : Nat} (h : CanTo bs a gone k) (hk : k < bs.length) (ha : a < bs.length) (h1 : k = a ∨ memS gone (bs[k]).nm = true ∨ shareB (bs[k]).has (bs[a]).needs = false) : CanTo bs a gone (k + 1) := fun i x y hi hne hx hy hm => by
  by_cases e : i = k
  · subst e
    rw [List.getElem?_eq_getElem hk] at hx
    rw [List.getElem?_eq_getElem ha] at hy
    obtain rfl := Option.some.inj hx
    obtain rfl := Option.some.inj hy
    rcases h1 with h1 | h1 | h1
    · exact absurd h1 hne
    · rw [hm] at h1; cases h1
    · exact h1
  · exact h i x y (by omega) hne hx hy hm
theorem can_no {bs : List Ba} {a : Nat} {gone : List ByteArray} {k : Nat} (hk : k < bs.length) (ha : a < bs.length) (hne : k ≠ a) (hm : memS gone (bs[k]).nm = false) (hs : shareB (bs[k]).has (bs[a]).needs = true) : ¬ Can bs a gone := fun h => by
  have := h k _ _ hk hne (List.getElem?_eq_getElem hk) (List.getElem?_eq_getElem ha) hm
  rw [hs] at this; cases this
/-- A thing that nobody has who is not gone. -/
def freeB (bs : List Ba) (G : Nat → Bool) (k : Nat) (t : ByteArray) : Bool := (List.range k).all fun i => G i || !((bs[i]?.map fun x => memS x.has t).getD false)
theorem freeB_iff (bs : List Ba) (G : Nat → Bool) (k : Nat) (t : ByteArray) : freeB bs G k t = true ↔ ∀ (i : Nat) (x : Ba), i < k → bs[i]? = some x → G i = false → memS x.has t = false := by
  simp only [freeB, List.all_eq_true, List.mem_range]
  constructor
  · intro h i x hi hx hg
    have := h i hi
    rw [hx, hg] at this
    simpa using this
  · intro h i hi
    cases hg : G i
    · cases hx : bs[i]? with
      | none => simp
      | some x => simp [h i x hi hx hg]
    · rfl
theorem freeB_succ (bs : List Ba) (G : Nat → Bool) (k : Nat) (t : ByteArray) : freeB bs G (k + 1) t = (freeB bs G k t && (G k || !((bs[k]?.map fun x => memS x.has t).getD false))) := by
  simp [freeB, List.range_succ]
/-- Who can have all it needs, by bits. -/
theorem can_bits {b : Bk} (hok : BookOk b) {a : Nat} (ha : a < b.bs.length) {gone : List ByteArray} {G : Nat → Bool} (hG : ∀ (i : Nat) (hi : i < b.bs.length), G i = memS gone (b.bs[i]).nm) (hga : G a = false) :
    (∀ t ∈ b.things, memS (b.bs[a]).needs t = true → (freeB b.bs G b.bs.length t || memS (b.bs[a]).has t) = true) ↔ Can b.bs a gone := by
  have hb := hok.2.2.2.2.1.at ha ha
  constructor
  · intro h i x y hi hne hx hy hm
    rw [List.getElem?_eq_getElem hi] at hx
    rw [List.getElem?_eq_getElem ha] at hy
    obtain rfl := Option.some.inj hx
    obtain rfl := Option.some.inj hy
    rw [shareB_no]
    intro s h1 h2
    have h3 := h s (part_mem hb.1.1 h2) ((memS_iff _ _).2 h2)
    rcases Bool.or_eq_true_iff.1 h3 with h4 | h4
    · have := (freeB_iff _ _ _ _).1 h4 i _ hi (List.getElem?_eq_getElem hi) (by rw [hG i hi]; exact hm)
      rw [memS_no] at this
      exact this h1
    · have h5 := (memS_iff _ _).1 h4
      rcases Nat.lt_or_gt_of_ne hne with h6 | h6
      · have := hok.2.2.2.2.2.at ha h6
        rw [shareB_no] at this
        exact this s h5 h1
      · have := hok.2.2.2.2.2.at hi h6
        rw [shareB_no] at this
        exact this s h1 h5
  · intro h t ht hn
    cases hh : memS (b.bs[a]).has t
    · rw [Bool.or_false, freeB_iff]
      intro i x hi hx hg
      rw [List.getElem?_eq_getElem hi] at hx
      obtain rfl := Option.some.inj hx
      by_cases e : i = a
      · subst e; exact hh
      · have := h i _ _ hi e (List.getElem?_eq_getElem hi) (List.getElem?_eq_getElem ha) (by rw [← hG i hi]; exact hg)
        rw [shareB_no] at this
        rw [memS_no]
        exact fun h1 => this t h1 ((memS_iff _ _).1 hn)
    · simp
/-- An order fits up to place k. -/
def FitsTo (bs : List Ba) (order : List ByteArray) (k : Nat) : Prop := ∀ (i : Nat) (s : ByteArray), i < k → order[i]? = some s → 0 ≤ idxI (nms bs) s ∧ memS (order.take i) s = false ∧ Can bs (idxI (nms bs) s).toNat (order.take i)
def Fits (b : Bk) (order : List ByteArray) : Prop := BookOk b ∧ order.length = b.bs.length ∧ FitsTo b.bs order order.length
theorem FitsTo.zero (bs : List Ba) (order : List ByteArray) : FitsTo bs order 0 := fun i _ h => by omega
theorem FitsTo.step {bs : List Ba} {order : List ByteArray} {k : Nat} (h : FitsTo bs order k) (hk : k < order.length) (h1 : 0 ≤ idxI (nms bs) order[k] ∧ memS (order.take k) order[k] = false ∧ Can bs (idxI (nms bs) order[k]).toNat (order.take k)) : FitsTo bs order (k + 1) := fun i s hi hs => by
  by_cases e : i = k
  · subst e
    rw [List.getElem?_eq_getElem hk] at hs
    obtain rfl := Option.some.inj hs
    exact h1
  · exact h i s (by omega) hs
theorem fits_at {b : Bk} {order : List ByteArray} (h : Fits b order) {k : Nat} (hk : k < order.length) : 0 ≤ idxI (nms b.bs) order[k] ∧ memS (order.take k) order[k] = false ∧ Can b.bs (idxI (nms b.bs) order[k]).toNat (order.take k) := h.2.2 k _ hk (List.getElem?_eq_getElem hk)
theorem fits_end {b : Bk} {order : List ByteArray} {k : Nat} (hok : BookOk b) (hl : order.length = b.bs.length) (h : FitsTo b.bs order k) (hk : ¬ k < order.length) : Fits b order := ⟨hok, hl, fun i s hi hs => h i s (by omega) hs⟩
theorem idxI_at {l : List ByteArray} {s : ByteArray} (h : 0 ≤ idxI l s) : ∃ k : Nat, idxI l s = (k : Int) ∧ ∃ hk : k < l.length, l[k] = s := by
  rw [idxI] at h ⊢
  split at h
  · rename_i hm
    rw [if_pos hm]
    refine ⟨_, rfl, ?_⟩
    have hl : l.findIdx (fun x => x.toList == s.toList) < l.length := by
      rw [List.findIdx_lt_length]
      rw [memS, List.any_eq_true] at hm
      exact hm
    refine ⟨hl, ?_⟩
    have := List.findIdx_getElem (w := hl)
    exact toL_eq (by simpa using this)
  · omega
end Go.Proofs.YtnojjmkmkelbgaaGreat

/- The program's table in plain: rows, and what is free. -/
namespace Go.Proofs.YtnojjmkmkelbgaaGreat

/-- A batch, and whether it is gone. -/
abbrev Tr := Ba × Bool
def rowC (things : List ByteArray) (p : Tr) : List Value := [.string p.1.nm, .int .u64 (bitsN things (memS p.1.has) : Nat), .int .u64 (bitsN things (memS p.1.needs) : Nat), .bool p.2]
def rowsL (things : List ByteArray) : List Tr → List Value
  | [] => []
  | p :: r => rowC things p ++ rowsL things r
theorem rowsL_length (things : List ByteArray) : ∀ ts : List Tr, (rowsL things ts).length = ts.length * 4
  | [] => rfl
  | p :: r => by rw [rowsL, List.length_append, rowsL_length things r, List.length_cons]; simp [rowC]; omega
theorem rowsL_snoc (things : List ByteArray) (p : Tr) : ∀ ts : List Tr, rowsL things (ts ++ [p]) = rowsL things ts ++ rowC things p
  | [] => by simp [rowsL]
  | q :: r => by rw [List.cons_append, rowsL, rowsL, rowsL_snoc things p r, List.append_assoc]
theorem rowsL_get (things : List ByteArray) : ∀ (ts : List Tr) (i j : Nat) (p : Tr), ts[i]? = some p → j < 4 → (rowsL things ts)[i * 4 + j]? = (rowC things p)[j]?
  | [], i, j, p, h, _ => by simp at h
  | q :: r, 0, j, p, h, hj => by
    simp at h; subst h
    rw [rowsL, List.getElem?_append_left (by simp [rowC]; omega)]; simp
  | q :: r, i + 1, j, p, h, hj => by
    rw [rowsL, List.getElem?_append_right (by simp [rowC]; omega)]
    have e : (i + 1) * 4 + j - (rowC things q).length = i * 4 + j := by simp [rowC]; omega
    rw [e]
    exact rowsL_get things r i j p (by simpa using h) hj
theorem rowsL_set (things : List ByteArray) : ∀ (ts : List Tr) (i : Nat) (p : Tr), ts[i]? = some p → (rowsL things ts).set (i * 4 + 3) (.bool true) = rowsL things (ts.set i (p.1, true))
  | [], i, p, h => by simp at h
  | q :: r, 0, p, h => by
    simp at h; subst h
    simp [rowsL, rowC]
  | q :: r, i + 1, p, h => by
    rw [rowsL, List.set_append_right _ _ (by simp [rowC]; omega)]
    have e : (i + 1) * 4 + 3 - (rowC things q).length = i * 4 + 3 := by simp [rowC]; omega
    rw [e, rowsL_set things r i p (by simpa using h)]
    simp [rowsL]
/-- A thing that nobody of the rows has who is not gone. -/
def freeL (ts : List Tr) (t : ByteArray) : Bool := ts.all fun p => p.2 || !memS p.1.has t
theorem freeL_iff (ts : List Tr) (t : ByteArray) : freeL ts t = true ↔ ∀ (i : Nat) (p : Tr), ts[i]? = some p → p.2 = false → memS p.1.has t = false := by
  simp only [freeL, List.all_eq_true, Bool.or_eq_true, Bool.not_eq_true']
  constructor
  · intro h i p hp h2
    rcases h p (List.mem_of_getElem? hp) with h3 | h3
    · rw [h2] at h3; cases h3
    · exact h3
  · intro h p hp
    obtain ⟨i, hi, rfl⟩ := List.getElem_of_mem hp
    cases h2 : ts[i].2
    · exact .inr (h i _ (List.getElem?_eq_getElem hi) h2)
    · exact .inl rfl
theorem freeL_eq {bs : List Ba} {ts : List Tr} (h : ts.map (·.1) = bs) (t : ByteArray) : freeL ts t = freeB bs (fun i => (ts[i]?.map (·.2)).getD false) bs.length t := by
  rw [Bool.eq_iff_iff, freeL_iff, freeB_iff]
  subst h
  constructor
  · intro h i x hi hx hg
    rw [List.getElem?_map, Option.map_eq_some_iff] at hx
    obtain ⟨p, hp, rfl⟩ := hx
    exact h i p hp (by rw [hp] at hg; simpa using hg)
  · intro h i p hp h2
    exact h i p.1 (by simpa using (List.getElem?_eq_some_iff.1 hp).1) (by rw [List.getElem?_map, hp]; rfl) (by rw [hp]; simpa using h2)
theorem freeL_snoc (ts : List Tr) (p : Tr) (t : ByteArray) : freeL (ts ++ [p]) t = (freeL ts t && (p.2 || !memS p.1.has t)) := by simp [freeL]
theorem map_at {bs : List Ba} {ts : List Tr} (h : ts.map (·.1) = bs) {i : Nat} {p : Tr} (hp : ts[i]? = some p) : bs[i]? = some p.1 := by subst h; rw [List.getElem?_map, hp]; rfl
/-- One more row. -/
theorem free_more {bs : List Ba} (ha : Apart bs) {ts : List Tr} {k : Nat} (hk : k < bs.length) (h : ts.map (·.1) = bs.take k) (things : List ByteArray) :
    bitsN things (freeL ts) = bitsN things (memS (bs[k]).has) + bitsN things (freeL (ts ++ [(bs[k], false)])) := by
  rw [bitsN_sub (P := freeL ts) (Q := memS (bs[k]).has)]
  · congr 1
    refine bitsN_congr fun t _ => ?_
    rw [freeL_snoc]; simp
  · intro t _ hm
    rw [freeL_iff]
    intro i p hp _
    have h1 := map_at h hp
    rw [List.getElem?_take] at h1
    split at h1
    · rename_i hi
      rw [List.getElem?_eq_getElem (by omega)] at h1
      obtain h1 := Option.some.inj h1
      have := ha.at hk hi
      rw [shareB_no] at this
      rw [memS_no, ← h1]
      exact this t ((memS_iff _ _).1 hm)
    · cases h1
/-- One goes. -/
theorem free_leave {bs : List Ba} (ha : Apart bs) {ts : List Tr} {i : Nat} {p : Tr} (h : ts.map (·.1) = bs) (hp : ts[i]? = some p) (hg : p.2 = false) (things : List ByteArray) :
    bitsN things (freeL ts) + bitsN things (memS p.1.has) = bitsN things (freeL (ts.set i (p.1, true))) := by
  have hi := (List.getElem?_eq_some_iff.1 hp).1
  have hb := map_at h hp
  have hib : i < bs.length := by rw [← h]; simpa using hi
  rw [bitsN_add]
  · refine bitsN_congr fun t _ => ?_
    rw [Bool.eq_iff_iff, Bool.or_eq_true, freeL_iff, freeL_iff]
    constructor
    · rintro (h1 | h1) j q hq hg2
      · rw [List.getElem?_set] at hq
        split at hq
        · obtain rfl := Option.some.inj hq; cases hg2
        · exact h1 j q hq hg2
      · rw [List.getElem?_set] at hq
        split at hq
        · obtain rfl := Option.some.inj hq; cases hg2
        · rename_i hne
          have hq' := map_at h hq
          have hjb := (List.getElem?_eq_some_iff.1 hq').1
          rw [memS_no]
          intro h5
          have h6 := (memS_iff _ _).1 h1
          rw [List.getElem?_eq_getElem hjb] at hq'
          rw [List.getElem?_eq_getElem hib] at hb
          have hq2 := Option.some.inj hq'
          have hb2 := Option.some.inj hb
          rcases Nat.lt_or_gt_of_ne hne with h7 | h7
          · have := ha.at hjb h7
            rw [shareB_no, hq2, hb2] at this
            exact this t h5 h6
          · have := ha.at hib h7
            rw [shareB_no, hq2, hb2] at this
            exact this t h6 h5
    · intro h1
      cases hm : memS p.1.has t
      · refine .inl fun j q hq hg2 => ?_
        by_cases e : i = j
        · subst e; rw [hp] at hq; obtain rfl := Option.some.inj hq; exact hm
        · exact h1 j q (by rw [List.getElem?_set, if_neg e]; exact hq) hg2
      · exact .inr rfl
  · intro t _ h1
    exact (freeL_iff _ _).1 h1 i p hp hg
/-- Who can, off the table. -/
theorem can_tab {b : Bk} (hok : BookOk b) {ts : List Tr} (h : ts.map (·.1) = b.bs) {gone : List ByteArray} (hG : ∀ (i : Nat) (p : Tr), ts[i]? = some p → p.2 = memS gone p.1.nm) {a : Nat} {p : Tr} (hp : ts[a]? = some p) (hg : p.2 = false) :
    (bitsN b.things (memS p.1.needs) &&& (18446744073709551615 - (bitsN b.things (freeL ts) + bitsN b.things (memS p.1.has))) = 0) ↔ Can b.bs a gone := by
  have hb := map_at h hp
  have hab : a < b.bs.length := (List.getElem?_eq_some_iff.1 hb).1
  have hb2 : b.bs[a] = p.1 := by rw [List.getElem?_eq_getElem hab] at hb; exact Option.some.inj hb
  rw [bitsN_add (fun t _ h1 => (freeL_iff _ _).1 h1 a p hp hg), bitsN_not hok.1.1,
    ← can_bits hok hab (gone := gone) (G := fun i => (ts[i]?.map (·.2)).getD false) (fun i hi => ?_) (by simp [hp, hg]), hb2]
  · constructor
    · intro h1 t ht hn; rw [← freeL_eq h]; exact h1 t ht hn
    · intro h1 t ht hn; have := h1 t ht hn; rwa [← freeL_eq h] at this
  · have hi' : i < ts.length := by rw [← h] at hi; simpa using hi
    have e := map_at h (List.getElem?_eq_getElem hi')
    rw [List.getElem?_eq_getElem hi] at e
    rw [List.getElem?_eq_getElem hi']
    simp only [Option.map_some, Option.getD_some]
    rw [hG i _ (List.getElem?_eq_getElem hi'), Option.some.inj e]
end Go.Proofs.YtnojjmkmkelbgaaGreat

/- Books of one's own in memory: what the laws' copies are. -/
namespace Go.Proofs.YtnojjmkmkelbgaaGreat
open Go.RowKit

/-- A list of texts in a block of its own, at or behind a base. -/
def LsO (w : World) (base : Nat) (v : Value) (ss : List ByteArray) : Prop := ∃ b, v = .slice (some ⟨b, 0, none⟩) ss.length ss.length ∧ StrsAt w b 0 ss ∧ w.there b 0 ss.length ∧ base ≤ b ∧ b < w.heap.size ∧ ss.length ≤ maxLen ∧ ∀ s ∈ ss, s.size ≤ maxLen
theorem LsO.ls {w : World} {base : Nat} {v : Value} {ss : List ByteArray} (h : LsO w base v ss) : Ls w v ss := by
  obtain ⟨b, rfl, h1, -, -, h2, h3, h4⟩ := h
  exact ⟨_, _, rfl, h3, h4, fun _ => ⟨b, 0, rfl, h1, h2⟩⟩
theorem LsO.up {w w' : World} {base : Nat} {v : Value} {ss : List ByteArray} (h : LsO w base v ss) (hb : Below w.heap.size w w') : LsO w' base v ss := by
  obtain ⟨b, rfl, h1, ht, h0, h2, h3⟩ := h
  exact ⟨b, rfl, h1.up hb h2, there_up ht hb h2, h0, Nat.lt_of_lt_of_le h2 hb.size, h3⟩
theorem there_kept {w w' : World} {b o n : Nat} {r : Option Nat} (h : w.there b o n) (hg : w.grownBy w' r) (hb : b < w.heap.size) (hne : some b ≠ r) : w'.there b o n := fun j hj => by
  have hk := hg.block b hb hne
  rw [World.cell?_of_block (w := w) (a := ⟨b, o + j, none⟩) hk, World.frozen?_of_block (w := w) (a := ⟨b, o + j, none⟩) hk]; exact h j hj
theorem LsO.kept {w w' : World} {base r : Nat} {v : Value} {ss : List ByteArray} (h : LsO w base v ss) (hg : w.grownBy w' (some r)) (hr : r < base) : LsO w' base v ss := by
  obtain ⟨b, rfl, h1, ht, h0, h2, h3⟩ := h
  exact ⟨b, rfl, fun i s hs => hg.cell (h1 i s hs) (by simp; omega), there_kept ht hg h2 (by simp; omega), h0, Nat.lt_of_lt_of_le h2 hg.size, h3⟩
theorem LsO.low {w : World} {base base' : Nat} {v : Value} {ss : List ByteArray} (h : LsO w base v ss) (hb : base' ≤ base) : LsO w base' v ss := by
  obtain ⟨b, rfl, h1, ht, h0, h2⟩ := h
  exact ⟨b, rfl, h1, ht, by omega, h2⟩
/-- A batch's cells in block b, its lists behind b. -/
def BaO (w : World) (b o : Nat) (x : Ba) : Prop := ∃ hv nv, w.rangeAt b o [.string x.nm, hv, nv] ∧ LsO w (b + 1) hv x.has ∧ LsO w (b + 1) nv x.needs ∧ x.nm.size ≤ maxLen
theorem BaO.up {w w' : World} {b o : Nat} {x : Ba} (h : BaO w b o x) (hb : Below w.heap.size w w') (hlt : b < w.heap.size) : BaO w' b o x := by
  obtain ⟨hv, nv, hr, h1, h2, h3⟩ := h
  exact ⟨hv, nv, fun j v hv => (hb.cell (p := ⟨b, o + j, none⟩) hlt).trans (hr j v hv), h1.up hb, h2.up hb, h3⟩
theorem BaO.at {w : World} {b o : Nat} {x : Ba} (h : BaO w b o x) : BaAt w b o x := by
  obtain ⟨hv, nv, hr, h1, h2, h3⟩ := h
  exact ⟨hv, nv, hr, h1.ls, h2.ls, h3⟩
def BsOAt (w : World) (b : Nat) (bs : List Ba) : Prop := ∀ (i : Nat) (x : Ba), bs[i]? = some x → BaO w b (i * 3) x
theorem BsOAt.up {w w' : World} {b : Nat} {bs : List Ba} (h : BsOAt w b bs) (hb : Below w.heap.size w w') (hlt : b < w.heap.size) : BsOAt w' b bs := fun i x hx => (h i x hx).up hb hlt
theorem bsO_store {w1 : World} {b k : Nat} {bs : List Ba} {hv nv : Value} (hk : k < bs.length) (h : BsOAt w1 b (bs.take k)) (ht : w1.there b 0 (bs.length * 3)) (h1 : LsO w1 (b + 1) hv (bs[k]).has) (h2 : LsO w1 (b + 1) nv (bs[k]).needs) (h3 : (bs[k]).nm.size ≤ maxLen) :
    BsOAt (w1.setCells b (k * 3) [.string (bs[k]).nm, hv, nv]) b (bs.take (k + 1)) := by
  have hg : w1.grownBy (w1.setCells b (k * 3) [.string (bs[k]).nm, hv, nv]) (some b) := grown_copies b _ _ w1 w1 (some b) (World.grownBy.refl' w1) rfl
  intro i p hp
  by_cases hi : i < k
  · obtain ⟨hv', nv', hr, g1, g2, g3⟩ := h i p (by rw [List.getElem?_take] at hp ⊢; rw [if_pos (by omega)] at hp; rw [if_pos hi]; exact hp)
    refine ⟨hv', nv', World.rangeAt_setCells_apart hr b (k * 3) _ (.inr (.inl ?_)), g1.kept hg (by omega), g2.kept hg (by omega), g3⟩
    simp; omega
  · have hik : i = k := by
      rw [List.getElem?_take] at hp
      split at hp
      · omega
      · cases hp
    subst hik
    rw [List.getElem?_take, if_pos (by omega), List.getElem?_eq_getElem hk] at hp
    obtain rfl := Option.some.inj hp
    refine ⟨hv, nv, World.rangeAt_setCells_same _ _ _ _ (fun j hj => ?_), h1.kept hg (by omega), h2.kept hg (by omega), h3⟩
    have := ht (i * 3 + j) (by simp at hj; omega)
    simpa using this
/-- Batches in a block of their own; a book of its own. -/
def BsO (w : World) (base : Nat) (v : Value) (bs : List Ba) : Prop := ∃ b, v = .slice (some ⟨b, 0, none⟩) bs.length bs.length ∧ BsOAt w b bs ∧ w.there b 0 (bs.length * 3) ∧ base ≤ b ∧ b < w.heap.size ∧ bs.length ≤ maxLen
theorem BsO.bs {w : World} {base : Nat} {v : Value} {bs : List Ba} (h : BsO w base v bs) : Bs w v bs := by
  obtain ⟨b, rfl, h1, -, -, h2, h3⟩ := h
  exact ⟨_, _, rfl, h3, fun _ => ⟨b, 0, rfl, fun i x hx => by rw [Nat.zero_add]; exact (h1 i x hx).at, h2⟩⟩
theorem BsO.up {w w' : World} {base : Nat} {v : Value} {bs : List Ba} (h : BsO w base v bs) (hb : Below w.heap.size w w') : BsO w' base v bs := by
  obtain ⟨b, rfl, h1, ht, h0, h2, h3⟩ := h
  exact ⟨b, rfl, h1.up hb h2, there_up ht hb h2, h0, Nat.lt_of_lt_of_le h2 hb.size, h3⟩
def BkO (w : World) (base : Nat) (v : Value) (b : Bk) : Prop := ∃ tv bv mid, v = .agg #[tv, bv] ∧ LsO w base tv b.things ∧ BsO w mid bv b.bs ∧ base ≤ mid ∧ ∀ g, tv.ownBlock = some g → g < mid
theorem BkO.bk {w : World} {base : Nat} {v : Value} {b : Bk} (h : BkO w base v b) : BkV w v b := by
  obtain ⟨tv, bv, mid, rfl, h1, h2, -⟩ := h
  exact ⟨tv, bv, rfl, h1.ls, h2.bs⟩
theorem BkO.up {w w' : World} {base : Nat} {v : Value} {b : Bk} (h : BkO w base v b) (hb : Below w.heap.size w w') : BkO w' base v b := by
  obtain ⟨tv, bv, mid, rfl, h1, h2, r⟩ := h
  exact ⟨tv, bv, mid, rfl, h1.up hb, h2.up hb, r⟩
end Go.Proofs.YtnojjmkmkelbgaaGreat

/- An append of nothing. -/
namespace Go.Proofs.YtnojjmkmkelbgaaGreat
open Go.RowKit

theorem run_append_zero {P : Program} {w : World} (base : Nat) (t ty e : TypeId) (i : TypeInfo) (size : Nat) (ht : P.underlying t = some (.slice e)) (hi : P.info? e = some i)
    (v : Value) (n : Nat) (xs : List Value) (hown : w.ownsRow base e size v n xs) (a : Option Addr) (c : Nat) : (Builtin.append_ #[t, t] ty #[v, .slice a 0 c]).run P w = .ok v w := by
  rcases hown.2 with ⟨rfl, rfl⟩ | ⟨g, cap, cur, rfl, _, _, hnc, _⟩
  · cases a <;> simp [Builtin.append_, run_underlying ht, sizeOf, typeInfo, hi, Builtin.lenOf, Builtin.firstCells, loadCells, loadCellsFrom, Result.andThen]
  · cases a <;> simp [Builtin.append_, run_underlying ht, sizeOf, typeInfo, hi, Builtin.lenOf, Builtin.firstCells, hnc, storeCells, loadCells, loadCellsFrom, Result.andThen]
theorem wpList_append_zero {P : Program} (w : World) {ops : Array Oper} {rest : List Oper} {o : Oper} {ac : Act} {Q : Exit → Act → World → Prop} (hg : o.guard = none) (s x : Operand) (t : TypeId) (hop : o.op = .call { callee := .builtin .append, args := #[s, x], argTypes := #[t, t] })
    (base : Nat) (e : TypeId) (i : TypeInfo) (size : Nat) (ht : P.underlying t = some (.slice e)) (hi : P.info? e = some i) (v : Value) (n : Nat) (xs : List Value) (hs : ac.eval s = v) (hown : w.ownsRow base e size v n xs) (a : Option Addr) (c : Nat) (hx : ac.eval x = .slice a 0 c)
    (h : wpList P ops Q rest (ac.put o.dst v) w) : wpList P ops Q (o :: rest) ac w := by
  refine wpList_plain hg fun K hK => ?_
  have hr := run_append_zero (P := P) base t o.type e i size ht hi v n xs hown a c
  unfold Oper.wp
  simp [execOp, hop, resolve, invoke, builtin, hs, hx, hr, Result.andThen]
  exact hK _ _ h
/-- A slice that is not nil. -/
def NN (u : Value) : Prop := ∃ g n c, u = .slice (some ⟨g, 0, none⟩) n c
theorem ownT_lit0 (w : World) : OwnT (w.alloc (.cells #[] 9)) w.heap.size (.slice (some ⟨w.heap.size, 0, none⟩) 0 0) [] := World.ownsRow_lit w #[] 0 (Nat.le_refl _) (by unfold maxLen; omega) rfl
end Go.Proofs.YtnojjmkmkelbgaaGreat

/- A region that draws its order and ends in one operation that waits for all: what is read may be taken first, though that last operation writes over it. -/
namespace Go.Proofs.YtnojjmkmkelbgaaGreat
open Go

section
variable {P : Program} {ops : Array Oper} {Q : Exit → Act → World → Prop} {md : Region.Mode} {S : World → Prop} {L : Nat}

/-- Whatever comes up; S is asked behind each operation but the last, L. -/
def AnyX (P : Program) (md : Region.Mode) (ops : Array Oper) (Q : Exit → Act → World → Prop) (S : World → Prop) (L : Nat) : Nat → Array Bool → Act → World → Prop
  | 0, listed, a, w => Region.ready md ops listed = [] ∧ Q .normal a w
  | fuel + 1, listed, a, w => (Region.ready md ops listed = [] → Q .normal a w) ∧
    ∀ i ∈ Region.ready md ops listed, wpOp P ops Q i (fun a' w' => (i ≠ L → S w') ∧ AnyX P md ops Q S L fuel (listed.setIfInBounds i true) a' w') a w
theorem any_of_x : ∀ (fuel : Nat) (listed : Array Bool) (a : Act) (w : World), AnyX P md ops Q S L fuel listed a w → wpAny P md ops Q fuel listed a w
  | 0, _, _, _, h => h
  | fuel + 1, _, _, _, h => ⟨h.1, fun i hi => wpOp_mono (fun a' w' h' => any_of_x fuel _ a' w' h'.2) (h.2 i hi)⟩
/-- The last waits for this one. -/
def waitsB (md : Region.Mode) (ops : Array Oper) (L i : Nat) : Bool := ((ops[L]?).map fun o => o.after.any fun e => Region.binds md e && e.on == i).getD (decide (ops.size ≤ L))
theorem not_last {listed : Array Bool} {i j : Nat} (hw : waitsB md ops L i = true) (hi : i ∈ Region.ready md ops listed) (hj : j ∈ Region.ready md ops listed) : j ≠ L := by
  rintro rfl
  obtain ⟨_, oj, hoj, hall⟩ := mem_ready.1 hj
  simp only [waitsB, hoj, Option.map_some, Option.getD_some, Array.any_eq_true', Bool.and_eq_true, beq_iff_eq] at hw
  obtain ⟨e, he, hb, heq⟩ := hw
  have h1 := hall e he hb
  have h0 := (mem_ready.1 hi).1
  rw [heq] at h1
  rcases Nat.lt_or_ge i listed.size with h' | h'
  · simp [h'] at h0 h1; rw [h0] at h1; cases h1
  · simp [Array.getElem?_eq_none h'] at h1
theorem anyX_first {i : Nat} {oi : Oper} {v : Value} (hi : ops[i]? = some oi) (hsel : ∀ (j : Nat) (o : Oper) cs b, ops[j]? = some o → o.op ≠ .select cs b)
    (hQ : ∀ c a w, Q (.panic c) (a.put oi.dst v) w → Q (.panic c) a w) (hw : waitsB md ops L i = true) :
    ∀ (fuel : Nat) (listed : Array Bool) (a : Act) (w : World),
      (∀ j oj, ops[j]? = some oj → j ≠ i → listed.getD j true = false → (∀ e ∈ oj.after, Region.binds md e = true → e.on ≠ i) → oi.apart ops oj = true) →
      i ∈ Region.ready md ops listed → YieldsIf P ops S oi v a → S w → AnyX P md ops Q S L fuel (listed.setIfInBounds i true) (a.put oi.dst v) w → AnyX P md ops Q S L (fuel + 1) listed a w := by
  intro fuel
  induction fuel with
  | zero =>
    intro listed a w _ hr hy hS H
    refine ⟨fun h => (by rw [h] at hr; cases hr), fun j hj => ?_⟩
    by_cases hji : j = i
    · subst hji; exact hy.wpOp hi hS ⟨fun _ => hS, H⟩
    · have hm := ready_mono hj hji
      rw [H.1] at hm; cases hm
  | succ fuel ih =>
    intro listed a w hfree hr hy hS H
    refine ⟨fun h => (by rw [h] at hr; cases hr), fun j hj => ?_⟩
    by_cases hji : j = i
    · subst hji; exact hy.wpOp hi hS ⟨fun _ => hS, H⟩
    · have hjL : j ≠ L := not_last hw hr hj
      obtain ⟨hjun, oj, hoj, hall⟩ := mem_ready.1 hj
      have hnot : ∀ e ∈ oj.after, Region.binds md e = true → e.on ≠ i := fun e he hb heq => by
        have h1 := hall e he hb
        have h0 := (mem_ready.1 hr).1
        rw [heq] at h1
        rcases Nat.lt_or_ge i listed.size with h' | h'
        · simp [h'] at h0 h1; rw [h0] at h1; cases h1
        · simp [Array.getElem?_eq_none h'] at h1
      have h2 := wpOp_putIf hoj (hfree j oj hoj hji hjun hnot) (fun cs b => hsel i oi cs b hi) (fun cs b => hsel j oj cs b hoj) hQ hy (H.2 j (ready_mono hj hji))
      refine wpOp_mono (fun a' w' h3 => ⟨fun _ => h3.2.1 hjL, ih (listed.setIfInBounds j true) a' w' (fun k ok hk hki hun hno => ?_) (ready_mono hr (Ne.symm hji)) h3.1 (h3.2.1 hjL) ?_⟩) h2
      · refine hfree k ok hk hki ?_ hno
        by_cases hjk : j = k
        · subst hjk; exact hjun
        · rw [getD_set_ne true hjk] at hun; exact hun
      · rw [Array.setIfInBounds_comm _ _ hji]
        exact h3.2.2
/-- What yields its value in every world that meets S is taken first. -/
theorem anyX_take {i : Nat} {oi : Oper} {v : Value} {fuel : Nat} {listed : Array Bool} {a : Act} {w : World} (hi : ops[i]? = some oi)
    (hs : Region.noSelect ops = true) (hf : Region.free md ops listed i = true) (hr : (Region.ready md ops listed).contains i = true) (hw : waitsB md ops L i = true)
    (hQ : ∀ c a w, Q (.panic c) (a.put oi.dst v) w → Q (.panic c) a w) (hg : Region.wanted oi (yielded ops a.tmps) = true) (hS : S w) (hy : ∀ w, S w → (execOp a.eval oi).run P w = .ok (.value v) w)
    (h : AnyX P md ops Q S L fuel (listed.setIfInBounds i true) (a.put oi.dst v) w) : AnyX P md ops Q S L (fuel + 1) listed a w :=
  anyX_first hi (Region.noSelect_spec hs) hQ hw fuel listed a w (Region.free_spec hi hf) (by simpa using hr) (.inl ⟨hg, hy⟩) hS h
/-- What is not wanted is passed by. -/
theorem anyX_skip {i : Nat} {oi : Oper} {fuel : Nat} {listed : Array Bool} {a : Act} {w : World} (hi : ops[i]? = some oi)
    (hs : Region.noSelect ops = true) (hf : Region.free md ops listed i = true) (hr : (Region.ready md ops listed).contains i = true) (hw : waitsB md ops L i = true)
    (hQ : ∀ c a w, Q (.panic c) (a.put oi.dst undef) w → Q (.panic c) a w) (hg : Region.wanted oi (yielded ops a.tmps) = false) (hS : S w)
    (h : AnyX P md ops Q S L fuel (listed.setIfInBounds i true) (a.put oi.dst undef) w) : AnyX P md ops Q S L (fuel + 1) listed a w :=
  anyX_first hi (Region.noSelect_spec hs) hQ hw fuel listed a w (Region.free_spec hi hf) (by simpa using hr) (.inr ⟨hg, rfl⟩) hS h
/-- The same, told shortly. -/
theorem tkx (i : Nat) {oi : Oper} {v : Value} {fuel : Nat} {listed : Array Bool} {a : Act} {w : World} (hi : ops[i]? = some oi) (hS : S w)
    (h : AnyX P md ops Q S L fuel (listed.setIfInBounds i true) (a.put oi.dst v) w)
    (hy : ∀ w, S w → (execOp a.eval oi).run P w = .ok (.value v) w := by (intro w hSw; (try dsimp only at hSw); go_simp; try with_reducible rfl))
    (hs : Region.noSelect ops = true := by kernel_rfl) (hf : Region.free md ops listed i = true := by kernel_rfl) (hr : (Region.ready md ops listed).contains i = true := by kernel_rfl) (hw : waitsB md ops L i = true := by kernel_rfl)
    (hQ : ∀ c a w, Q (.panic c) (a.put oi.dst v) w → Q (.panic c) a w := by exact fun _ _ _ h => h) (hg : Region.wanted oi (yielded ops a.tmps) = true := by first | kernel_rfl | rfl) : AnyX P md ops Q S L (fuel + 1) listed a w :=
  anyX_take hi hs hf hr hw hQ hg hS hy h
theorem skx (i : Nat) {oi : Oper} {fuel : Nat} {listed : Array Bool} {a : Act} {w : World} (hi : ops[i]? = some oi) (hS : S w)
    (h : AnyX P md ops Q S L fuel (listed.setIfInBounds i true) (a.put oi.dst undef) w)
    (hs : Region.noSelect ops = true := by kernel_rfl) (hf : Region.free md ops listed i = true := by kernel_rfl) (hr : (Region.ready md ops listed).contains i = true := by kernel_rfl) (hw : waitsB md ops L i = true := by kernel_rfl)
    (hQ : ∀ c a w, Q (.panic c) (a.put oi.dst undef) w → Q (.panic c) a w := by exact fun _ _ _ h => h) (hg : Region.wanted oi (yielded ops a.tmps) = false := by first | kernel_rfl | rfl) : AnyX P md ops Q S L (fuel + 1) listed a w :=
  anyX_skip hi hs hf hr hw hQ hg hS h
/-- One alone may come up. -/
theorem anyX_one {i : Nat} {o : Oper} {fuel : Nat} {listed : Array Bool} {a : Act} {w : World} (hr : Region.ready md ops listed = [i]) (ho : ops[i]? = some o)
    (h : ∀ K' : Act → World → Prop, Shut (∀ a w, (i ≠ L → S w) → AnyX P md ops Q S L fuel (listed.setIfInBounds i true) a w → K' a w) → if Region.wanted o (yielded ops a.tmps) = true then Oper.wp P o a w K' Q else K' (a.put o.dst undef) w) :
    AnyX P md ops Q S L (fuel + 1) listed a w := by
  refine ⟨fun h0 => (by rw [hr] at h0; cases h0), fun j hj => ?_⟩
  rw [hr] at hj
  obtain rfl : j = i := by simpa using hj
  exact wpOp_step ho fun K' hK => h K' fun a w hS hA => hK a w ⟨hS, hA⟩
/-- The same, told shortly; the way on. -/
theorem onx (i : Nat) {o : Oper} {fuel : Nat} {listed : Array Bool} {a : Act} {w : World} (ho : ops[i]? = some o)
    (h : ∀ K' : Act → World → Prop, Shut (∀ a w, (i ≠ L → S w) → AnyX P md ops Q S L fuel (listed.setIfInBounds i true) a w → K' a w) → if Region.wanted o (yielded ops a.tmps) = true then Oper.wp P o a w K' Q else K' (a.put o.dst undef) w)
    (hr : Region.ready md ops listed = [i] := by kernel_rfl) : AnyX P md ops Q S L (fuel + 1) listed a w := anyX_one hr ho h
theorem gox {i : Nat} {R K : Act → World → Prop} {a : Act} {w : World} (h : Shut (∀ a w, (i ≠ L → S w) → R a w → K a w)) (hs : S w) (hr : R a w) : K a w := h a w (fun _ => hs) hr
theorem finx {i : Nat} {R K : Act → World → Prop} {a : Act} {w : World} (h : Shut (∀ a w, (i ≠ i → S w) → R a w → K a w)) (hr : R a w) : K a w := h a w (fun e => absurd rfl e) hr
/-- One of two may come up. -/
theorem anyX_two {i j : Nat} {o o' : Oper} {fuel : Nat} {listed : Array Bool} {a : Act} {w : World} (hr : Region.ready md ops listed = [i, j]) (ho : ops[i]? = some o) (ho' : ops[j]? = some o')
    (h : ∀ K' : Act → World → Prop, Shut (∀ a w, (i ≠ L → S w) → AnyX P md ops Q S L fuel (listed.setIfInBounds i true) a w → K' a w) → if Region.wanted o (yielded ops a.tmps) = true then Oper.wp P o a w K' Q else K' (a.put o.dst undef) w)
    (h' : ∀ K' : Act → World → Prop, Shut (∀ a w, (j ≠ L → S w) → AnyX P md ops Q S L fuel (listed.setIfInBounds j true) a w → K' a w) → if Region.wanted o' (yielded ops a.tmps) = true then Oper.wp P o' a w K' Q else K' (a.put o'.dst undef) w) :
    AnyX P md ops Q S L (fuel + 1) listed a w := by
  refine ⟨fun h0 => (by rw [hr] at h0; cases h0), fun k hk => ?_⟩
  rw [hr] at hk
  rcases (by simpa using hk : k = i ∨ k = j) with rfl | rfl
  · exact wpOp_step ho fun K' hK => h K' fun a w hS hA => hK a w ⟨hS, hA⟩
  · exact wpOp_step ho' fun K' hK => h' K' fun a w hS hA => hK a w ⟨hS, hA⟩
theorem anyX_done {listed : Array Bool} {a : Act} {w : World} (hr : Region.ready md ops listed = []) (h : Q .normal a w) : ∀ fuel, AnyX P md ops Q S L fuel listed a w
  | 0 => ⟨hr, h⟩
  | _ + 1 => ⟨fun _ => h, by rw [hr]; simp⟩
theorem wp_region_x {id : Nat} {a : Act} {w : World} (L : Nat) (S : World → Prop) (hm : P.follows .mixedOrders = true) (h : AnyX P .any ops Q S L ops.size (Array.replicate ops.size false) a w.drew) : (Code.region id ops true).wp P Q a w :=
  wp_region_any hm (any_of_x _ _ _ _ h)
end
end Go.Proofs.YtnojjmkmkelbgaaGreat

/- A name put into an ascending list: plain facts, and what is at hand while lists are joined. -/
namespace Go.Proofs.YtnojjmkmkelbgaaGreat
open Go.RowKit

def lessB (a b : ByteArray) : Bool := Op.bytesLess a.toList b.toList
def sameB (a b : ByteArray) : Bool := a.toList == b.toList
/-- A name put into an ascending list. -/
def insL : List ByteArray → ByteArray → List ByteArray
  | [], x => [x]
  | y :: r, x => if lessB y x = true then y :: insL r x else if sameB y x = true then y :: r else x :: y :: r
/-- The first k are less. -/
def lowL (ss : List ByteArray) (x : ByteArray) (k : Nat) : Prop := ∀ (j : Nat) (s : ByteArray), j < k → ss[j]? = some s → lessB s x = true
theorem lowL_succ {ss : List ByteArray} {x : ByteArray} {k : Nat} (h : lowL ss x k) (hk : k < ss.length) (hl : lessB (ss[k]) x = true) : lowL ss x (k + 1) := fun j s hj hs => by
  rcases Nat.lt_or_ge j k with h' | h'
  · exact h j s h' hs
  · obtain rfl : j = k := by omega
    obtain ⟨_, rfl⟩ := List.getElem?_eq_some_iff.1 hs
    exact hl
theorem insL_new : ∀ (ss : List ByteArray) (x : ByteArray) (k : Nat), lowL ss x k → k ≤ ss.length → (∀ s, ss[k]? = some s → lessB s x = false ∧ sameB s x = false) → insL ss x = ss.take k ++ x :: ss.drop k
  | [], x, 0, _, _, _ => rfl
  | [], x, k + 1, _, h, _ => by simp at h
  | y :: r, x, 0, _, _, h => by
    obtain ⟨h1, h2⟩ := h y rfl
    rw [insL, h1, h2]; rfl
  | y :: r, x, k + 1, hl, hk, h => by
    have h0 := hl 0 y (by omega) rfl
    rw [insL, if_pos h0, insL_new r x k (fun j s hj hs => hl (j + 1) s (by omega) (by simpa using hs)) (by simpa using hk) (fun s hs => h s (by simpa using hs))]
    rfl
theorem insL_old : ∀ (ss : List ByteArray) (x : ByteArray) (k : Nat), lowL ss x k → (∃ s, ss[k]? = some s ∧ lessB s x = false ∧ sameB s x = true) → insL ss x = ss
  | [], x, k, _, ⟨s, hs, _⟩ => by simp at hs
  | y :: r, x, 0, _, ⟨s, hs, h1, h2⟩ => by
    obtain rfl : y = s := by simpa using hs
    rw [insL, h1, h2]; rfl
  | y :: r, x, k + 1, hl, ⟨s, hs, h1, h2⟩ => by
    have h0 := hl 0 y (by omega) rfl
    rw [insL, if_pos h0, insL_old r x k (fun j s hj hs => hl (j + 1) s (by omega) (by simpa using hs)) ⟨s, by simpa using hs, h1, h2⟩]
theorem insL_len (ss : List ByteArray) (x : ByteArray) : (insL ss x).length ≤ ss.length + 1 := by
  induction ss with
  | nil => simp [insL]
  | cons y r ih =>
    rw [insL]
    split
    · simp; omega
    · split <;> simp

/-- What is at hand while names are joined. -/
def Ow (w W : World) (g : Nat) (ss : List ByteArray) (v : Value) (n : Nat) (xs : List Value) : Prop := W.ownsRow w.heap.size 9 1 v n xs ∧ StrsAt W g 0 ss ∧ Below w.heap.size w W
theorem Ow.grow {w W W' : World} {g n n' : Nat} {ss : List ByteArray} {v v' : Value} {xs ys : List Value} (h : Ow w W g ss v n xs) (hg : g < w.heap.size) (hgr : W.grownBy W' v.ownBlock) (ho : W'.ownsRow w.heap.size 9 1 v' n' ys) : Ow w W' g ss v' n' ys :=
  ⟨ho, h.2.1.own h.1 hgr hg, below_own h.2.2 h.1 hgr (Nat.le_refl _)⟩
theorem Ow.alloc {w W : World} {g n : Nat} {ss : List ByteArray} {v : Value} {xs : List Value} (h : Ow w W g ss v n xs) (o : Obj) : Ow w (W.alloc o) g ss v n xs :=
  ⟨h.1.alloc o, h.2.1.alloc o, h.2.2.alloc h.2.2.size o⟩
theorem Ow.drew {w W : World} {g n : Nat} {ss : List ByteArray} {v : Value} {xs : List Value} (h : Ow w W g ss v n xs) : Ow w W.drew g ss v n xs := ⟨h.1, h.2.1, h.2.2.drew⟩
theorem ow_lit {w W : World} {g : Nat} {ss : List ByteArray} (hS : StrsAt W g 0 ss) (hB : Below w.heap.size w W) : Ow w (W.alloc (.cells #[] 9)) g ss (.slice (some ⟨W.heap.size, 0, none⟩) 0 0) 0 [] :=
  ⟨World.ownsRow_lit W #[] 0 hB.size (Nat.zero_le _) rfl, hS.alloc _, hB.alloc hB.size _⟩
theorem strs_drop {W : World} {g o2 k c : Nat} {ss : List ByteArray} (h : StrsAt W g 0 ss) (ho : (if c = k then some (⟨g, 0, none⟩ : Addr) else some ⟨g, k, none⟩) = some ⟨g, o2, none⟩) (hc : ss.length ≤ c) : StrsAt W g o2 (ss.drop k) := by
  by_cases h7 : c = k
  · intro i s hs
    have := (List.getElem?_eq_some_iff.1 hs).1; simp at this; omega
  · rw [if_neg h7] at ho
    obtain rfl : k = o2 := by simpa using ho
    have := h.drop k
    simpa using this
end Go.Proofs.YtnojjmkmkelbgaaGreat
