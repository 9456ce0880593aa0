/- The slots of a recipe from a name on: both sides' lists are one. -/
import Derived.Test.YtliebjbbomghiaaGreatDoorJ3
import Derived.Test.YtliebjbbomghiaaGreatDoorPt
import Derived.Test.YtliebjbbomghiaaGreatDoorJ1
import Derived.Maps.Views
namespace Go.Proofs.YtliebjbbomghiaaGreatDoor

def ownK (p : Ph) : List Key := if p.k = 2 then [p.a.toList, p.b.toList] else [p.a.toList]
/-- The specification's list. -/
def slE (ps : List Ph) (nm : ByteArray) : List ByteArray := evL (fun _ => []) (fun p a b => bothL (bothL (ofL p) a) b) [] ps nm
def fpK (p : Ph) (a b : List Key) : List Key := uniq (ownK p ++ a ++ b)
def feK (_ : Int) : List Key := []
/-- The program's. -/
def slI (ps : List Ph) (nm : ByteArray) : List Key := evL feK fpK [] ps nm
theorem of_keys (p : Ph) : (keys (ofL p)).Pairwise (· < ·) ∧ ∀ x, x ∈ keys (ofL p) ↔ x ∈ ownK p := by
  unfold ofL ownK
  by_cases h : p.k = 2
  · rw [if_pos h, if_pos h]
    obtain ⟨h1, h2⟩ := ins_keys [p.a] p.b
    refine ⟨h2 (by simp [keys]), fun x => ?_⟩
    rw [h1]; simp [keys]
  · rw [if_neg h, if_neg h]
    exact ⟨by simp [keys], fun x => by simp [keys]⟩
theorem step_keys (p : Ph) (a b : List ByteArray) : keys (bothL (bothL (ofL p) a) b) = fpK p (keys a) (keys b) := by
  obtain ⟨o1, o2⟩ := of_keys p
  obtain ⟨m1, p1⟩ := both_keys a (ofL p)
  obtain ⟨m2, p2⟩ := both_keys b (bothL (ofL p) a)
  obtain ⟨u1, u2⟩ := uniq_keys (ownK p ++ keys a ++ keys b)
  refine asc_unique _ _ (p2 (p1 o1)) u1 fun x => ?_
  rw [m2, m1, o2]
  show _ ↔ x ∈ uniq _
  rw [u2, List.mem_append, List.mem_append]
theorem slots_keys : ∀ (ps : List Ph) (nm : ByteArray), keys (slE ps nm) = slI ps nm
  | [], nm => by unfold slE slI evL; split <;> rfl
  | p :: rest, nm => by
    have ih := slots_keys rest
    unfold slE slI at *
    rw [evL, evL]
    split
    · rw [step_keys, ih, ih]
    · exact ih nm
theorem slots_asc : ∀ (ps : List Ph) (nm : ByteArray), (slI ps nm).Pairwise (· < ·)
  | [], nm => by unfold slI evL; split <;> simp [feK]
  | p :: rest, nm => by
    have ih := slots_asc rest
    unfold slI at *
    rw [evL]
    split
    · exact (uniq_keys _).1
    · exact ih nm
theorem slots_mem : ∀ (ps : List Ph) (nm : ByteArray) (x : Key), x ∈ slI ps nm → x ∈ ps.flatMap ownK
  | [], nm, x, h => by
    unfold slI evL at h; split at h <;> simp [feK] at h
  | p :: rest, nm, x, h => by
    have ih := slots_mem rest
    unfold slI at *
    rw [evL] at h
    rw [List.flatMap_cons, List.mem_append]
    split at h
    · have := ((uniq_keys _).2 x).1 h
      rw [List.mem_append, List.mem_append] at this
      rcases this with (h1 | h1) | h1
      · exact .inl h1
      · exact .inr (ih _ x h1)
      · exact .inr (ih _ x h1)
    · exact .inr (ih _ x h)
theorem len_sub : ∀ (m l : List Key), l.Nodup → (∀ x ∈ l, x ∈ m) → l.length ≤ m.length
  | [], l, _, h => by
    cases l with
    | nil => simp
    | cons x r => have := h x (by simp); simp at this
  | a :: m, l, hn, h => by
    have ih := len_sub m (l.erase a) (hn.erase a) (fun x hx => by
      have hx' := (List.Nodup.mem_erase_iff hn).1 hx
      rcases List.mem_cons.1 (h x hx'.2) with e | e
      · exact absurd e hx'.1
      · exact e)
    have := List.length_erase (a := a) (l := l)
    split at this <;> simp only [List.length_cons] <;> omega
theorem slots_len (ps : List Ph) (nm : ByteArray) : (slI ps nm).length ≤ 2 * ps.length := by
  have hn : (slI ps nm).Nodup := (slots_asc ps nm).imp fun h e => by subst e; exact key_irrefl _ h
  have h1 := len_sub (ps.flatMap ownK) _ hn (slots_mem ps nm)
  have h2 : ∀ l : List Ph, (l.flatMap ownK).length ≤ 2 * l.length := by
    intro l
    induction l with
    | nil => simp
    | cons p r ih =>
      rw [List.flatMap_cons, List.length_append, List.length_cons]
      have : (ownK p).length ≤ 2 := by unfold ownK; split <;> simp
      omega
  exact Nat.le_trans h1 (h2 ps)
theorem slE_len (ps : List Ph) (nm : ByteArray) : (slE ps nm).length ≤ 2 * ps.length := by
  have := slots_len ps nm
  rw [← slots_keys] at this
  simpa [keys] using this
def slotsV (ps : List Ph) (nm : ByteArray) : List ByteArray := if recB ps = true then slE ps nm else []
def allB2 (a b : List ByteArray) : Bool := a.all fun x => b.any fun y => y.toList == x.toList
theorem allB2_iff (a b : List ByteArray) : allB2 a b = true ↔ ∀ x ∈ keys a, x ∈ keys b := by
  simp only [allB2, List.all_eq_true, List.any_eq_true, keys, List.mem_map, beq_iff_eq]
  constructor
  · rintro h x ⟨s, hs, rfl⟩
    obtain ⟨y, hy, e⟩ := h s hs
    exact ⟨y, hy, e⟩
  · intro h s hs
    obtain ⟨y, hy, e⟩ := h s.toList ⟨s, hs, rfl⟩
    exact ⟨y, hy, e⟩
end Go.Proofs.YtliebjbbomghiaaGreatDoor

/- Books in plain: ascending lists, who has what in a map. -/
namespace Go.Proofs.YtliebjbbomghiaaGreatDoor
open Go.Maps

theorem bl_eq : ∀ (x y : List UInt8), Op.bytesLess x y = decide (x < y)
  | [], [] => by simp [Op.bytesLess]
  | _ :: _, [] => by simp [Op.bytesLess]
  | [], _ :: _ => by simp [Op.bytesLess]
  | a :: x, b :: y => by
    rw [Op.bytesLess, bl_eq x y]
    simp only [List.cons_lt_cons_iff]
    by_cases h1 : a < b <;> by_cases h2 : a = b <;> by_cases h3 : x < y <;> simp [h1, h2, h3]
theorem ltS_iff (a b : ByteArray) : ltS a b = true ↔ a.toList < b.toList := by rw [ltS, bl_eq]; simp
theorem ltS_trans {a b c : ByteArray} (h : ltS a b = true) (k : ltS b c = true) : ltS a c = true := by
  rw [ltS_iff] at *; exact List.lt_trans h k
theorem ltS_irrefl (a : ByteArray) : ltS a a = false := by
  rw [← Bool.not_eq_true, ltS_iff]; exact List.lt_irrefl _
theorem asc_lt {l : List ByteArray} (h : Asc l) : ∀ (d i : Nat) (a b : ByteArray), l[i]? = some a → l[i + 1 + d]? = some b → ltS a b = true
  | 0, i, a, b, ha, hb => h i a b (List.getElem?_eq_some_iff.1 hb).1 ha hb
  | d + 1, i, a, b, ha, hb => by
    have hl : i + 1 + (d + 1) < l.length := (List.getElem?_eq_some_iff.1 hb).1
    have hm : l[i + 1]? = some l[i + 1] := List.getElem?_eq_getElem (by omega)
    exact ltS_trans (h i a _ (by omega) ha hm) (asc_lt h d (i + 1) _ b hm (by rw [show i + 1 + 1 + d = i + 1 + (d + 1) by omega]; exact hb))
theorem asc_ne {l : List ByteArray} (h : Asc l) {i j : Nat} {a : ByteArray} (hi : l[i]? = some a) (hj : l[j]? = some a) : i = j := by
  rcases Nat.lt_trichotomy i j with h1 | h1 | h1
  · have := asc_lt h (j - i - 1) i a a hi (by rw [show i + 1 + (j - i - 1) = j by omega]; exact hj)
    rw [ltS_irrefl] at this; cases this
  · exact h1
  · have := asc_lt h (i - j - 1) j a a hj (by rw [show j + 1 + (i - j - 1) = i by omega]; exact hi)
    rw [ltS_irrefl] at this; cases this
/-- A list whose places differ, all of another list, is no longer than it. -/
theorem short_of : ∀ (l m : List ByteArray), (∀ (i j : Nat) (a : ByteArray), l[i]? = some a → l[j]? = some a → i = j) → (∀ s ∈ l, s ∈ m) → l.length ≤ m.length
  | [], m, _, _ => by simp
  | x :: r, m, hd, hs => by
    have hx : x ∈ m := hs x (by simp)
    obtain ⟨m1, m2, rfl⟩ := List.append_of_mem hx
    have := short_of r (m1 ++ m2) (fun i j a hi hj => by
      have := hd (i + 1) (j + 1) a (by simpa using hi) (by simpa using hj)
      omega) (fun s h => by
      have h1 := hs s (by simp [h])
      rcases List.mem_append.1 h1 with h2 | h2
      · simp [h2]
      · rcases List.mem_cons.1 h2 with h3 | h3
        · subst h3
          obtain ⟨i, hi, e⟩ := List.getElem_of_mem h
          have := hd 0 (i + 1) s (by simp) (by simp [List.getElem?_eq_getElem hi, e])
          omega
        · simp [h3])
    simp at this ⊢; omega
theorem part_short {l all : List ByteArray} (h : PartOk l all) : l.length ≤ all.length := short_of l all (fun _ _ _ hi hj => asc_ne h.2 hi hj) (fun _ hs => part_mem h.1 hs)

/-- What a name is in a map. -/
def kl (s : ByteArray) : Lit := .string s.data.toList
theorem kl_inj {a b : ByteArray} (h : kl a = kl b) : a = b := by
  simp only [kl, Lit.string.injEq] at h
  cases a; cases b; simp at h; rw [h]
theorem kl_key (s : ByteArray) : WideAt.IsKeyLit (kl s) := trivial
/-- Up to batch k, and of it up to place m, a thing is at place i. -/
def HadBy (bs : List Ba) (k m : Nat) (s : ByteArray) (i : Nat) : Prop := ∃ x, bs[i]? = some x ∧ (i < k ∧ s ∈ x.has ∨ i = k ∧ s ∈ x.has.take m)
/-- The map tells of each thing that somebody has, up to there, who. -/
def HoldD (D : DataW Unit) (bs : List Ba) (k m : Nat) : Prop := IsMap D ∧ (∀ s, Maps.has D (kl s) = true → ∃ i, HadBy bs k m s i) ∧ (∀ s i, HadBy bs k m s i → Maps.has D (kl s) = true ∧ ∀ z, D.atKey (kl s) z = .lit (.int .i64 (i : Int)))
theorem HoldD.start (bs : List Ba) : HoldD (.map []) bs 0 0 := by
  refine ⟨isMap_empty, fun s h => by simp [Maps.has] at h, fun s i h => ?_⟩
  obtain ⟨x, _, h | h⟩ := h
  · omega
  · simp at h
theorem HadBy.up {bs : List Ba} {k m i : Nat} {s : ByteArray} (h : HadBy bs k m s i) : HadBy bs k (m + 1) s i := by
  obtain ⟨x, hx, h | ⟨h1, h2⟩⟩ := h
  · exact ⟨x, hx, .inl h⟩
  · refine ⟨x, hx, .inr ⟨h1, ?_⟩⟩
    rw [List.mem_take_iff_getElem] at h2 ⊢
    obtain ⟨j, hj, e⟩ := h2
    exact ⟨j, by omega, e⟩
theorem HadBy.new {bs : List Ba} {k m : Nat} (hk : k < bs.length) (hm : m < (bs[k]).has.length) : HadBy bs k (m + 1) ((bs[k]).has[m]) k :=
  ⟨bs[k], List.getElem?_eq_getElem hk, .inr ⟨rfl, by rw [List.mem_take_iff_getElem]; exact ⟨m, by omega, rfl⟩⟩⟩
theorem HadBy.split {bs : List Ba} {k m i : Nat} {s : ByteArray} (hk : k < bs.length) (hm : m < (bs[k]).has.length) (h : HadBy bs k (m + 1) s i) : HadBy bs k m s i ∨ (i = k ∧ s = (bs[k]).has[m]) := by
  obtain ⟨x, hx, h | ⟨rfl, h2⟩⟩ := h
  · exact .inl ⟨x, hx, .inl h⟩
  · rw [List.getElem?_eq_getElem hk] at hx
    obtain rfl := Option.some.inj hx
    rw [List.take_succ_eq_append_getElem hm] at h2
    rcases List.mem_append.1 h2 with h3 | h3
    · exact .inl ⟨_, List.getElem?_eq_getElem hk, .inr ⟨rfl, h3⟩⟩
    · exact .inr ⟨rfl, by simpa using h3⟩
theorem HoldD.step {D : DataW Unit} {bs : List Ba} {k m : Nat} (h : HoldD D bs k m) (hk : k < bs.length) (hm : m < (bs[k]).has.length) (hn : Maps.has D (kl ((bs[k]).has[m])) = false) :
    HoldD (D.put (kl ((bs[k]).has[m])) (.lit (.int .i64 (k : Int)))) bs k (m + 1) := by
  obtain ⟨h1, h2, h3⟩ := h
  refine ⟨h1.put _ _, fun s hs => ?_, fun s i hi => ?_⟩
  · by_cases e : kl s = kl ((bs[k]).has[m])
    · obtain rfl := kl_inj e
      exact ⟨k, HadBy.new hk hm⟩
    · rw [has_put_other e] at hs
      obtain ⟨i, hi⟩ := h2 s hs
      exact ⟨i, hi.up⟩
  · rcases hi.split hk hm with h4 | ⟨rfl, rfl⟩
    · have e : kl s ≠ kl ((bs[k]).has[m]) := fun e => by
        have := (h3 s i h4).1
        rw [e, hn] at this; cases this
      exact ⟨by rw [has_put_other e]; exact (h3 s i h4).1, fun z => by rw [atKey_put_other e]; exact (h3 s i h4).2 z⟩
    · exact ⟨has_put_same h1 (kl_key _) _, fun z => atKey_put_same h1 (kl_key _) _ z⟩
theorem HadBy.next {bs : List Ba} {k m i : Nat} {s : ByteArray} (hk : k < bs.length) (hm : ¬ m < (bs[k]).has.length) : HadBy bs k m s i ↔ HadBy bs (k + 1) 0 s i := by
  constructor
  · rintro ⟨x, hx, h | ⟨rfl, h2⟩⟩
    · exact ⟨x, hx, .inl ⟨by omega, h.2⟩⟩
    · exact ⟨x, hx, .inl ⟨by omega, List.mem_of_mem_take h2⟩⟩
  · rintro ⟨x, hx, h | ⟨_, h2⟩⟩
    · by_cases e : i = k
      · subst e
        rw [List.getElem?_eq_getElem hk] at hx
        obtain rfl := Option.some.inj hx
        exact ⟨_, List.getElem?_eq_getElem hk, .inr ⟨rfl, by rw [List.take_of_length_le (by omega)]; exact h.2⟩⟩
      · exact ⟨x, hx, .inl ⟨by omega, h.2⟩⟩
    · simp at h2
theorem HoldD.next {D : DataW Unit} {bs : List Ba} {k m : Nat} (h : HoldD D bs k m) (hk : k < bs.length) (hm : ¬ m < (bs[k]).has.length) : HoldD D bs (k + 1) 0 :=
  ⟨h.1, fun s hs => by obtain ⟨i, hi⟩ := h.2.1 s hs; exact ⟨i, (HadBy.next hk hm).1 hi⟩, fun s i hi => h.2.2 s i ((HadBy.next hk hm).2 hi)⟩
/-- Somebody has it already: two have one thing. -/
theorem HoldD.twice {D : DataW Unit} {bs : List Ba} {k m : Nat} (h : HoldD D bs k m) (hk : k < bs.length) (hm : m < (bs[k]).has.length) (hd : Asc (bs[k]).has) (hn : Maps.has D (kl ((bs[k]).has[m])) = true) : ¬ Apart bs := fun ha => by
  obtain ⟨i, x, hx, h4 | ⟨rfl, h4⟩⟩ := h.2.1 _ hn
  · have hi : i < bs.length := (List.getElem?_eq_some_iff.1 hx).1
    have := ha.at hk h4.1
    rw [shareB_no] at this
    rw [List.getElem?_eq_getElem hi] at hx
    obtain rfl := Option.some.inj hx
    exact this _ (List.getElem_mem hm) h4.2
  · rw [List.getElem?_eq_getElem hk] at hx
    obtain rfl := Option.some.inj hx
    rw [List.mem_take_iff_getElem] at h4
    obtain ⟨j, hj, e⟩ := h4
    have := asc_ne hd (i := j) (j := m) (List.getElem?_eq_getElem (by omega)) (by rw [e]; exact List.getElem?_eq_getElem hm)
    omega
theorem HoldD.apart {D : DataW Unit} {bs : List Ba} {k : Nat} (h : HoldD D bs k 0) (hk : ¬ k < bs.length) : Apart bs := fun i j x y hji hi hx hy => by
  have li := (List.getElem?_eq_some_iff.1 hx).1
  have lj := (List.getElem?_eq_some_iff.1 hy).1
  rw [shareB_no]
  intro s h1 h2
  have e1 := (h.2.2 s i ⟨x, hx, .inl ⟨by omega, h1⟩⟩).2 .nil
  have e2 := (h.2.2 s j ⟨y, hy, .inl ⟨by omega, h2⟩⟩).2 .nil
  rw [e1] at e2
  simp at e2
  omega
/-- Who has a thing, off the map. -/
theorem HoldD.who {D : DataW Unit} {bs : List Ba} {k : Nat} (h : HoldD D bs k 0) {s : ByteArray} (hs : Maps.has D (kl s) = true) : ∃ (i : Nat) (hi : i < bs.length), (∀ z, D.atKey (kl s) z = .lit (.int .i64 (i : Int))) ∧ whoB bs s = (bs[i]).nm := by
  obtain ⟨i, hi⟩ := h.2.1 s hs
  have hz := (h.2.2 s i hi).2
  obtain ⟨x, hx, h4 | ⟨_, h4⟩⟩ := hi
  · have li := (List.getElem?_eq_some_iff.1 hx).1
    refine ⟨i, li, hz, whoB_at li (fun j y hj hy => ?_) ?_⟩
    · rw [memS_no]
      intro h5
      have := (h.2.2 s j ⟨y, hy, .inl ⟨by omega, h5⟩⟩).2 .nil
      rw [hz] at this
      simp at this
      omega
    · rw [memS_iff]
      rw [List.getElem?_eq_getElem li] at hx
      obtain rfl := Option.some.inj hx
      exact h4.2
  · simp at h4
theorem HoldD.whoNone {D : DataW Unit} {bs : List Ba} {k : Nat} (h : HoldD D bs k 0) (hk : ¬ k < bs.length) {s : ByteArray} (hs : Maps.has D (kl s) = false) : whoB bs s = ⟨#[]⟩ :=
  whoB_none hk fun i x hi hx => by
    rw [memS_no]
    intro h5
    have := (h.2.2 s i ⟨x, hx, .inl ⟨hi, h5⟩⟩).1
    rw [hs] at this; cases this
end Go.Proofs.YtliebjbbomghiaaGreatDoor

/- Batches that go on, in plain: their slots, their things, which are ok. -/
namespace Go.Proofs.YtliebjbbomghiaaGreatDoor
open Go.Maps

/-- Which thing is a slot. -/
structure Sl where
  s : ByteArray
  t : ByteArray
/-- A batch that goes on. -/
structure Rb where
  nm : ByteArray
  ps : List Ph
  sl : List Sl
  ad : ByteArray
  si : Int
  st : Int
def slNames (l : List Sl) : List ByteArray := l.map (·.s)
def slThings (l : List Sl) : List ByteArray := l.map (·.t)
/-- The thing of the first slot of a name. -/
def firstT (l : List Sl) (s : ByteArray) : ByteArray := match l.find? fun x => x.s.toList == s.toList with
  | some x => x.t
  | none => ⟨#[]⟩
/-- .. of the last. -/
def lastT (l : List Sl) (s : ByteArray) : ByteArray := firstT l.reverse s
theorem firstT_cons (x : Sl) (l : List Sl) (s : ByteArray) : firstT (x :: l) s = if (x.s.toList == s.toList) = true then x.t else firstT l s := by
  unfold firstT
  rw [List.find?_cons]
  cases h : (x.s.toList == s.toList) <;> simp
theorem lastT_snoc (x : Sl) (l : List Sl) (s : ByteArray) : lastT (l ++ [x]) s = if (x.s.toList == s.toList) = true then x.t else lastT l s := by
  unfold lastT
  rw [List.reverse_append]
  exact firstT_cons x l.reverse s
theorem firstT_out : ∀ {l : List Sl} {s : ByteArray}, s.toList ∉ keys (slNames l) → firstT l s = ⟨#[]⟩
  | [], _, _ => rfl
  | x :: r, s, h => by
    simp only [slNames, keys, List.map_cons, List.mem_cons, not_or] at h
    have h1 : ¬ (x.s.toList == s.toList) = true := fun e => h.1 (by simpa using (beq_iff_eq.1 e).symm)
    rw [firstT_cons, if_neg h1]
    exact firstT_out (by simpa [slNames, keys] using h.2)
theorem firstT_mem : ∀ {l : List Sl}, (keys (slNames l)).Nodup → ∀ {x : Sl}, x ∈ l → firstT l x.s = x.t
  | [], _, _, h => by simp at h
  | y :: r, hn, x, h => by
    have hn' : y.s.toList ∉ keys (slNames r) ∧ (keys (slNames r)).Nodup := by simpa [slNames, keys] using hn
    rw [firstT_cons]
    rcases List.mem_cons.1 h with rfl | h
    · rw [if_pos (by simp)]
    · have h1 : ¬ (y.s.toList == x.s.toList) = true := fun e => hn'.1 (by
        rw [beq_iff_eq.1 e]
        simp only [slNames, keys, List.mem_map]
        exact ⟨x.s, ⟨x, h, rfl⟩, rfl⟩)
      rw [if_neg h1]
      exact firstT_mem hn'.2 h
theorem firstT_hit : ∀ {l : List Sl} {s : ByteArray} {k : Nat} (hk : k < l.length), (∀ (j : Nat) (x : Sl), j < k → l[j]? = some x → (x.s.toList == s.toList) = false) → ((l[k]).s.toList == s.toList) = true → firstT l s = (l[k]).t
  | x :: r, s, 0, _, _, h => by rw [firstT_cons, if_pos (by simpa using h)]; rfl
  | x :: r, s, k + 1, hk, hal, h => by
    have h0 := hal 0 x (by omega) rfl
    rw [firstT_cons, if_neg (by simp [h0])]
    have := firstT_hit (l := r) (s := s) (k := k) (by simpa using hk) (fun j y hj hy => hal (j + 1) y (by omega) (by simpa using hy)) (by simpa using h)
    simpa using this
theorem firstT_none {l : List Sl} {s : ByteArray} (h : ∀ (j : Nat) (x : Sl), l[j]? = some x → (x.s.toList == s.toList) = false) : firstT l s = ⟨#[]⟩ := by
  refine firstT_out fun hm => ?_
  simp only [slNames, keys, List.mem_map] at hm
  obtain ⟨_, ⟨x, hx, rfl⟩, e⟩ := hm
  obtain ⟨j, hj⟩ := List.mem_iff_getElem?.1 hx
  have := h j x hj
  rw [e] at this; simp at this
theorem nodup_rev {l : List Key} (h : l.Nodup) : l.reverse.Nodup := by
  unfold List.Nodup at *
  rw [List.pairwise_reverse]
  exact h.imp fun h e => h e.symm
theorem last_first {l : List Sl} (hn : (keys (slNames l)).Nodup) (s : ByteArray) : lastT l s = firstT l s := by
  have hr : keys (slNames l.reverse) = (keys (slNames l)).reverse := by simp [keys, slNames]
  by_cases h : s.toList ∈ keys (slNames l)
  · simp only [slNames, keys, List.mem_map] at h
    obtain ⟨_, ⟨x, hx, rfl⟩, e⟩ := h
    obtain rfl := key_inj e
    rw [firstT_mem hn hx]
    exact firstT_mem (l := l.reverse) (by rw [hr]; exact nodup_rev hn) (by simpa using hx)
  · rw [firstT_out h]
    exact firstT_out (by rw [hr]; simpa using h)

/-- The things of slots, each once, ascending. -/
def thE (l : List Sl) (ss : List ByteArray) : List ByteArray := bothL [] (ss.map (firstT l))
def thI (l : List Sl) (ss : List ByteArray) : List Key := uniq (keys (ss.map (lastT l)))
theorem thE_keys (l : List Sl) (ss : List ByteArray) : (keys (thE l ss)).Pairwise (· < ·) ∧ ∀ x, x ∈ keys (thE l ss) ↔ x ∈ keys (ss.map (firstT l)) := by
  obtain ⟨h1, h2⟩ := both_keys (ss.map (firstT l)) []
  exact ⟨h2 (by simp [keys]), fun x => by rw [thE, h1]; simp [keys]⟩
theorem things_same {l : List Sl} {ss tt : List ByteArray} (hn : (keys (slNames l)).Nodup) (hm : ∀ x, x ∈ keys ss ↔ x ∈ keys tt) : keys (thE l ss) = thI l tt := by
  obtain ⟨e1, e2⟩ := thE_keys l ss
  obtain ⟨u1, u2⟩ := uniq_keys (keys (tt.map (lastT l)))
  refine asc_unique _ _ e1 u1 fun x => ?_
  rw [e2]
  show _ ↔ x ∈ uniq _
  rw [u2]
  have hl : tt.map (lastT l) = tt.map (firstT l) := List.map_congr_left fun s _ => last_first hn s
  rw [hl]
  simp only [keys, List.mem_map] at hm ⊢
  constructor
  · rintro ⟨_, ⟨s, hs, rfl⟩, rfl⟩
    obtain ⟨s', hs', e⟩ := (hm s.toList).1 ⟨s, hs, rfl⟩
    obtain rfl := key_inj e
    exact ⟨_, ⟨_, hs', rfl⟩, rfl⟩
  · rintro ⟨_, ⟨s, hs, rfl⟩, rfl⟩
    obtain ⟨s', hs', e⟩ := (hm s.toList).2 ⟨s, hs, rfl⟩
    obtain rfl := key_inj e
    exact ⟨_, ⟨_, hs', rfl⟩, rfl⟩
theorem nodup_of_len : ∀ (m l : List Key), l.Nodup → (∀ x ∈ l, x ∈ m) → m.length ≤ l.length → m.Nodup
  | [], _, _, _, _ => List.nodup_nil
  | a :: m, l, hn, h, hl => by
    simp only [List.length_cons] at hl
    have hsub : ∀ x ∈ l.erase a, x ∈ m := fun x hx => by
      have hx' := (List.Nodup.mem_erase_iff hn).1 hx
      rcases List.mem_cons.1 (h x hx'.2) with e | e
      · exact absurd e hx'.1
      · exact e
    have he := List.length_erase (a := a) (l := l)
    refine List.nodup_cons.2 ⟨fun ha => ?_, nodup_of_len m (l.erase a) (hn.erase a) hsub (by split at he <;> omega)⟩
    have := len_sub m l hn fun x hx => by
      rcases List.mem_cons.1 (h x hx) with e | e
      · rw [e]; exact ha
      · exact e
    omega
theorem asc_nodup {l : List Key} (h : l.Pairwise (· < ·)) : l.Nodup := h.imp fun h e => by subst e; exact key_irrefl _ h
theorem uniq_len (l : List Key) : (uniq l).length = l.length ↔ l.Nodup := by
  obtain ⟨u1, u2⟩ := uniq_keys l
  constructor
  · intro h
    exact nodup_of_len l (uniq l) (asc_nodup u1) (fun x hx => (u2 x).1 hx) (by omega)
  · intro h
    have h1 := len_sub l (uniq l) (asc_nodup u1) (fun x hx => (u2 x).1 hx)
    have h2 := len_sub (uniq l) l h (fun x hx => (u2 x).2 hx)
    omega

/-- The first slots are those of a list, each with a thing that is a name. -/
def SlP (l : List Sl) (ns : List ByteArray) (i : Nat) : Prop := ∀ (j : Nat) (x : Sl), j < i → l[j]? = some x → (∃ n, ns[j]? = some n ∧ x.s.toList = n.toList) ∧ nameB x.t = true
/-- .. no two of them the same thing. -/
def SlD (l : List Sl) (i : Nat) : Prop := ∀ (j k : Nat) (x y : Sl), j < i → k < j → l[j]? = some x → l[k]? = some y → y.t.toList ≠ x.t.toList
def SlOk (l : List Sl) (ns : List ByteArray) : Prop := l.length = ns.length ∧ SlP l ns l.length ∧ SlD l l.length
theorem SlP.step {l : List Sl} {ns : List ByteArray} {i : Nat} (h : SlP l ns i) (hi : i < l.length) (hn : i < ns.length) (h1 : ((l[i]).s.toList == (ns[i]).toList) = true) (h2 : nameB (l[i]).t = true) : SlP l ns (i + 1) := fun j x hj hx => by
  rcases Nat.lt_or_ge j i with h' | h'
  · exact h j x h' hx
  · obtain rfl : j = i := by omega
    obtain ⟨_, rfl⟩ := List.getElem?_eq_some_iff.1 hx
    exact ⟨⟨ns[j], by simp [hn], by simpa using h1⟩, h2⟩
theorem SlP.no1 {l : List Sl} {ns : List ByteArray} {i : Nat} (hi : i < l.length) (hn : i < ns.length) (h1 : ((l[i]).s.toList == (ns[i]).toList) = false) : ¬ SlOk l ns := fun ⟨_, h, _⟩ => by
  obtain ⟨⟨n, hn', e⟩, _⟩ := h i l[i] hi (by simp)
  rw [List.getElem?_eq_getElem hn] at hn'
  obtain rfl := Option.some.inj hn'
  rw [e] at h1; simp at h1
theorem SlP.no2 {l : List Sl} {ns : List ByteArray} {i : Nat} (hi : i < l.length) (h1 : nameB (l[i]).t = false) : ¬ SlOk l ns := fun ⟨_, h, _⟩ => by
  rw [(h i l[i] hi (by simp)).2] at h1; cases h1
theorem SlD.step {l : List Sl} {i : Nat} (h : SlD l i) (hi : i < l.length) (hd : ∀ (k : Nat) (y : Sl), k < i → l[k]? = some y → y.t.toList ≠ (l[i]).t.toList) : SlD l (i + 1) := fun j k x y hj hk hx hy => by
  rcases Nat.lt_or_ge j i with h' | h'
  · exact h j k x y h' hk hx hy
  · obtain rfl : j = i := by omega
    obtain ⟨_, rfl⟩ := List.getElem?_eq_some_iff.1 hx
    exact hd k y hk hy
theorem SlD.no {l : List Sl} {ns : List ByteArray} {i k : Nat} (hi : i < l.length) (hk : k < i) (h1 : ((l[k]).t.toList == (l[i]).t.toList) = true) : ¬ SlOk l ns := fun ⟨_, _, h⟩ =>
  h i k l[i] (l[k]'(by omega)) hi hk (by simp) (List.getElem?_eq_getElem (by omega)) (by simpa using h1)
theorem SlP.names {l : List Sl} {ns : List ByteArray} (hl : l.length = ns.length) (h : SlP l ns l.length) : slNames l = ns := by
  refine List.ext_getElem (by simpa [slNames] using hl) fun j h1 h2 => ?_
  have hj : j < l.length := by simpa [slNames] using h1
  obtain ⟨⟨n, hn, e⟩, _⟩ := h j l[j] hj (by simp)
  rw [List.getElem?_eq_getElem h2] at hn
  obtain rfl := Option.some.inj hn
  simp only [slNames, List.getElem_map]
  exact key_inj e
theorem SlD.nodup {l : List Sl} : SlD l l.length ↔ (keys (slThings l)).Nodup := by
  unfold List.Nodup
  rw [List.pairwise_iff_getElem]
  constructor
  · intro h i j hi hj hij
    have hi' : i < l.length := by simpa [keys, slThings] using hi
    have hj' : j < l.length := by simpa [keys, slThings] using hj
    have := h j i l[j] l[i] hj' hij (by simp) (by simp)
    simpa [keys, slThings] using this
  · intro h j k x y hj hk hx hy
    obtain ⟨h1, rfl⟩ := List.getElem?_eq_some_iff.1 hx
    obtain ⟨h2, rfl⟩ := List.getElem?_eq_some_iff.1 hy
    have := h k j (by simpa [keys, slThings] using h2) (by simpa [keys, slThings] using h1) hk
    simpa [keys, slThings] using this
/-- Two slots of one thing leave fewer things than slots. -/
theorem SlP.count {l : List Sl} {ns : List ByteArray} (hl : l.length = ns.length) (h : SlP l ns l.length) (hn : (keys ns).Nodup) : (thI l ns).length = l.length ↔ SlOk l ns := by
  have hnm := SlP.names hl h
  have hm : ns.map (lastT l) = slThings l := by
    rw [← hnm, slNames, List.map_map]
    exact List.map_congr_left fun x hx => by
      show lastT l x.s = x.t
      rw [last_first (by rw [hnm]; exact hn), firstT_mem (by rw [hnm]; exact hn) hx]
  have hc := uniq_len (keys (slThings l))
  rw [thI, hm]
  have hk : (keys (slThings l)).length = l.length := by simp [keys, slThings]
  rw [hk] at hc
  rw [hc, ← SlD.nodup]
  exact ⟨fun hd => ⟨hl, h, hd⟩, fun hd => hd.2.2⟩

/-- The phase of a name. -/
def phOf (ps : List Ph) (nm : ByteArray) : Ph := match ps.find? fun p => p.nm.toList == nm.toList with
  | some p => p
  | none => ⟨⟨#[]⟩, 0, ⟨#[]⟩, ⟨#[]⟩, 0, 0, ⟨#[]⟩, ⟨#[]⟩⟩
theorem phOf_at {ps : List Ph} {nm : ByteArray} {k : Nat} (hk : k < ps.length) (h : atI ps nm = (k : Int)) : phOf ps nm = ps[k] := by
  unfold atI at h
  unfold phOf
  cases hf : ps.findIdx? fun p => p.nm.toList == nm.toList with
  | none =>
    rw [hf] at h
    have h' : (-1 : Int) = (k : Int) := h
    omega
  | some i =>
    rw [hf] at h
    have h' : (i : Int) = (k : Int) := h
    obtain rfl : i = k := by omega
    obtain ⟨h1, h2, h3⟩ := List.findIdx?_eq_some_iff_getElem.1 hf
    have : (ps.find? fun p => p.nm.toList == nm.toList) = some ps[i] := by
      rw [List.find?_eq_some_iff_getElem]
      exact ⟨h2, i, h1, rfl, fun j hj => by simpa using h3 j hj⟩
    rw [this]
def fstN : List Ph → ByteArray
  | [] => ⟨#[]⟩
  | p :: _ => p.nm
theorem fstN_zero {ps : List Ph} (h : 0 < ps.length) : fstN ps = (ps[0]).nm := by
  cases ps with
  | nil => simp at h
  | cons p r => rfl
/-- The slots are those of a recipe that is ok. -/
def SlotsOk (ps : List Ph) (l : List Sl) : Prop := SlOk l (slE ps (fstN ps))
/-- A batch that is ok. -/
def RbOk (x : Rb) : Prop := nameB x.nm = true ∧ recB x.ps = true ∧ SlotsOk x.ps x.sl ∧ 1 ≤ x.st ∧ hasB x.ps x.ad = true ∧ -1 ≤ x.si ∧ x.si < (phOf x.ps x.ad).wi
/-- What it may yet need from a phase on; what it needs now. -/
noncomputable def rbThings (x : Rb) (nm : ByteArray) : List ByteArray := if pB (RbOk x) = true then thE x.sl (slE x.ps nm) else []
noncomputable def rbOwn (x : Rb) : List ByteArray := if pB (RbOk x) = true then thE x.sl (ofL (phOf x.ps x.ad)) else []
theorem slE_nodup (ps : List Ph) (nm : ByteArray) : (keys (slE ps nm)).Nodup := by rw [slots_keys]; exact asc_nodup (slots_asc ps nm)
theorem SlotsOk.names {ps : List Ph} {l : List Sl} (h : SlotsOk ps l) : slNames l = slE ps (fstN ps) := SlP.names h.1 h.2.1
theorem SlotsOk.nodup {ps : List Ph} {l : List Sl} (h : SlotsOk ps l) : (keys (slNames l)).Nodup := by rw [h.names]; exact slE_nodup _ _
theorem SlotsOk.len {ps : List Ph} {l : List Sl} (h : SlotsOk ps l) : l.length ≤ 2 * ps.length := by
  have h1 := h.names
  have h2 := slE_len ps (fstN ps)
  have : l.length = (slNames l).length := by simp [slNames]
  rw [this, h1]; exact h2
theorem own_same (l : List Sl) (p : Ph) (hn : (keys (slNames l)).Nodup) {tt : List ByteArray} (ht : keys tt = ownK p) : keys (thE l (ofL p)) = thI l tt :=
  things_same hn fun x => by rw [(of_keys p).2, ht]
theorem thI_len (l : List Sl) (ss : List ByteArray) : (thI l ss).length ≤ ss.length := by
  obtain ⟨u1, u2⟩ := uniq_keys (keys (ss.map (lastT l)))
  have := len_sub (keys (ss.map (lastT l))) _ (asc_nodup u1) (fun x hx => (u2 x).1 hx)
  simpa [keys, thI] using this
theorem thE_len (l : List Sl) (ss : List ByteArray) : (thE l ss).length ≤ ss.length := by
  have := bothL_len [] (ss.map (firstT l))
  simpa [thE] using this
end Go.Proofs.YtliebjbbomghiaaGreatDoor

/- Books in plain: bits of things; who can have all it needs, orders that fit. -/
namespace Go.Proofs.YtliebjbbomghiaaGreatDoor

/-- The sum of the bits of those things that are picked. -/
def bitsN : List ByteArray → (ByteArray → Bool) → Nat
  | [], _ => 0
  | t :: r, P => (if P t = true then 1 else 0) + 2 * bitsN r P
theorem bitsN_snoc (P : ByteArray → Bool) (t : ByteArray) : ∀ l : List ByteArray, bitsN (l ++ [t]) P = bitsN l P + (if P t = true then 2 ^ l.length else 0)
  | [] => by simp [bitsN]
  | x :: r => by
    rw [List.cons_append, bitsN, bitsN, bitsN_snoc P t r, List.length_cons, Nat.pow_succ]
    split <;> split <;> omega
theorem bitsN_lt (P : ByteArray → Bool) : ∀ l : List ByteArray, bitsN l P < 2 ^ l.length
  | [] => by simp [bitsN]
  | x :: r => by
    have := bitsN_lt P r
    rw [bitsN, List.length_cons, Nat.pow_succ]
    split <;> omega
theorem bitsN_small {l : List ByteArray} (h : l.length ≤ 8) (P : ByteArray → Bool) : bitsN l P < 256 :=
  Nat.lt_of_lt_of_le (bitsN_lt P l) (Nat.pow_le_pow_right (by omega) h)
theorem bitsN_congr {P Q : ByteArray → Bool} : ∀ {l : List ByteArray}, (∀ t ∈ l, P t = Q t) → bitsN l P = bitsN l Q
  | [], _ => rfl
  | x :: r, h => by rw [bitsN, bitsN, h x (by simp), bitsN_congr fun t ht => h t (by simp [ht])]
theorem bitsN_add {P Q : ByteArray → Bool} : ∀ {l : List ByteArray}, (∀ t ∈ l, P t = true → Q t = false) → bitsN l P + bitsN l Q = bitsN l fun t => P t || Q t
  | [], _ => rfl
  | x :: r, h => by
    have h1 := bitsN_add (P := P) (Q := Q) (l := r) fun t ht => h t (by simp [ht])
    have h2 := h x (by simp)
    rw [bitsN, bitsN, bitsN, ← h1]
    cases hp : P x <;> cases hq : Q x <;> simp_all <;> omega
theorem bitsN_sub {P Q : ByteArray → Bool} {l : List ByteArray} (h : ∀ t ∈ l, Q t = true → P t = true) : bitsN l P = bitsN l Q + bitsN l fun t => P t && !Q t := by
  rw [bitsN_add (fun t _ hq => by simp [hq])]
  refine bitsN_congr fun t ht => ?_
  cases hq : Q t
  · simp
  · simp [h t ht hq]
theorem bitsN_test (P : ByteArray → Bool) : ∀ (l : List ByteArray) (i : Nat), (bitsN l P).testBit i = (l[i]?.map P).getD false
  | [], i => by simp [bitsN]
  | x :: r, 0 => by
    rw [bitsN, Nat.testBit_zero]
    have e : ((if P x = true then 1 else 0) + 2 * bitsN r P) % 2 = (if P x = true then 1 else 0) := by split <;> omega
    rw [e]
    cases h : P x <;> simp [h]
  | x :: r, i + 1 => by
    rw [bitsN, Nat.testBit_succ, List.getElem?_cons_succ, ← bitsN_test P r i]
    congr 1
    split <;> omega
/-- Nothing that is needed lacks. -/
theorem bitsN_not {P Q : ByteArray → Bool} {l : List ByteArray} (hl : l.length ≤ 8) : (bitsN l P &&& (18446744073709551615 - bitsN l Q) = 0) ↔ ∀ t ∈ l, P t = true → Q t = true := by
  have hQ := bitsN_small hl Q
  have e : 18446744073709551615 - bitsN l Q = 2 ^ 64 - (bitsN l Q + 1) := by omega
  constructor
  · intro h t ht hp
    obtain ⟨i, hi, rfl⟩ := List.getElem_of_mem ht
    have h1 := congrArg (Nat.testBit · i) h
    simp only [Nat.testBit_and, Nat.zero_testBit] at h1
    rw [e, Nat.testBit_two_pow_sub_succ (by omega), bitsN_test, bitsN_test, List.getElem?_eq_getElem hi] at h1
    simp [hp] at h1
    exact h1 (by omega)
  · intro h
    refine Nat.eq_of_testBit_eq fun i => ?_
    rw [Nat.testBit_and, Nat.zero_testBit, e, Nat.testBit_two_pow_sub_succ (by omega), bitsN_test, bitsN_test]
    rcases Nat.lt_or_ge i l.length with hi | hi
    · rw [List.getElem?_eq_getElem hi]
      have := h l[i] (List.getElem_mem hi)
      cases hp : P l[i] <;> simp_all
    · rw [List.getElem?_eq_none hi]; simp

/-- Of the batches that are not gone, up to place k, none but the one at place 'at' has anything of its needs. -/
def CanTo (bs : List Ba) (at' : Nat) (gone : List ByteArray) (k : Nat) : Prop := ∀ (i : Nat) (x y : Ba), i < k → i ≠ at' → bs[i]? = some x → bs[at']? = some y → memS gone x.nm = false → shareB x.has y.needs = false
def Can (bs : List Ba) (at' : Nat) (gone : List ByteArray) : Prop := CanTo bs at' gone bs.length
theorem CanTo.zero (bs : List Ba) (a : Nat) (gone : List ByteArray) : CanTo bs a gone 0 := fun i _ _ h => by omega
theorem can_end {bs : List Ba} {a : Nat} {gone : List ByteArray} {k : Nat} (h : CanTo bs a gone k) (hk : ¬ k < bs.length) : Can bs a gone := fun i x y hi hne hx hy hm => h i x y (by omega) hne hx hy hm
theorem CanTo.step {bs : List Ba} {a : Nat} {gone : List ByteArray} {k : Nat} (h : CanTo bs a gone k) (hk : k < bs.length) (ha : a < bs.length) (h1 : k = a ∨ memS gone (bs[k]).nm = true ∨ shareB (bs[k]).has (bs[a]).needs = false) : CanTo bs a gone (k + 1) := fun i x y hi hne hx hy hm => by
  by_cases e : i = k
  · subst e
    rw [List.getElem?_eq_getElem hk] at hx
    rw [List.getElem?_eq_getElem ha] at hy
    obtain rfl := Option.some.inj hx
    obtain rfl := Option.some.inj hy
    rcases h1 with h1 | h1 | h1
    · exact absurd h1 hne
    · rw [hm] at h1; cases h1
    · exact h1
  · exact h i x y (by omega) hne hx hy hm
theorem can_no {bs : List Ba} {a : Nat} {gone : List ByteArray} {k : Nat} (hk : k < bs.length) (ha : a < bs.length) (hne : k ≠ a) (hm : memS gone (bs[k]).nm = false) (hs : shareB (bs[k]).has (bs[a]).needs = true) : ¬ Can bs a gone := fun h => by
  have := h k _ _ hk hne (List.getElem?_eq_getElem hk) (List.getElem?_eq_getElem ha) hm
  rw [hs] at this; cases this
/-- A thing that nobody has who is not gone. -/
def freeB (bs : List Ba) (G : Nat → Bool) (k : Nat) (t : ByteArray) : Bool := (List.range k).all fun i => G i || !((bs[i]?.map fun x => memS x.has t).getD false)
theorem freeB_iff (bs : List Ba) (G : Nat → Bool) (k : Nat) (t : ByteArray) : freeB bs G k t = true ↔ ∀ (i : Nat) (x : Ba), i < k → bs[i]? = some x → G i = false → memS x.has t = false := by
  simp only [freeB, List.all_eq_true, List.mem_range]
  constructor
  · intro h i x hi hx hg
    have := h i hi
    rw [hx, hg] at this
    simpa using this
  · intro h i hi
    cases hg : G i
    · cases hx : bs[i]? with
      | none => simp
      | some x => simp [h i x hi hx hg]
    · rfl
theorem freeB_succ (bs : List Ba) (G : Nat → Bool) (k : Nat) (t : ByteArray) : freeB bs G (k + 1) t = (freeB bs G k t && (G k || !((bs[k]?.map fun x => memS x.has t).getD false))) := by
  simp [freeB, List.range_succ]
/-- Who can have all it needs, by bits. -/
theorem can_bits {b : Bk} (hok : BookOk b) {a : Nat} (ha : a < b.bs.length) {gone : List ByteArray} {G : Nat → Bool} (hG : ∀ (i : Nat) (hi : i < b.bs.length), G i = memS gone (b.bs[i]).nm) (hga : G a = false) :
    (∀ t ∈ b.things, memS (b.bs[a]).needs t = true → (freeB b.bs G b.bs.length t || memS (b.bs[a]).has t) = true) ↔ Can b.bs a gone := by
  have hb := hok.2.2.2.2.1.at ha ha
  constructor
  · intro h i x y hi hne hx hy hm
    rw [List.getElem?_eq_getElem hi] at hx
    rw [List.getElem?_eq_getElem ha] at hy
    obtain rfl := Option.some.inj hx
    obtain rfl := Option.some.inj hy
    rw [shareB_no]
    intro s h1 h2
    have h3 := h s (part_mem hb.1.1 h2) ((memS_iff _ _).2 h2)
    rcases Bool.or_eq_true_iff.1 h3 with h4 | h4
    · have := (freeB_iff _ _ _ _).1 h4 i _ hi (List.getElem?_eq_getElem hi) (by rw [hG i hi]; exact hm)
      rw [memS_no] at this
      exact this h1
    · have h5 := (memS_iff _ _).1 h4
      rcases Nat.lt_or_gt_of_ne hne with h6 | h6
      · have := hok.2.2.2.2.2.at ha h6
        rw [shareB_no] at this
        exact this s h5 h1
      · have := hok.2.2.2.2.2.at hi h6
        rw [shareB_no] at this
        exact this s h1 h5
  · intro h t ht hn
    cases hh : memS (b.bs[a]).has t
    · rw [Bool.or_false, freeB_iff]
      intro i x hi hx hg
      rw [List.getElem?_eq_getElem hi] at hx
      obtain rfl := Option.some.inj hx
      by_cases e : i = a
      · subst e; exact hh
      · have := h i _ _ hi e (List.getElem?_eq_getElem hi) (List.getElem?_eq_getElem ha) (by rw [← hG i hi]; exact hg)
        rw [shareB_no] at this
        rw [memS_no]
        exact fun h1 => this t h1 ((memS_iff _ _).1 hn)
    · simp
/-- An order fits up to place k. -/
def FitsTo (bs : List Ba) (order : List ByteArray) (k : Nat) : Prop := ∀ (i : Nat) (s : ByteArray), i < k → order[i]? = some s → 0 ≤ idxI (nms bs) s ∧ memS (order.take i) s = false ∧ Can bs (idxI (nms bs) s).toNat (order.take i)
def Fits (b : Bk) (order : List ByteArray) : Prop := BookOk b ∧ order.length = b.bs.length ∧ FitsTo b.bs order order.length
theorem FitsTo.zero (bs : List Ba) (order : List ByteArray) : FitsTo bs order 0 := fun i _ h => by omega
theorem FitsTo.step {bs : List Ba} {order : List ByteArray} {k : Nat} (h : FitsTo bs order k) (hk : k < order.length) (h1 : 0 ≤ idxI (nms bs) order[k] ∧ memS (order.take k) order[k] = false ∧ Can bs (idxI (nms bs) order[k]).toNat (order.take k)) : FitsTo bs order (k + 1) := fun i s hi hs => by
  by_cases e : i = k
  · subst e
    rw [List.getElem?_eq_getElem hk] at hs
    obtain rfl := Option.some.inj hs
    exact h1
  · exact h i s (by omega) hs
theorem fits_at {b : Bk} {order : List ByteArray} (h : Fits b order) {k : Nat} (hk : k < order.length) : 0 ≤ idxI (nms b.bs) order[k] ∧ memS (order.take k) order[k] = false ∧ Can b.bs (idxI (nms b.bs) order[k]).toNat (order.take k) := h.2.2 k _ hk (List.getElem?_eq_getElem hk)
theorem fits_end {b : Bk} {order : List ByteArray} {k : Nat} (hok : BookOk b) (hl : order.length = b.bs.length) (h : FitsTo b.bs order k) (hk : ¬ k < order.length) : Fits b order := ⟨hok, hl, fun i s hi hs => h i s (by omega) hs⟩
theorem idxI_at {l : List ByteArray} {s : ByteArray} (h : 0 ≤ idxI l s) : ∃ k : Nat, idxI l s = (k : Int) ∧ ∃ hk : k < l.length, l[k] = s := by
  rw [idxI] at h ⊢
  split at h
  · rename_i hm
    rw [if_pos hm]
    refine ⟨_, rfl, ?_⟩
    have hl : l.findIdx (fun x => x.toList == s.toList) < l.length := by
      rw [List.findIdx_lt_length]
      rw [memS, List.any_eq_true] at hm
      exact hm
    refine ⟨hl, ?_⟩
    have := List.findIdx_getElem (w := hl)
    exact toL_eq (by simpa using this)
  · omega
end Go.Proofs.YtliebjbbomghiaaGreatDoor

/- The program's table in plain: rows, and what is free. -/
namespace Go.Proofs.YtliebjbbomghiaaGreatDoor

/-- A batch, and whether it is gone. -/
abbrev Tr := Ba × Bool
def rowC (things : List ByteArray) (p : Tr) : List Value := [.string p.1.nm, .int .u64 (bitsN things (memS p.1.has) : Nat), .int .u64 (bitsN things (memS p.1.needs) : Nat), .bool p.2]
def rowsL (things : List ByteArray) : List Tr → List Value
  | [] => []
  | p :: r => rowC things p ++ rowsL things r
theorem rowsL_length (things : List ByteArray) : ∀ ts : List Tr, (rowsL things ts).length = ts.length * 4
  | [] => rfl
  | p :: r => by rw [rowsL, List.length_append, rowsL_length things r, List.length_cons]; simp [rowC]; omega
theorem rowsL_snoc (things : List ByteArray) (p : Tr) : ∀ ts : List Tr, rowsL things (ts ++ [p]) = rowsL things ts ++ rowC things p
  | [] => by simp [rowsL]
  | q :: r => by rw [List.cons_append, rowsL, rowsL, rowsL_snoc things p r, List.append_assoc]
theorem rowsL_get (things : List ByteArray) : ∀ (ts : List Tr) (i j : Nat) (p : Tr), ts[i]? = some p → j < 4 → (rowsL things ts)[i * 4 + j]? = (rowC things p)[j]?
  | [], i, j, p, h, _ => by simp at h
  | q :: r, 0, j, p, h, hj => by
    simp at h; subst h
    rw [rowsL, List.getElem?_append_left (by simp [rowC]; omega)]; simp
  | q :: r, i + 1, j, p, h, hj => by
    rw [rowsL, List.getElem?_append_right (by simp [rowC]; omega)]
    have e : (i + 1) * 4 + j - (rowC things q).length = i * 4 + j := by simp [rowC]; omega
    rw [e]
    exact rowsL_get things r i j p (by simpa using h) hj
theorem rowsL_set (things : List ByteArray) : ∀ (ts : List Tr) (i : Nat) (p : Tr), ts[i]? = some p → (rowsL things ts).set (i * 4 + 3) (.bool true) = rowsL things (ts.set i (p.1, true))
  | [], i, p, h => by simp at h
  | q :: r, 0, p, h => by
    simp at h; subst h
    simp [rowsL, rowC]
  | q :: r, i + 1, p, h => by
    rw [rowsL, List.set_append_right _ _ (by simp [rowC]; omega)]
    have e : (i + 1) * 4 + 3 - (rowC things q).length = i * 4 + 3 := by simp [rowC]; omega
    rw [e, rowsL_set things r i p (by simpa using h)]
    simp [rowsL]
/-- A thing that nobody of the rows has who is not gone. -/
def freeL (ts : List Tr) (t : ByteArray) : Bool := ts.all fun p => p.2 || !memS p.1.has t
theorem freeL_iff (ts : List Tr) (t : ByteArray) : freeL ts t = true ↔ ∀ (i : Nat) (p : Tr), ts[i]? = some p → p.2 = false → memS p.1.has t = false := by
  simp only [freeL, List.all_eq_true, Bool.or_eq_true, Bool.not_eq_true']
  constructor
  · intro h i p hp h2
    rcases h p (List.mem_of_getElem? hp) with h3 | h3
    · rw [h2] at h3; cases h3
    · exact h3
  · intro h p hp
    obtain ⟨i, hi, rfl⟩ := List.getElem_of_mem hp
    cases h2 : ts[i].2
    · exact .inr (h i _ (List.getElem?_eq_getElem hi) h2)
    · exact .inl rfl
theorem freeL_eq {bs : List Ba} {ts : List Tr} (h : ts.map (·.1) = bs) (t : ByteArray) : freeL ts t = freeB bs (fun i => (ts[i]?.map (·.2)).getD false) bs.length t := by
  rw [Bool.eq_iff_iff, freeL_iff, freeB_iff]
  subst h
  constructor
  · intro h i x hi hx hg
    rw [List.getElem?_map, Option.map_eq_some_iff] at hx
    obtain ⟨p, hp, rfl⟩ := hx
    exact h i p hp (by rw [hp] at hg; simpa using hg)
  · intro h i p hp h2
    exact h i p.1 (by simpa using (List.getElem?_eq_some_iff.1 hp).1) (by rw [List.getElem?_map, hp]; rfl) (by rw [hp]; simpa using h2)
theorem freeL_snoc (ts : List Tr) (p : Tr) (t : ByteArray) : freeL (ts ++ [p]) t = (freeL ts t && (p.2 || !memS p.1.has t)) := by simp [freeL]
theorem map_at {bs : List Ba} {ts : List Tr} (h : ts.map (·.1) = bs) {i : Nat} {p : Tr} (hp : ts[i]? = some p) : bs[i]? = some p.1 := by subst h; rw [List.getElem?_map, hp]; rfl
/-- One more row. -/
theorem free_more {bs : List Ba} (ha : Apart bs) {ts : List Tr} {k : Nat} (hk : k < bs.length) (h : ts.map (·.1) = bs.take k) (things : List ByteArray) :
    bitsN things (freeL ts) = bitsN things (memS (bs[k]).has) + bitsN things (freeL (ts ++ [(bs[k], false)])) := by
  rw [bitsN_sub (P := freeL ts) (Q := memS (bs[k]).has)]
  · congr 1
    refine bitsN_congr fun t _ => ?_
    rw [freeL_snoc]; simp
  · intro t _ hm
    rw [freeL_iff]
    intro i p hp _
    have h1 := map_at h hp
    rw [List.getElem?_take] at h1
    split at h1
    · rename_i hi
      rw [List.getElem?_eq_getElem (by omega)] at h1
      obtain h1 := Option.some.inj h1
      have := ha.at hk hi
      rw [shareB_no] at this
      rw [memS_no, ← h1]
      exact this t ((memS_iff _ _).1 hm)
    · cases h1
/-- One goes. -/
theorem free_leave {bs : List Ba} (ha : Apart bs) {ts : List Tr} {i : Nat} {p : Tr} (h : ts.map (·.1) = bs) (hp : ts[i]? = some p) (hg : p.2 = false) (things : List ByteArray) :
    bitsN things (freeL ts) + bitsN things (memS p.1.has) = bitsN things (freeL (ts.set i (p.1, true))) := by
  have hi := (List.getElem?_eq_some_iff.1 hp).1
  have hb := map_at h hp
  have hib : i < bs.length := by rw [← h]; simpa using hi
  rw [bitsN_add]
  · refine bitsN_congr fun t _ => ?_
    rw [Bool.eq_iff_iff, Bool.or_eq_true, freeL_iff, freeL_iff]
    constructor
    · rintro (h1 | h1) j q hq hg2
      · rw [List.getElem?_set] at hq
        split at hq
        · obtain rfl := Option.some.inj hq; cases hg2
        · exact h1 j q hq hg2
      · rw [List.getElem?_set] at hq
        split at hq
        · obtain rfl := Option.some.inj hq; cases hg2
        · rename_i hne
          have hq' := map_at h hq
          have hjb := (List.getElem?_eq_some_iff.1 hq').1
          rw [memS_no]
          intro h5
          have h6 := (memS_iff _ _).1 h1
          rw [List.getElem?_eq_getElem hjb] at hq'
          rw [List.getElem?_eq_getElem hib] at hb
          have hq2 := Option.some.inj hq'
          have hb2 := Option.some.inj hb
          rcases Nat.lt_or_gt_of_ne hne with h7 | h7
          · have := ha.at hjb h7
            rw [shareB_no, hq2, hb2] at this
            exact this t h5 h6
          · have := ha.at hib h7
            rw [shareB_no, hq2, hb2] at this
            exact this t h6 h5
    · intro h1
      cases hm : memS p.1.has t
      · refine .inl fun j q hq hg2 => ?_
        by_cases e : i = j
        · subst e; rw [hp] at hq; obtain rfl := Option.some.inj hq; exact hm
        · exact h1 j q (by rw [List.getElem?_set, if_neg e]; exact hq) hg2
      · exact .inr rfl
  · intro t _ h1
    exact (freeL_iff _ _).1 h1 i p hp hg
/-- Who can, off the table. -/
theorem can_tab {b : Bk} (hok : BookOk b) {ts : List Tr} (h : ts.map (·.1) = b.bs) {gone : List ByteArray} (hG : ∀ (i : Nat) (p : Tr), ts[i]? = some p → p.2 = memS gone p.1.nm) {a : Nat} {p : Tr} (hp : ts[a]? = some p) (hg : p.2 = false) :
    (bitsN b.things (memS p.1.needs) &&& (18446744073709551615 - (bitsN b.things (freeL ts) + bitsN b.things (memS p.1.has))) = 0) ↔ Can b.bs a gone := by
  have hb := map_at h hp
  have hab : a < b.bs.length := (List.getElem?_eq_some_iff.1 hb).1
  have hb2 : b.bs[a] = p.1 := by rw [List.getElem?_eq_getElem hab] at hb; exact Option.some.inj hb
  rw [bitsN_add (fun t _ h1 => (freeL_iff _ _).1 h1 a p hp hg), bitsN_not hok.1.1,
    ← can_bits hok hab (gone := gone) (G := fun i => (ts[i]?.map (·.2)).getD false) (fun i hi => ?_) (by simp [hp, hg]), hb2]
  · constructor
    · intro h1 t ht hn; rw [← freeL_eq h]; exact h1 t ht hn
    · intro h1 t ht hn; have := h1 t ht hn; rwa [← freeL_eq h] at this
  · have hi' : i < ts.length := by rw [← h] at hi; simpa using hi
    have e := map_at h (List.getElem?_eq_getElem hi')
    rw [List.getElem?_eq_getElem hi] at e
    rw [List.getElem?_eq_getElem hi']
    simp only [Option.map_some, Option.getD_some]
    rw [hG i _ (List.getElem?_eq_getElem hi'), Option.some.inj e]
end Go.Proofs.YtliebjbbomghiaaGreatDoor

/- Books in plain: the order in which always the first that can goes. -/
namespace Go.Proofs.YtliebjbbomghiaaGreatDoor

/-- A batch that is not gone and can have all it needs. -/
def Good (bs : List Ba) (gone : List ByteArray) (k : Nat) : Prop := ∃ x, bs[k]? = some x ∧ memS gone x.nm = false ∧ Can bs k gone
/-- The place of the first of them, -1 if there is none. -/
def NextIs (bs : List Ba) (gone : List ByteArray) (n : Int) : Prop := (n = -1 ∧ ∀ k, k < bs.length → ¬ Good bs gone k) ∨ ∃ k : Nat, n = (k : Int) ∧ k < bs.length ∧ Good bs gone k ∧ ∀ j, j < k → ¬ Good bs gone j
theorem NextIs.uniq {bs : List Ba} {gone : List ByteArray} {m n : Int} (h : NextIs bs gone m) (h' : NextIs bs gone n) : m = n := by
  rcases h with ⟨rfl, h1⟩ | ⟨k, rfl, hk, hg, hl⟩ <;> rcases h' with ⟨rfl, h2⟩ | ⟨j, rfl, hj, gg, gl⟩
  · rfl
  · exact absurd gg (h1 j hj)
  · exact absurd hg (h2 k hk)
  · rcases Nat.lt_trichotomy k j with h3 | h3 | h3
    · exact absurd hg (gl k h3)
    · rw [h3]
    · exact absurd gg (hl j h3)
/-- n batches have gone, one behind the other, always the first that can. -/
inductive Goes (bs : List Ba) : Nat → List ByteArray → Prop
  | none : Goes bs 0 []
  | more {n : Nat} {gone : List ByteArray} {k : Nat} {x : Ba} : Goes bs n gone → NextIs bs gone (k : Int) → bs[k]? = some x → Goes bs (n + 1) (gone ++ [x.nm])
theorem Goes.length {bs : List Ba} {n : Nat} {gone : List ByteArray} (h : Goes bs n gone) : gone.length = n := by
  induction h with
  | none => rfl
  | more _ _ _ ih => simp [ih]
theorem Goes.uniq {bs : List Ba} {n : Nat} {g g' : List ByteArray} (h : Goes bs n g) (h' : Goes bs n g') : g = g' := by
  induction h generalizing g' with
  | none => cases h'; rfl
  | more h1 h2 h3 ih =>
    cases h' with
    | more k1 k2 k3 =>
      obtain rfl := ih k1
      have e := h2.uniq k2
      obtain rfl : _ = _ := Int.ofNat.inj e
      rw [h3] at k3
      obtain rfl := Option.some.inj k3
      rfl
theorem Goes.part {bs : List Ba} {n : Nat} {gone : List ByteArray} (h : Goes bs n gone) : ∀ m, m ≤ n → Goes bs m (gone.take m) := by
  induction h with
  | none => intro m hm; obtain rfl : m = 0 := by omega
            exact .none
  | @more n gone k x h1 h2 h3 ih =>
    intro m hm
    have hl := h1.length
    by_cases e : m = n + 1
    · subst e
      rw [List.take_of_length_le (by simp [hl])]
      exact .more h1 h2 h3
    · rw [List.take_append_of_le_length (by omega)]
      exact ih m (by omega)
/-- The order, and whether there is one. -/
def OrderIs (b : Bk) (ss : List ByteArray) (ok : Bool) : Prop := (ok = true ∧ BookOk b ∧ Goes b.bs b.bs.length ss) ∨ (ok = false ∧ ss = [] ∧ (¬ BookOk b ∨ ∃ n gone, n < b.bs.length ∧ Goes b.bs n gone ∧ NextIs b.bs gone (-1)))
theorem OrderIs.uniq {b : Bk} {ss ss' : List ByteArray} {ok ok' : Bool} (h : OrderIs b ss ok) (h' : OrderIs b ss' ok') : ss = ss' ∧ ok = ok' := by
  have no : ∀ {t}, BookOk b → Goes b.bs b.bs.length t → ¬ (¬ BookOk b ∨ ∃ n gone, n < b.bs.length ∧ Goes b.bs n gone ∧ NextIs b.bs gone (-1)) := by
    rintro t hb hg (h1 | ⟨n, gone, hn, h2, h3⟩)
    · exact h1 hb
    · have h4 := hg.part (n + 1) (by omega)
      have hl := hg.length
      generalize hq : t.take (n + 1) = q at h4
      cases h4 with
      | more k1 k2 k3 =>
        obtain rfl := h2.uniq k1
        have := h3.uniq k2
        omega
  rcases h with ⟨rfl, h1, h2⟩ | ⟨rfl, rfl, h2⟩ <;> rcases h' with ⟨rfl, g1, g2⟩ | ⟨rfl, rfl, g2⟩
  · exact ⟨h2.uniq g2, rfl⟩
  · exact absurd g2 (no h1 h2)
  · exact absurd h2 (no g1 g2)
  · exact ⟨rfl, rfl⟩
theorem goodTo_step {bs : List Ba} {gone : List ByteArray} {k : Nat} (h : ∀ j, j < k → ¬ Good bs gone j) (h1 : ¬ Good bs gone k) : ∀ j, j < k + 1 → ¬ Good bs gone j := fun j hj => by
  by_cases e : j = k
  · subst e; exact h1
  · exact h j (by omega)
theorem good_iff {bs : List Ba} {gone : List ByteArray} {k : Nat} (hk : k < bs.length) : Good bs gone k ↔ memS gone (bs[k]).nm = false ∧ Can bs k gone := by
  constructor
  · rintro ⟨x, hx, h⟩
    rw [List.getElem?_eq_getElem hk] at hx
    obtain rfl := Option.some.inj hx
    exact h
  · exact fun h => ⟨_, List.getElem?_eq_getElem hk, h⟩
end Go.Proofs.YtliebjbbomghiaaGreatDoor

/- Houses, in plain: which are ok. -/
namespace Go.Proofs.YtliebjbbomghiaaGreatDoor

/-- How a batch ended. -/
structure Done where
  nm : ByteArray
  e : Int
  t : Int
/-- A house. -/
structure House where
  now : Int
  last : Int
  sh : Bk
  bs : List Rb
  ds : List Done
def TimesOk (h : House) : Prop := 0 ≤ h.now ∧ h.now ≤ 100000 ∧ 0 ≤ h.last ∧ h.last ≤ 1000000
/-- What is asked of the one at place i. -/
def DoneOk (ds : List Done) (now : Int) (i : Nat) (d : Done) : Prop := nameB d.nm = true ∧ 1 ≤ d.e ∧ d.e ≤ 3 ∧ 0 ≤ d.t ∧ d.t ≤ now ∧ ∀ (j : Nat) (p : Done), j + 1 = i → ds[j]? = some p → p.t ≤ d.t
def DonesTo (ds : List Done) (now : Int) (k : Nat) : Prop := ∀ (i : Nat) (d : Done), i < k → ds[i]? = some d → DoneOk ds now i d
def DonesOk (h : House) : Prop := h.ds.length ≤ 20 ∧ DonesTo h.ds h.now h.ds.length
def SafeP (b : Bk) : Prop := ∃ ss, OrderIs b ss true
def BatOk (bs : List Rb) (last : Int) (i : Nat) (b : Rb) : Prop := RbOk b ∧ b.st ≤ last ∧ ∀ (j : Nat) (p : Rb), j + 1 = i → bs[j]? = some p → p.st < b.st
def BatsTo (bs : List Rb) (last : Int) (k : Nat) : Prop := ∀ (i : Nat) (b : Rb), i < k → bs[i]? = some b → BatOk bs last i b
def BatsOk (h : House) : Prop := BatsTo h.bs h.last h.bs.length
def rnms (bs : List Rb) : List ByteArray := bs.map (·.nm)
def NamesOk (h : House) : Prop := h.bs.length = h.sh.bs.length ∧ (rnms h.bs).Nodup ∧ ∀ s ∈ rnms h.bs, s ∈ nms h.sh.bs
/-- A batch as the book has it. -/
def shOf (b : Bk) (nm : ByteArray) : Ba := (b.bs.find? fun x => x.nm.toList == nm.toList).getD ⟨⟨#[]⟩, [], []⟩
def NeedTo (h : House) (k : Nat) : Prop := ∀ (i : Nat) (b : Rb), i < k → h.bs[i]? = some b → (shOf h.sh b.nm).needs = rbThings b b.ad
def HaveTo (h : House) (k : Nat) : Prop := ∀ (i : Nat) (b : Rb), i < k → h.bs[i]? = some b → 0 ≤ b.si → Part (rbOwn b) (shOf h.sh b.nm).has
def HouseOk (h : House) : Prop := TimesOk h ∧ DonesOk h ∧ SafeP h.sh ∧ NamesOk h ∧ BatsOk h ∧ NeedTo h h.bs.length ∧ HaveTo h h.bs.length

theorem safe_pB {b : Bk} {ss : List ByteArray} {ok : Bool} (h : OrderIs b ss ok) : ok = pB (SafeP b) := by
  cases ok with
  | true => exact (pB_yes ⟨ss, h⟩).symm
  | false => exact (pB_no fun ⟨ss', h'⟩ => by have := (h.uniq h').2; cases this).symm
theorem SafeP.book {b : Bk} (h : SafeP b) : BookOk b := by
  obtain ⟨ss, ⟨_, hb, _⟩ | ⟨h0, _⟩⟩ := h
  · exact hb
  · cases h0
theorem rnms_length (bs : List Rb) : (rnms bs).length = bs.length := by simp [rnms]
theorem to_step {α : Type} {P : Nat → α → Prop} {l : List α} {k : Nat} (h : ∀ (i : Nat) (a : α), i < k → l[i]? = some a → P i a) (hk : k < l.length) (hl : P k l[k]) : ∀ (i : Nat) (a : α), i < k + 1 → l[i]? = some a → P i a := fun i a hi ha => by
  by_cases e : i = k
  · subst e
    rw [List.getElem?_eq_getElem hk] at ha
    obtain rfl := Option.some.inj ha
    exact hl
  · exact h i a (by omega) ha
/-- The place of a name among ascending ones. -/
theorem shOf_at {b : Bk} {nm : ByteArray} {k : Nat} (ha : Asc (nms b.bs)) (hk : k < b.bs.length) (e : (b.bs[k]).nm = nm) : shOf b nm = b.bs[k] := by
  have : (b.bs.find? fun x => x.nm.toList == nm.toList) = some b.bs[k] := by
    rw [List.find?_eq_some_iff_getElem]
    refine ⟨by rw [e]; simp, k, hk, rfl, fun j hj => ?_⟩
    have hj' : j < b.bs.length := by omega
    cases hq : ((b.bs[j]).nm.toList == nm.toList)
    · simp
    · have e2 : (b.bs[j]).nm = nm := toL_eq (by simpa using hq)
      have h1 : (nms b.bs)[j]? = some nm := by rw [List.getElem?_eq_getElem (by rw [nms_length]; exact hj'), nms_get _ _ hj', e2]
      have h2 : (nms b.bs)[k]? = some nm := by rw [List.getElem?_eq_getElem (by rw [nms_length]; exact hk), nms_get _ _ hk, e]
      have := asc_ne ha h1 h2
      omega
  rw [shOf, this]; rfl
theorem mem_at {b : Bk} {nm : ByteArray} (h : nm ∈ nms b.bs) : ∃ k, ∃ hk : k < b.bs.length, (b.bs[k]).nm = nm := by
  obtain ⟨x, hx, rfl⟩ := List.mem_map.1 h
  obtain ⟨i, hi, rfl⟩ := List.getElem_of_mem hx
  exact ⟨i, hi, rfl⟩
theorem nodup_keys {l : List ByteArray} : (keys l).Nodup ↔ l.Nodup := by
  unfold List.Nodup keys
  rw [List.pairwise_map]
  constructor
  · exact fun h => h.imp fun h e => h (by rw [e])
  · exact fun h => h.imp fun h e => h (key_inj e)
theorem asc_keys {l : List ByteArray} (h : Asc l) : (keys l).Pairwise (· < ·) := by
  rw [List.pairwise_iff_getElem]
  intro i j hi hj hij
  have hi' : i < l.length := by simpa [keys] using hi
  have hj' : j < l.length := by simpa [keys] using hj
  have := asc_lt h (j - i - 1) i _ _ (List.getElem?_eq_getElem hi') (by rw [show i + 1 + (j - i - 1) = j by omega]; exact List.getElem?_eq_getElem hj')
  unfold ltS at this
  rw [less_eq] at this
  simpa [keys] using this
theorem keys_asc {l : List ByteArray} (h : (keys l).Pairwise (· < ·)) : Asc l := fun i a b _ ha hb => by
  obtain ⟨h1, rfl⟩ := List.getElem?_eq_some_iff.1 ha
  obtain ⟨h2, rfl⟩ := List.getElem?_eq_some_iff.1 hb
  have := List.pairwise_iff_getElem.1 h i (i + 1) (by simpa [keys] using h1) (by simpa [keys] using h2) (by omega)
  unfold ltS
  rw [less_eq]
  simpa [keys] using this
theorem keys_inj {a b : List ByteArray} (h : keys a = keys b) : a = b := by
  refine List.ext_getElem (by simpa [keys] using congrArg List.length h) fun i h1 h2 => ?_
  have : (keys a)[i]? = (keys b)[i]? := by rw [h]
  simp only [keys, List.getElem?_map, List.getElem?_eq_getElem h1, List.getElem?_eq_getElem h2, Option.map_some, Option.some.injEq] at this
  exact key_inj this
theorem mem_keys {l : List ByteArray} {s : ByteArray} : s.toList ∈ keys l ↔ s ∈ l := by
  simp only [keys, List.mem_map]
  exact ⟨fun ⟨x, hx, e⟩ => by rwa [← key_inj e], fun h => ⟨s, h, rfl⟩⟩
theorem thE_asc (l : List Sl) (ss : List ByteArray) : Asc (thE l ss) := keys_asc (thE_keys l ss).1
theorem rbThings_asc (x : Rb) (nm : ByteArray) : Asc (rbThings x nm) := by
  unfold rbThings; split
  · exact thE_asc _ _
  · exact fun i a b hi ha => by simp at ha
theorem rbOwn_asc (x : Rb) : Asc (rbOwn x) := by
  unfold rbOwn; split
  · exact thE_asc _ _
  · exact fun i a b hi ha => by simp at ha
def sorted (l : List Key) : List Key := l.mergeSort fun x y => decide (x ≤ y)
/-- The names in order are the book's just if no two are the same and all are there. -/
theorem names_sorted {h : House} (ha : Asc (nms h.sh.bs)) (hl : h.bs.length = h.sh.bs.length) : sorted (keys (rnms h.bs)) = keys (nms h.sh.bs) ↔ NamesOk h := by
  have hm : ∀ x, x ∈ sorted (keys (rnms h.bs)) ↔ x ∈ keys (rnms h.bs) := fun x => List.mem_mergeSort
  have hp : (sorted (keys (rnms h.bs))).Perm (keys (rnms h.bs)) := List.mergeSort_perm _ _
  have hs := asc_keys ha
  constructor
  · intro e
    rw [e] at hp hm
    refine ⟨hl, nodup_keys.1 (hp.nodup_iff.1 (asc_nodup hs)), fun s hs' => mem_keys.1 ((hm _).2 (mem_keys.2 hs'))⟩
  · rintro ⟨-, hn, hmem⟩
    have hn' := nodup_keys.2 hn
    have hsub : ∀ x ∈ keys (rnms h.bs), x ∈ keys (nms h.sh.bs) := fun x hx => by
      simp only [keys, List.mem_map] at hx
      obtain ⟨s, hs', rfl⟩ := hx
      exact mem_keys.2 (hmem s hs')
    have hlen : (keys (rnms h.bs)).length = (keys (nms h.sh.bs)).length := by simp [keys, rnms, nms, hl]
    have hsup : ∀ x ∈ keys (nms h.sh.bs), x ∈ keys (rnms h.bs) := fun x hx => by
      by_cases hxx : x ∈ keys (rnms h.bs)
      · exact hxx
      · have := len_sub ((keys (nms h.sh.bs)).erase x) (keys (rnms h.bs)) hn' fun y hy => by
          rw [(asc_nodup hs).mem_erase_iff]
          exact ⟨fun e => hxx (by rw [← e]; exact hy), hsub y hy⟩
        rw [List.length_erase_of_mem hx] at this
        have := List.length_pos_of_mem hx
        omega
    have hsn : (sorted (keys (rnms h.bs))).Nodup := hp.nodup_iff.2 hn'
    have hle : (sorted (keys (rnms h.bs))).Pairwise (· ≤ ·) := by
      have := List.pairwise_mergeSort (le := fun (x y : Key) => decide (x ≤ y)) (fun a b c h k => by
        simp only [decide_eq_true_eq] at *; exact List.le_trans h k) (fun a b => by
        simp only [Bool.or_eq_true, decide_eq_true_eq]; exact List.le_total a b) (keys (rnms h.bs))
      simpa [sorted] using this
    have hlt : (sorted (keys (rnms h.bs))).Pairwise (· < ·) := by
      refine (hle.and hsn).imp fun ⟨h1, h2⟩ => ?_
      rcases key_le.1 h1 with k | k
      · exact k
      · exact absurd k h2
    exact asc_unique _ _ hlt hs fun x => by rw [hm]; exact ⟨hsub x, hsup x⟩
/-- What is left of a batch that is ok. -/
def leftOf (bd : List Ph → ByteArray → Int) (b : Rb) : Int := bd b.ps b.ad - (if b.si = -1 then 0 else b.si)
end Go.Proofs.YtliebjbbomghiaaGreatDoor
