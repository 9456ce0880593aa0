/- Names in order: plain facts. -/
import Derived.Test.YtcofjoacehacjaaGreatDoorJ32
import Derived.Lib.SlicesCompact
import Derived.Test.YtcofjoacehacjaaGreatDoorPt
import Derived.Test.YtcofjoacehacjaaGreatDoorJ23
namespace Go.Proofs.YtcofjoacehacjaaGreatDoor

theorem less_eq : ∀ (x y : List UInt8), Op.bytesLess x y = decide (x < y)
  | [], [] => by simp [Op.bytesLess]
  | _ :: _, [] => by simp [Op.bytesLess]
  | [], _ :: _ => by simp [Op.bytesLess]
  | a :: x, b :: y => by
    rw [Op.bytesLess, less_eq x y]
    simp only [List.cons_lt_cons_iff]
    by_cases h1 : a < b <;> by_cases h2 : a = b <;> by_cases h3 : x < y <;> simp [h1, h2, h3]
abbrev Key := List UInt8
theorem key_irrefl (x : Key) : ¬ x < x := List.lt_irrefl x
theorem key_trans {x y z : Key} (h : x < y) (k : y < z) : x < z := List.lt_trans h k
theorem key_tri (x y : Key) : x < y ∨ x = y ∨ y < x := by
  rcases Decidable.em (x < y) with h | h
  · exact .inl h
  · rcases Decidable.em (y < x) with k | k
    · exact .inr (.inr k)
    · exact .inr (.inl (List.le_antisymm (List.not_lt.1 k) (List.not_lt.1 h)))
theorem key_le {x y : Key} : x ≤ y ↔ x < y ∨ x = y := by
  constructor
  · intro h
    rcases key_tri x y with k | k | k
    · exact .inl k
    · exact .inr k
    · exact absurd k (List.not_lt.2 h)
  · rintro (h | rfl)
    · exact List.not_lt.1 fun k => key_irrefl _ (key_trans h k)
    · exact List.le_refl _
/-- Two ascending lists of the same names are one. -/
theorem asc_unique : ∀ (a b : List Key), a.Pairwise (· < ·) → b.Pairwise (· < ·) → (∀ x, x ∈ a ↔ x ∈ b) → a = b
  | [], [], _, _, _ => rfl
  | [], y :: s, _, _, h => by have := (h y).2 (by simp); simp at this
  | x :: r, [], _, _, h => by have := (h x).1 (by simp); simp at this
  | x :: r, y :: s, ha, hb, h => by
    obtain ⟨ha1, ha2⟩ := List.pairwise_cons.1 ha
    obtain ⟨hb1, hb2⟩ := List.pairwise_cons.1 hb
    have e : x = y := by
      rcases List.mem_cons.1 ((h x).1 (by simp)) with e | e
      · exact e
      · rcases List.mem_cons.1 ((h y).2 (by simp)) with e' | e'
        · exact e'.symm
        · exact absurd (key_trans (hb1 x e) (ha1 y e')) (key_irrefl _)
    subst e
    rw [asc_unique r s ha2 hb2 fun z => ?_]
    constructor
    · intro hz
      rcases List.mem_cons.1 ((h z).1 (by simp [hz])) with e | e
      · subst e; exact absurd (ha1 z hz) (key_irrefl _)
      · exact e
    · intro hz
      rcases List.mem_cons.1 ((h z).2 (by simp [hz])) with e | e
      · subst e; exact absurd (hb1 z hz) (key_irrefl _)
      · exact e
/-- The names' bytes. -/
def keys (ss : List ByteArray) : List Key := ss.map (·.toList)
theorem key_inj {a b : ByteArray} (h : a.toList = b.toList) : a = b := by
  rw [Go.ByteArray.toList_eq, Go.ByteArray.toList_eq] at h
  cases a; cases b; simp at h; rw [h]
theorem ins_keys (ss : List ByteArray) (x : ByteArray) : (∀ z, z ∈ keys (insL ss x) ↔ z ∈ keys ss ∨ z = x.toList) ∧ ((keys ss).Pairwise (· < ·) → (keys (insL ss x)).Pairwise (· < ·)) := by
  induction ss with
  | nil => simp [insL, keys]
  | cons y r ih =>
    obtain ⟨im, ip⟩ := ih
    rw [insL]
    by_cases h1 : lessB y x = true
    · rw [if_pos h1]
      have h1' : y.toList < x.toList := by rw [lessB, less_eq] at h1; simpa using h1
      refine ⟨fun z => ?_, fun hp => ?_⟩
      · have := im z
        simp only [keys, List.map_cons, List.mem_cons] at this ⊢
        rw [this]; constructor
        · rintro (h | h | h)
          · exact .inl (.inl h)
          · exact .inl (.inr h)
          · exact .inr h
        · rintro ((h | h) | h)
          · exact .inl h
          · exact .inr (.inl h)
          · exact .inr (.inr h)
      · simp only [keys, List.map_cons] at hp ⊢
        obtain ⟨p1, p2⟩ := List.pairwise_cons.1 hp
        refine List.pairwise_cons.2 ⟨fun z hz => ?_, ip p2⟩
        rcases (im z).1 hz with h | h
        · exact p1 z h
        · subst h; exact h1'
    · rw [if_neg h1]
      have h1' : ¬ y.toList < x.toList := by rw [lessB, less_eq] at h1; simpa using h1
      by_cases h2 : sameB y x = true
      · rw [if_pos h2]
        have e : y.toList = x.toList := by simpa [sameB] using h2
        refine ⟨fun z => ?_, fun hp => hp⟩
        simp only [keys, List.map_cons, List.mem_cons]
        rw [e]; constructor
        · exact .inl
        · rintro (h | h)
          · exact h
          · exact .inl h
      · rw [if_neg h2]
        have e : y.toList ≠ x.toList := by simpa [sameB] using h2
        have lt : x.toList < y.toList := by
          rcases key_tri y.toList x.toList with k | k | k
          · exact absurd k h1'
          · exact absurd k e
          · exact k
        refine ⟨fun z => ?_, fun hp => ?_⟩
        · simp only [keys, List.map_cons, List.mem_cons]
          constructor
          · rintro (h | h | h)
            · exact .inr h
            · exact .inl (.inl h)
            · exact .inl (.inr h)
          · rintro ((h | h) | h)
            · exact .inr (.inl h)
            · exact .inr (.inr h)
            · exact .inl h
        · simp only [keys, List.map_cons] at hp ⊢
          refine List.pairwise_cons.2 ⟨fun z hz => ?_, hp⟩
          rcases List.mem_cons.1 hz with h | h
          · subst h; exact lt
          · exact key_trans lt ((List.pairwise_cons.1 hp).1 z h)
theorem both_keys (b : List ByteArray) : ∀ a : List ByteArray, (∀ z, z ∈ keys (bothL a b) ↔ z ∈ keys a ∨ z ∈ keys b) ∧ ((keys a).Pairwise (· < ·) → (keys (bothL a b)).Pairwise (· < ·)) := by
  induction b with
  | nil => intro a; exact ⟨fun z => by simp [bothL, keys], fun h => h⟩
  | cons x r ih =>
    intro a
    obtain ⟨im, ip⟩ := ih (insL a x)
    obtain ⟨jm, jp⟩ := ins_keys a x
    refine ⟨fun z => ?_, fun h => ip (jp h)⟩
    have h1 := im z
    have h2 := jm z
    show z ∈ keys (bothL (insL a x) r) ↔ _
    rw [h1, h2]
    simp only [keys, List.map_cons, List.mem_cons]
    constructor
    · rintro ((h | h) | h)
      · exact .inl h
      · exact .inr (.inl h)
      · exact .inr (.inr h)
    · rintro (h | h | h)
      · exact .inl (.inl h)
      · exact .inl (.inr h)
      · exact .inr h
/-- What is left of a list in order where neighbours are one: ascending, the same names. -/
theorem compact_keys (zs : List Key) (hs : zs.Pairwise (· ≤ ·)) : ∀ m, m ≤ zs.length → (Lib.compactUpTo zs.toArray m).Pairwise (· < ·) ∧ (∀ x, x ∈ Lib.compactUpTo zs.toArray m ↔ ∃ j, j < m ∧ zs[j]? = some x) ∧ (∀ x ∈ Lib.compactUpTo zs.toArray m, ∀ y, zs[m - 1]? = some y → x ≤ y) := by
  intro m
  induction m with
  | zero => intro _; simp [Lib.compactUpTo]
  | succ m ih =>
    intro hm
    obtain ⟨h1, h2, h3⟩ := ih (by omega)
    have hml : m < zs.length := by omega
    have hd : (zs.toArray)[m]! = zs[m] := by simp [hml]
    rw [Lib.compactUpTo_succ, hd]
    by_cases hk : Lib.keeps zs.toArray m = true
    · rw [if_pos hk]
      have hlt : ∀ x ∈ Lib.compactUpTo zs.toArray m, x < zs[m] := by
        intro x hx
        rcases Nat.eq_zero_or_pos m with h0 | h0
        · subst h0; simp [Lib.compactUpTo] at hx
        · have hm1 : m - 1 < zs.length := by omega
          have hle := h3 x hx zs[m - 1] (by simp [hm1])
          have hne : zs[m] ≠ zs[m - 1] := by
            simp only [Lib.keeps, decide_eq_true_eq] at hk
            rcases hk with hk | hk
            · omega
            · simpa [hml, hm1] using hk
          have hle2 : zs[m - 1] ≤ zs[m] := List.pairwise_iff_getElem.1 hs (m - 1) m hm1 hml (by omega)
          have hlt2 : zs[m - 1] < zs[m] := by
            rcases key_le.1 hle2 with k | k
            · exact k
            · exact absurd k.symm hne
          rcases key_le.1 hle with k | k
          · exact key_trans k hlt2
          · rw [k]; exact hlt2
      refine ⟨List.pairwise_append.2 ⟨h1, by simp, fun x hx y hy => by simp at hy; subst hy; exact hlt x hx⟩, fun x => ?_, fun x hx y hy => ?_⟩
      · rw [List.mem_append, h2, List.mem_singleton]
        constructor
        · rintro (⟨j, hj, e⟩ | rfl)
          · exact ⟨j, by omega, e⟩
          · exact ⟨m, by omega, by simp [hml]⟩
        · rintro ⟨j, hj, e⟩
          rcases Nat.lt_or_ge j m with h | h
          · exact .inl ⟨j, h, e⟩
          · obtain rfl : j = m := by omega
            right; rw [List.getElem?_eq_getElem hml] at e; exact (Option.some.inj e).symm
      · simp only [Nat.add_sub_cancel] at hy
        rw [List.getElem?_eq_getElem hml] at hy
        obtain rfl := Option.some.inj hy
        rcases List.mem_append.1 hx with h | h
        · exact key_le.2 (.inl (hlt x h))
        · simp at h; subst h; exact List.le_refl _
    · rw [if_neg hk, List.append_nil]
      have h0 : 0 < m := by
        rcases Nat.eq_zero_or_pos m with h | h
        · subst h; simp [Lib.keeps] at hk
        · exact h
      have hm1 : m - 1 < zs.length := by omega
      have he : zs[m] = zs[m - 1] := by
        simp only [Lib.keeps, decide_eq_true_eq, not_or, Decidable.not_not] at hk
        have := hk.2
        simpa [hml, hm1] using this
      refine ⟨h1, fun x => ?_, fun x hx y hy => ?_⟩
      · rw [h2]
        constructor
        · rintro ⟨j, hj, e⟩; exact ⟨j, by omega, e⟩
        · rintro ⟨j, hj, e⟩
          rcases Nat.lt_or_ge j m with h | h
          · exact ⟨j, h, e⟩
          · obtain rfl : j = m := by omega
            exact ⟨j - 1, by omega, by rw [List.getElem?_eq_getElem hml] at e; rw [List.getElem?_eq_getElem hm1, ← he]; exact e⟩
      · simp only [Nat.add_sub_cancel] at hy
        rw [List.getElem?_eq_getElem hml, he] at hy
        exact h3 x hx y (by rw [List.getElem?_eq_getElem hm1]; exact hy)
/-- What the program makes of three lists. -/
def uniq (l : List Key) : List Key := Lib.compact (l.mergeSort fun x y => decide (x ≤ y))
theorem uniq_keys (l : List Key) : (uniq l).Pairwise (· < ·) ∧ ∀ x, x ∈ uniq l ↔ x ∈ l := by
  have hs : (l.mergeSort fun x y => decide (x ≤ y)).Pairwise (· ≤ ·) := by
    have := List.pairwise_mergeSort (le := fun (x y : Key) => decide (x ≤ y)) (fun a b c h k => by
      simp only [decide_eq_true_eq] at *; exact List.le_trans h k) (fun a b => by
      simp only [Bool.or_eq_true, decide_eq_true_eq]; exact List.le_total a b) l
    simpa using this
  obtain ⟨h1, h2, _⟩ := compact_keys _ hs _ (Nat.le_refl _)
  refine ⟨h1, fun x => ?_⟩
  have := h2 x
  unfold uniq Lib.compact
  rw [this]
  have hm : x ∈ (l.mergeSort fun x y => decide (x ≤ y)) ↔ x ∈ l := List.mem_mergeSort
  rw [← hm, List.mem_iff_getElem?]
  constructor
  · rintro ⟨j, _, e⟩; exact ⟨j, e⟩
  · rintro ⟨j, e⟩; exact ⟨j, (List.getElem?_eq_some_iff.1 e).1, e⟩
end Go.Proofs.YtcofjoacehacjaaGreatDoor

/- The slots of a recipe from a name on: both sides' lists are one. -/
namespace Go.Proofs.YtcofjoacehacjaaGreatDoor

def ownK (p : Ph) : List Key := if p.k = 2 then [p.a.toList, p.b.toList] else [p.a.toList]
/-- The specification's list. -/
def slE (ps : List Ph) (nm : ByteArray) : List ByteArray := evL (fun _ => []) (fun p a b => bothL (bothL (ofL p) a) b) [] ps nm
def fpK (p : Ph) (a b : List Key) : List Key := uniq (ownK p ++ a ++ b)
def feK (_ : Int) : List Key := []
/-- The program's. -/
def slI (ps : List Ph) (nm : ByteArray) : List Key := evL feK fpK [] ps nm
theorem of_keys (p : Ph) : (keys (ofL p)).Pairwise (· < ·) ∧ ∀ x, x ∈ keys (ofL p) ↔ x ∈ ownK p := by
  unfold ofL ownK
  by_cases h : p.k = 2
  · rw [if_pos h, if_pos h]
    obtain ⟨h1, h2⟩ := ins_keys [p.a] p.b
    refine ⟨h2 (by simp [keys]), fun x => ?_⟩
    rw [h1]; simp [keys]
  · rw [if_neg h, if_neg h]
    exact ⟨by simp [keys], fun x => by simp [keys]⟩
theorem step_keys (p : Ph) (a b : List ByteArray) : keys (bothL (bothL (ofL p) a) b) = fpK p (keys a) (keys b) := by
  obtain ⟨o1, o2⟩ := of_keys p
  obtain ⟨m1, p1⟩ := both_keys a (ofL p)
  obtain ⟨m2, p2⟩ := both_keys b (bothL (ofL p) a)
  obtain ⟨u1, u2⟩ := uniq_keys (ownK p ++ keys a ++ keys b)
  refine asc_unique _ _ (p2 (p1 o1)) u1 fun x => ?_
  rw [m2, m1, o2]
  show _ ↔ x ∈ uniq _
  rw [u2, List.mem_append, List.mem_append]
theorem slots_keys : ∀ (ps : List Ph) (nm : ByteArray), keys (slE ps nm) = slI ps nm
  | [], nm => by unfold slE slI evL; split <;> rfl
  | p :: rest, nm => by
    have ih := slots_keys rest
    unfold slE slI at *
    rw [evL, evL]
    split
    · rw [step_keys, ih, ih]
    · exact ih nm
theorem slots_asc : ∀ (ps : List Ph) (nm : ByteArray), (slI ps nm).Pairwise (· < ·)
  | [], nm => by unfold slI evL; split <;> simp [feK]
  | p :: rest, nm => by
    have ih := slots_asc rest
    unfold slI at *
    rw [evL]
    split
    · exact (uniq_keys _).1
    · exact ih nm
theorem slots_mem : ∀ (ps : List Ph) (nm : ByteArray) (x : Key), x ∈ slI ps nm → x ∈ ps.flatMap ownK
  | [], nm, x, h => by
    unfold slI evL at h; split at h <;> simp [feK] at h
  | p :: rest, nm, x, h => by
    have ih := slots_mem rest
    unfold slI at *
    rw [evL] at h
    rw [List.flatMap_cons, List.mem_append]
    split at h
    · have := ((uniq_keys _).2 x).1 h
      rw [List.mem_append, List.mem_append] at this
      rcases this with (h1 | h1) | h1
      · exact .inl h1
      · exact .inr (ih _ x h1)
      · exact .inr (ih _ x h1)
    · exact .inr (ih _ x h)
theorem len_sub : ∀ (m l : List Key), l.Nodup → (∀ x ∈ l, x ∈ m) → l.length ≤ m.length
  | [], l, _, h => by
    cases l with
    | nil => simp
    | cons x r => have := h x (by simp); simp at this
  | a :: m, l, hn, h => by
    have ih := len_sub m (l.erase a) (hn.erase a) (fun x hx => by
      have hx' := (List.Nodup.mem_erase_iff hn).1 hx
      rcases List.mem_cons.1 (h x hx'.2) with e | e
      · exact absurd e hx'.1
      · exact e)
    have := List.length_erase (a := a) (l := l)
    split at this <;> simp only [List.length_cons] <;> omega
theorem slots_len (ps : List Ph) (nm : ByteArray) : (slI ps nm).length ≤ 2 * ps.length := by
  have hn : (slI ps nm).Nodup := (slots_asc ps nm).imp fun h e => by subst e; exact key_irrefl _ h
  have h1 := len_sub (ps.flatMap ownK) _ hn (slots_mem ps nm)
  have h2 : ∀ l : List Ph, (l.flatMap ownK).length ≤ 2 * l.length := by
    intro l
    induction l with
    | nil => simp
    | cons p r ih =>
      rw [List.flatMap_cons, List.length_append, List.length_cons]
      have : (ownK p).length ≤ 2 := by unfold ownK; split <;> simp
      omega
  exact Nat.le_trans h1 (h2 ps)
theorem slE_len (ps : List Ph) (nm : ByteArray) : (slE ps nm).length ≤ 2 * ps.length := by
  have := slots_len ps nm
  rw [← slots_keys] at this
  simpa [keys] using this
def slotsV (ps : List Ph) (nm : ByteArray) : List ByteArray := if recB ps = true then slE ps nm else []
def allB2 (a b : List ByteArray) : Bool := a.all fun x => b.any fun y => y.toList == x.toList
theorem allB2_iff (a b : List ByteArray) : allB2 a b = true ↔ ∀ x ∈ keys a, x ∈ keys b := by
  simp only [allB2, List.all_eq_true, List.any_eq_true, keys, List.mem_map, beq_iff_eq]
  constructor
  · rintro h x ⟨s, hs, rfl⟩
    obtain ⟨y, hy, e⟩ := h s hs
    exact ⟨y, hy, e⟩
  · intro h s hs
    obtain ⟨y, hy, e⟩ := h s.toList ⟨s, hs, rfl⟩
    exact ⟨y, hy, e⟩
end Go.Proofs.YtcofjoacehacjaaGreatDoor

/- Runs in plain: what may still be used becomes less. -/
namespace Go.Proofs.YtcofjoacehacjaaGreatDoor

theorem slots_step {ps : List Ph} (hok : recB ps = true) (y : Sy) {k : Nat} (hk : k < ps.length) {nm : ByteArray} (ha : atI ps nm = (k : Int)) :
    allB2 (slotsV ps (nextT ps[k] y)) (slotsV ps nm) = true := by
  rw [allB2_iff]
  intro x hx
  rw [slotsV, if_pos hok, slots_keys] at hx ⊢
  rw [slI, evL_step hok feK fpK [] nm hk ha, fpK, (uniq_keys _).2]
  simp only [List.mem_append]
  unfold nextT at hx
  split at hx
  · exact .inl (.inr hx)
  · exact .inr hx
theorem run_slots {ps : List Ph} (hok : recB ps = true) (ys : List Sy) {i : Nat} (hw : Went ps ys (i + 1)) :
    allB2 (slotsV ps (stN ps ys (i + 1)).nm) (slotsV ps (stN ps ys i).nm) = true := by
  have hi := hw i (by omega)
  obtain ⟨k, hk, ha⟩ := at_nat hi
  rw [stN, goV_at _ hk ha]
  exact slots_step hok _ hk ha
theorem slotsV_len (ps : List Ph) (nm : ByteArray) (h : ps.length ≤ 13) : (slotsV ps nm).length ≤ 1000 := by
  unfold slotsV
  split
  · have := slE_len ps nm; omega
  · simp
/-- All that the law asks of the end. -/
theorem run_end {ps : List Ph} (hok : recB ps = true) (ys : List Sy) {n : Nat} (hw : Went ps ys n) (he : atI ps (stN ps ys n).nm < 0) :
    endN (stN ps ys n).nm ≠ 0 ∧ canV ps (beginS ps).nm (endN (stN ps ys n).nm) = true ∧ (stN ps ys n).now ≤ boundV ps (beginS ps).nm ∧ (stN ps ys n).left = 0 ∧ 0 < n ∧ 0 < ps.length ∧ n ≤ 12 := by
  have h0 : endN (stN ps ys n).nm ≠ 0 := fun h => by
    have := (went_end hok ys hw).2 h; omega
  have hl := (recB_iff ps).1 hok
  have hleft : (stN ps ys n).left = 0 := by rw [stN_left hok ys hw, end_left hok h0]
  have hb := run_bound hok ys n hw
  have hc := run_can hok ys hw h0 n (Nat.le_refl _)
  rw [Nat.sub_self] at hc
  have h3 := endN_three _ h0
  have hle := went_le hok ys hw
  refine ⟨h0, ?_, ?_, hleft, ?_, hl.1, by omega⟩
  · rw [show (stN ps ys 0) = beginS ps from rfl] at hc
    simp only [canV, hok, hc, (inB_iff _ _ _).2 h3, Bool.and_self]
  · rw [boundV, if_pos hok]; omega
  · rcases Nat.eq_zero_or_pos n with h | h
    · subst h
      have hz : Went ps ys 0 := went_zero ps ys
      have := (went_inv hok ys 0 hz).1
      rcases this with h1 | h1
      · exfalso
        have hlen := hl.1
        rw [stN, begin_yes hok hl.1] at he
        have hh : hasB ps (ps[0]).nm = true := hasB_yes ps _ 0 hl.1 (by simp)
        rcases atI_cases ps (ps[0]).nm with ⟨hn, _⟩ | ⟨j, q, hq, he', ha, _⟩
        · rw [hn] at hh; cases hh
        · simp only [stAt] at he; omega
      · omega
    · exact h
theorem st_bd {ps : List Ph} (hok : recB ps = true) (ys : List Sy) {i : Nat} (hw : Went ps ys i) : 0 ≤ (stN ps ys i).now ∧ (stN ps ys i).now ≤ 13000 ∧ 0 ≤ (stN ps ys i).left ∧ (stN ps ys i).left ≤ 13000 := by
  obtain ⟨_, _, h3, h4, h5⟩ := went_inv hok ys i hw
  have hle := went_le hok ys hw
  have h12 := ((recB_iff ps).1 hok).2.1
  have hb := evI_bd ps (wi_of_recB hok) (stN ps ys i).nm
  rw [h5]
  omega
/-- One round of the law's walk along the path. -/
theorem run_round {ps : List Ph} (hok : recB ps = true) (ys : List Sy) {m k : Nat} (hw : Went ps ys m) (hk : k < m) :
    goOk ps (stN ps ys k) = true ∧ goS ps (stN ps ys k) (ys[k]?.getD Sy.late) = stN ps ys (k + 1) ∧ (stN ps ys k).now ≤ (stN ps ys (k + 1)).now ∧ (stN ps ys (k + 1)).now + (stN ps ys (k + 1)).left ≤ (stN ps ys k).now + (stN ps ys k).left ∧
      allB2 (slotsV ps (stN ps ys (k + 1)).nm) (slotsV ps (stN ps ys k).nm) = true ∧ (0 ≤ (stN ps ys k).now ∧ (stN ps ys k).now ≤ 13000 ∧ 0 ≤ (stN ps ys k).left ∧ (stN ps ys k).left ≤ 13000) ∧ (0 ≤ (stN ps ys (k + 1)).now ∧ (stN ps ys (k + 1)).now ≤ 13000 ∧ 0 ≤ (stN ps ys (k + 1)).left ∧ (stN ps ys (k + 1)).left ≤ 13000) := by
  have h1 : Went ps ys (k + 1) := fun j hj => hw j (by omega)
  have h0 : Went ps ys k := fun j hj => hw j (by omega)
  have hi := hw k hk
  have hl := run_less hok ys h1
  exact ⟨(went_go hok ys h0 hi).1, went_step hok ys h0 hi, hl.1, hl.2, run_slots hok ys h1, st_bd hok ys h0, st_bd hok ys h1⟩
end Go.Proofs.YtcofjoacehacjaaGreatDoor
