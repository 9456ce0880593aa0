/- The program's walks over names and lists of texts (chapter 11). -/
import Derived.Test.YtkgbdjdgcacblaaGreatDoorJ0
import Derived.Maps.Views
import Derived.Maps.OwnSet
import Derived.Maps.OwnOps
import Derived.Laws.OwnMore
namespace Go.Proofs.YtkgbdjdgcacblaaGreatDoor
open Go.RowKit

theorem indexN_any (ss : List ByteArray) (v : Value) (s : ByteArray) (w : World) (h : Ls w v ss) :
    Calls Tryz.prog 89 #[v, .string s] w fun e w' => e = .returned (.int .i64 (idxI ss s)) ∧ w' = w := by
  obtain ⟨a, c, rfl, hn, -, hpos⟩ := h
  unfold maxLen at hn
  go_enter Tryz.func89, Tryz.ntmps89
  go_wp2
  go_loop [8] (fun i => ∃ k : Nat, k ≤ ss.length ∧ i = .int .i64 k ∧ memS (ss.take k) s = false) (fun i => ss.length - (intOf i).toNat)
  case atStart => exact ⟨0, by omega, rfl, rfl⟩
  case round =>
    obtain ⟨k, hk, rfl, hal⟩ := hrel
    have Hal : Hid (memS (ss.take k) s = false) := hal
    clear hal
    by_cases hp : k < ss.length
    · obtain ⟨b, o, rfl, hS, hb⟩ := hpos (by omega)
      have c0 := hS.cell hp
      cases hq : (s.toList == (ss[k]).toList)
      · have Hq : Hid (((ss[k]).toList == s.toList) = false) := by show _ = _; rw [beq_flip]; exact hq
        go_wp2
        go_round
        case rel => exact ⟨k + 1, by omega, by go_num, memS_take hp Hal.out Hq.out⟩
        case measure => simp [intOf]; omega
      · have Hq : Hid (((ss[k]).toList == s.toList) = true) := by show _ = _; rw [beq_flip]; exact hq
        go_wp2
        go_ret
        exact ⟨ret_int (idxI_found hp Hal.out Hq.out).symm, rfl⟩
    · go_wp2
      go_ret
      exact ⟨ret_int (idxI_none (memS_all hp Hal.out)).symm, rfl⟩

theorem containsN_any (ss : List ByteArray) (v : Value) (s : ByteArray) (w : World) (h : Ls w v ss) :
    Calls Tryz.prog 80 #[v, .string s] w fun e w' => e = .returned (.bool (memS ss s)) ∧ w' = w := by
  obtain ⟨a, c, rfl, -⟩ := id h
  go_enter Tryz.func80, Tryz.ntmps80
  go_wp2_with (go_at_call 89; refine (indexN_any ss _ _ _ h).mono ?_; rintro e w' ⟨rfl, hw⟩; obtain rfl := hw.symm; clear hw)
  all_goals
    go_ret
    refine ⟨ret_bool ?_, rfl⟩
    rw [← idxI_mem]
    try simp_all

theorem asc_any (ss : List ByteArray) (u : Value) (w : World) (h : Ls w u ss) :
    Calls Tryz.prog 68 #[u] w fun e w' => e = .returned (.bool (pB (Asc ss))) ∧ Below w.heap.size w w' := by
  obtain ⟨a, c, rfl, hn, -, hpos⟩ := h
  unfold maxLen at hn
  go_enter Tryz.func68, Tryz.ntmps68
  go_wp2
  go_loopw [3] (fun i w' => ∃ k : Nat, (k + 1 ≤ ss.length ∨ k = 0) ∧ i = .int .i64 (k + 1) ∧ AscTo ss (k + 1) ∧ Below w.heap.size w w') (fun i _ => ss.length - (intOf i).toNat)
  case atStart => exact ⟨0, .inr rfl, rfl, AscTo.one _, Below.refl _ _⟩
  case round =>
    obtain ⟨k, hk, rfl, hasc, hB⟩ := hrel
    have Hasc : Hid (AscTo ss (k + 1)) := hasc
    clear hasc
    by_cases hp : k + 1 < ss.length
    · obtain ⟨b, o, rfl, hS, hb⟩ := hpos (by omega)
      have c0 := (hS.up hB hb).cell hp
      have c1 := (hS.up hB hb).cell (k := k) (by omega)
      clear hk
      cases hl : ltS ss[k] ss[k + 1]
      · have Hl : Hid (¬ Asc ss) := fun h => by rw [asc_at h hp] at hl; cases hl
        unfold ltS at hl
        go_wp2_with fail
        go_quiet (fail)
        go_wp2
        go_ret
        exact ⟨ret_bool (pB_no Hl.out).symm, below_drewN hB _⟩
      · have Hl : Hid (AscTo ss (k + 2)) := Hasc.out.step hp hl
        unfold ltS at hl
        go_wp2_with fail
        go_quiet (fail)
        go_wp2
        go_roundw
        case rel => exact ⟨k + 1, .inl (by omega), by go_num, Hl.out, below_drewN hB _⟩
        case measure => simp [intOf]; omega
    · go_wp2
      go_ret
      exact ⟨ret_bool (pB_yes (asc_end Hasc.out hp)).symm, hB⟩

theorem ordered_any (ss : List ByteArray) (u : Value) (w : World) (h : Ls w u ss) :
    Calls Tryz.prog 47 #[u] w fun e w' => e = .returned (.bool (pB (Names ss ∧ Asc ss))) ∧ Below w.heap.size w w' := by
  have h0 := h
  obtain ⟨a, c, rfl, hn, hz, hpos⟩ := h
  unfold maxLen at hn
  go_enter Tryz.func47, Tryz.ntmps47
  go_wp2
  go_loopw [4, 7] (fun _ i w' => ∃ k : Nat, k ≤ ss.length ∧ i = .int .i64 k ∧ NamesTo ss k ∧ Below w.heap.size w w') (fun _ i _ => ss.length - (intOf i).toNat)
  case atStart => exact ⟨0, by omega, rfl, NamesTo.zero _, Below.refl _ _⟩
  case round =>
    obtain ⟨k, hk, rfl, hal, hB⟩ := hrel
    have Hal : Hid (NamesTo ss k) := hal
    clear hal
    by_cases hp : k < ss.length
    · obtain ⟨b, o, rfl, hS, hb⟩ := hpos (by omega)
      have c0 := (hS.up hB hb).cell hp
      have z0 := hz ss[k] (by simp)
      cases hq : nameB ss[k]
      · have Hq : Hid (¬ (Names ss ∧ Asc ss)) := fun h => by rw [names_at h.1 hp] at hq; cases hq
        go_wp2_with (go_at_call 67; refine (shName_any _ _ z0).mono ?_; rintro e w1 ⟨rfl, hb1⟩; (first | (have hB' := up_trans hB hb1; clear hB; have hB := hB'; clear hB') | (have hB := hb1)); clear hb1; (try clear hc hf); obtain ⟨hc, hf⟩ := bcell hB)
        go_ret
        exact ⟨ret_bool (pB_no Hq.out).symm, hB⟩
      · have Hq : Hid (NamesTo ss (k + 1)) := Hal.out.step hp hq
        go_wp2_with (go_at_call 67; refine (shName_any _ _ z0).mono ?_; rintro e w1 ⟨rfl, hb1⟩; (first | (have hB' := up_trans hB hb1; clear hB; have hB := hB'; clear hB') | (have hB := hb1)); clear hb1; (try clear hc hf); obtain ⟨hc, hf⟩ := bcell hB)
        go_roundw
        case rel => exact ⟨k + 1, by omega, by go_num, Hq.out, hB⟩
        case measure => simp [intOf]; omega
    · have Hq : Hid (Names ss) := names_end Hal.out hp
      have Hp : Hid (pB (Names ss ∧ Asc ss) = pB (Asc ss)) := by
        show _ = _
        have := Hq.out
        unfold pB; simp [this]
      go_wp2_with (go_at_call 68; refine (asc_any ss _ _ (h0.up hB)).mono ?_; rintro e w1 ⟨rfl, hb1⟩; (first | (have hB' := up_trans hB hb1; clear hB; have hB := hB'; clear hB') | (have hB := hb1)); clear hb1; (try clear hc hf); obtain ⟨hc, hf⟩ := bcell hB)
      go_ret
      exact ⟨ret_bool Hp.out.symm, hB⟩

theorem partOf_any (ss all : List ByteArray) (u v : Value) (w : World) (h : Ls w u ss) (h2 : Ls w v all) :
    Calls Tryz.prog 69 #[u, v] w fun e w' => e = .returned (.bool (pB (PartOk ss all))) ∧ Below w.heap.size w w' := by
  have h0 := h
  obtain ⟨a, c, rfl, hn, hz, hpos⟩ := h
  obtain ⟨a2, c2, rfl, -⟩ := id h2
  unfold maxLen at hn
  go_enter Tryz.func69, Tryz.ntmps69
  go_wp2
  go_loopw [6, 9] (fun _ i w' => ∃ k : Nat, k ≤ ss.length ∧ i = .int .i64 k ∧ PartTo ss all k ∧ Below w.heap.size w w') (fun _ i _ => ss.length - (intOf i).toNat)
  case atStart => exact ⟨0, by omega, rfl, PartTo.zero _ _, Below.refl _ _⟩
  case round =>
    obtain ⟨k, hk, rfl, hal, hB⟩ := hrel
    have Hal : Hid (PartTo ss all k) := hal
    clear hal
    by_cases hp : k < ss.length
    · obtain ⟨b, o, rfl, hS, hb⟩ := hpos (by omega)
      have c0 := (hS.up hB hb).cell hp
      cases hq : memS all ss[k]
      · have Hq : Hid (¬ PartOk ss all) := fun h => by rw [part_at h.1 hp] at hq; cases hq
        go_wp2_with (go_at_call 80; refine (containsN_any all _ _ _ (h2.up hB)).mono ?_; rintro e w' ⟨rfl, hw⟩; obtain rfl := hw.symm; clear hw)
        go_ret
        exact ⟨ret_bool (pB_no Hq.out).symm, hB⟩
      · have Hq : Hid (PartTo ss all (k + 1)) := Hal.out.step hp hq
        go_wp2_with (go_at_call 80; refine (containsN_any all _ _ _ (h2.up hB)).mono ?_; rintro e w' ⟨rfl, hw⟩; obtain rfl := hw.symm; clear hw)
        go_roundw
        case rel => exact ⟨k + 1, by omega, by go_num, Hq.out, hB⟩
        case measure => simp [intOf]; omega
    · have Hq : Hid (Part ss all) := part_end Hal.out hp
      have Hp : Hid (pB (PartOk ss all) = pB (Asc ss)) := by
        show _ = _
        have := Hq.out
        unfold pB PartOk; simp [this]
      go_wp2_with (go_at_call 68; refine (asc_any ss _ _ (h0.up hB)).mono ?_; rintro e w1 ⟨rfl, hb1⟩; (first | (have hB' := up_trans hB hb1; clear hB; have hB := hB'; clear hB') | (have hB := hb1)); clear hb1; (try clear hc hf); obtain ⟨hc, hf⟩ := bcell hB)
      go_ret
      exact ⟨ret_bool Hp.out.symm, hB⟩

set_option maxHeartbeats 1000000 in
theorem batchOk_any (x : Ba) (things : List ByteArray) (hv nv tv : Value) (w : World) (h1 : Ls w hv x.has) (h2 : Ls w nv x.needs) (h3 : Ls w tv things) :
    Calls Tryz.prog 49 #[.agg #[.string x.nm, hv, nv], tv] w fun e w' => e = .returned (.bool (pB (BaOk things x))) ∧ Below w.heap.size w w' := by
  obtain ⟨a1, c1, rfl, -⟩ := id h1
  obtain ⟨a2, c2, rfl, -⟩ := id h2
  obtain ⟨a3, c3, rfl, -⟩ := id h3
  have hC : CB (w.alloc (.cells #[.string x.nm, .slice a1 x.has.length c1, .slice a2 x.needs.length c2] 45)) w.heap.size [.string x.nm, .slice a1 x.has.length c1, .slice a2 x.needs.length c2] := cb_alloc w _ _
  have hB0 := (Below.refl w.heap.size w).alloc (Nat.le_refl _) (.cells #[.string x.nm, .slice a1 x.has.length c1, .slice a2 x.needs.length c2] 45)
  go_enter Tryz.func49, Tryz.ntmps49
  go_upto_region 1 with fail
  generalize w.alloc (.cells #[.string x.nm, .slice a1 x.has.length c1, .slice a2 x.needs.length c2] 45) = W1 at *
  obtain ⟨⟨d0, d1, d2⟩, -⟩ := hC.c3
  have hlt := hC.2.2
  have l1 := h1.up hB0
  have l2 := h2.up hB0
  have l3 := h3.up hB0
  have hB : Below W1.heap.size W1 W1 := Below.refl _ _
  obtain ⟨hc, hf⟩ := bcell hB
  cases hq : pB (PartOk x.needs things)
  · have Hq : Hid (pB (BaOk things x) = false) := pB_no fun h => pB_not.1 hq h.1
    go_wp2_with (go_at_call 69; refine (partOf_any x.needs things _ _ _ (l2.up hB) (l3.up hB)).mono ?_; rintro e w1 ⟨rfl, hb1⟩; (first | (have hB' := up_trans hB hb1; clear hB; have hB := hB'; clear hB') | (have hB := hb1)); clear hb1; (try clear hc hf); obtain ⟨hc, hf⟩ := bcell hB)
    go_ret
    exact ⟨ret_bool Hq.out.symm, up_trans hB0 hB⟩
  · have Hq : Hid (pB (BaOk things x) = pB (PartOk x.has x.needs)) := by
      show _ = _
      have := pB_iff.1 hq
      unfold pB BaOk; simp [this]
    go_wp2_with (first | (revert hq; intro hq; (go_at_call 69; refine (partOf_any x.needs things _ _ _ (l2.up hB) (l3.up hB)).mono ?_; rintro e w1 ⟨rfl, hb1⟩; (first | (have hB' := up_trans hB hb1; clear hB; have hB := hB'; clear hB') | (have hB := hb1)); clear hb1; (try clear hc hf); obtain ⟨hc, hf⟩ := bcell hB); clear l3) | (go_at_call 69; refine (partOf_any x.has x.needs _ _ _ (l1.up hB) (l2.up hB)).mono ?_; rintro e w1 ⟨rfl, hb1⟩; (first | (have hB' := up_trans hB hb1; clear hB; have hB := hB'; clear hB') | (have hB := hb1)); clear hb1; (try clear hc hf); obtain ⟨hc, hf⟩ := bcell hB))
    go_ret
    exact ⟨ret_bool Hq.out.symm, up_trans hB0 hB⟩
end Go.Proofs.YtkgbdjdgcacblaaGreatDoor

/- Books in plain: ascending lists, who has what in a map. -/
namespace Go.Proofs.YtkgbdjdgcacblaaGreatDoor
open Go.Maps

theorem bl_eq : ∀ (x y : List UInt8), Op.bytesLess x y = decide (x < y)
  | [], [] => by simp [Op.bytesLess]
  | _ :: _, [] => by simp [Op.bytesLess]
  | [], _ :: _ => by simp [Op.bytesLess]
  | a :: x, b :: y => by
    rw [Op.bytesLess, bl_eq x y]
    simp only [List.cons_lt_cons_iff]
    by_cases h1 : a < b <;> by_cases h2 : a = b <;> by_cases h3 : x < y <;> simp [h1, h2, h3]
theorem ltS_iff (a b : ByteArray) : ltS a b = true ↔ a.toList < b.toList := by rw [ltS, bl_eq]; simp
theorem ltS_trans {a b c : ByteArray} (h : ltS a b = true) (k : ltS b c = true) : ltS a c = true := by
  rw [ltS_iff] at *; exact List.lt_trans h k
theorem ltS_irrefl (a : ByteArray) : ltS a a = false := by
  rw [← Bool.not_eq_true, ltS_iff]; exact List.lt_irrefl _
theorem asc_lt {l : List ByteArray} (h : Asc l) : ∀ (d i : Nat) (a b : ByteArray), l[i]? = some a → l[i + 1 + d]? = some b → ltS a b = true
  | 0, i, a, b, ha, hb => h i a b (List.getElem?_eq_some_iff.1 hb).1 ha hb
  | d + 1, i, a, b, ha, hb => by
    have hl : i + 1 + (d + 1) < l.length := (List.getElem?_eq_some_iff.1 hb).1
    have hm : l[i + 1]? = some l[i + 1] := List.getElem?_eq_getElem (by omega)
    exact ltS_trans (h i a _ (by omega) ha hm) (asc_lt h d (i + 1) _ b hm (by rw [show i + 1 + 1 + d = i + 1 + (d + 1) by omega]; exact hb))
theorem asc_ne {l : List ByteArray} (h : Asc l) {i j : Nat} {a : ByteArray} (hi : l[i]? = some a) (hj : l[j]? = some a) : i = j := by
  rcases Nat.lt_trichotomy i j with h1 | h1 | h1
  · have := asc_lt h (j - i - 1) i a a hi (by rw [show i + 1 + (j - i - 1) = j by omega]; exact hj)
    rw [ltS_irrefl] at this; cases this
  · exact h1
  · have := asc_lt h (i - j - 1) j a a hj (by rw [show j + 1 + (i - j - 1) = i by omega]; exact hi)
    rw [ltS_irrefl] at this; cases this
/-- A list whose places differ, all of another list, is no longer than it. -/
theorem short_of : ∀ (l m : List ByteArray), (∀ (i j : Nat) (a : ByteArray), l[i]? = some a → l[j]? = some a → i = j) → (∀ s ∈ l, s ∈ m) → l.length ≤ m.length
  | [], m, _, _ => by simp
  | x :: r, m, hd, hs => by
    have hx : x ∈ m := hs x (by simp)
    obtain ⟨m1, m2, rfl⟩ := List.append_of_mem hx
    have := short_of r (m1 ++ m2) (fun i j a hi hj => by
      have := hd (i + 1) (j + 1) a (by simpa using hi) (by simpa using hj)
      omega) (fun s h => by
      have h1 := hs s (by simp [h])
      rcases List.mem_append.1 h1 with h2 | h2
      · simp [h2]
      · rcases List.mem_cons.1 h2 with h3 | h3
        · subst h3
          obtain ⟨i, hi, e⟩ := List.getElem_of_mem h
          have := hd 0 (i + 1) s (by simp) (by simp [List.getElem?_eq_getElem hi, e])
          omega
        · simp [h3])
    simp at this ⊢; omega
theorem part_short {l all : List ByteArray} (h : PartOk l all) : l.length ≤ all.length := short_of l all (fun _ _ _ hi hj => asc_ne h.2 hi hj) (fun _ hs => part_mem h.1 hs)

/-- What a name is in a map. -/
def kl (s : ByteArray) : Lit := .string s.data.toList
theorem kl_inj {a b : ByteArray} (h : kl a = kl b) : a = b := by
  simp only [kl, Lit.string.injEq] at h
  cases a; cases b; simp at h; rw [h]
theorem kl_key (s : ByteArray) : WideAt.IsKeyLit (kl s) := trivial
/-- Up to batch k, and of it up to place m, a thing is at place i. -/
def HadBy (bs : List Ba) (k m : Nat) (s : ByteArray) (i : Nat) : Prop := ∃ x, bs[i]? = some x ∧ (i < k ∧ s ∈ x.has ∨ i = k ∧ s ∈ x.has.take m)
/-- The map tells of each thing that somebody has, up to there, who. -/
def HoldD (D : DataW Unit) (bs : List Ba) (k m : Nat) : Prop := IsMap D ∧ (∀ s, Maps.has D (kl s) = true → ∃ i, HadBy bs k m s i) ∧ (∀ s i, HadBy bs k m s i → Maps.has D (kl s) = true ∧ ∀ z, D.atKey (kl s) z = .lit (.int .i64 (i : Int)))
theorem HoldD.start (bs : List Ba) : HoldD (.map []) bs 0 0 := by
  refine ⟨isMap_empty, fun s h => by simp [Maps.has] at h, fun s i h => ?_⟩
  obtain ⟨x, _, h | h⟩ := h
  · omega
  · simp at h
theorem HadBy.up {bs : List Ba} {k m i : Nat} {s : ByteArray} (h : HadBy bs k m s i) : HadBy bs k (m + 1) s i := by
  obtain ⟨x, hx, h | ⟨h1, h2⟩⟩ := h
  · exact ⟨x, hx, .inl h⟩
  · refine ⟨x, hx, .inr ⟨h1, ?_⟩⟩
    rw [List.mem_take_iff_getElem] at h2 ⊢
    obtain ⟨j, hj, e⟩ := h2
    exact ⟨j, by omega, e⟩
theorem HadBy.new {bs : List Ba} {k m : Nat} (hk : k < bs.length) (hm : m < (bs[k]).has.length) : HadBy bs k (m + 1) ((bs[k]).has[m]) k :=
  ⟨bs[k], List.getElem?_eq_getElem hk, .inr ⟨rfl, by rw [List.mem_take_iff_getElem]; exact ⟨m, by omega, rfl⟩⟩⟩
theorem HadBy.split {bs : List Ba} {k m i : Nat} {s : ByteArray} (hk : k < bs.length) (hm : m < (bs[k]).has.length) (h : HadBy bs k (m + 1) s i) : HadBy bs k m s i ∨ (i = k ∧ s = (bs[k]).has[m]) := by
  obtain ⟨x, hx, h | ⟨rfl, h2⟩⟩ := h
  · exact .inl ⟨x, hx, .inl h⟩
  · rw [List.getElem?_eq_getElem hk] at hx
    obtain rfl := Option.some.inj hx
    rw [List.take_succ_eq_append_getElem hm] at h2
    rcases List.mem_append.1 h2 with h3 | h3
    · exact .inl ⟨_, List.getElem?_eq_getElem hk, .inr ⟨rfl, h3⟩⟩
    · exact .inr ⟨rfl, by simpa using h3⟩
theorem HoldD.step {D : DataW Unit} {bs : List Ba} {k m : Nat} (h : HoldD D bs k m) (hk : k < bs.length) (hm : m < (bs[k]).has.length) (hn : Maps.has D (kl ((bs[k]).has[m])) = false) :
    HoldD (D.put (kl ((bs[k]).has[m])) (.lit (.int .i64 (k : Int)))) bs k (m + 1) := by
  obtain ⟨h1, h2, h3⟩ := h
  refine ⟨h1.put _ _, fun s hs => ?_, fun s i hi => ?_⟩
  · by_cases e : kl s = kl ((bs[k]).has[m])
    · obtain rfl := kl_inj e
      exact ⟨k, HadBy.new hk hm⟩
    · rw [has_put_other e] at hs
      obtain ⟨i, hi⟩ := h2 s hs
      exact ⟨i, hi.up⟩
  · rcases hi.split hk hm with h4 | ⟨rfl, rfl⟩
    · have e : kl s ≠ kl ((bs[k]).has[m]) := fun e => by
        have := (h3 s i h4).1
        rw [e, hn] at this; cases this
      exact ⟨by rw [has_put_other e]; exact (h3 s i h4).1, fun z => by rw [atKey_put_other e]; exact (h3 s i h4).2 z⟩
    · exact ⟨has_put_same h1 (kl_key _) _, fun z => atKey_put_same h1 (kl_key _) _ z⟩
theorem HadBy.next {bs : List Ba} {k m i : Nat} {s : ByteArray} (hk : k < bs.length) (hm : ¬ m < (bs[k]).has.length) : HadBy bs k m s i ↔ HadBy bs (k + 1) 0 s i := by
  constructor
  · rintro ⟨x, hx, h | ⟨rfl, h2⟩⟩
    · exact ⟨x, hx, .inl ⟨by omega, h.2⟩⟩
    · exact ⟨x, hx, .inl ⟨by omega, List.mem_of_mem_take h2⟩⟩
  · rintro ⟨x, hx, h | ⟨_, h2⟩⟩
    · by_cases e : i = k
      · subst e
        rw [List.getElem?_eq_getElem hk] at hx
        obtain rfl := Option.some.inj hx
        exact ⟨_, List.getElem?_eq_getElem hk, .inr ⟨rfl, by rw [List.take_of_length_le (by omega)]; exact h.2⟩⟩
      · exact ⟨x, hx, .inl ⟨by omega, h.2⟩⟩
    · simp at h2
theorem HoldD.next {D : DataW Unit} {bs : List Ba} {k m : Nat} (h : HoldD D bs k m) (hk : k < bs.length) (hm : ¬ m < (bs[k]).has.length) : HoldD D bs (k + 1) 0 :=
  ⟨h.1, fun s hs => by obtain ⟨i, hi⟩ := h.2.1 s hs; exact ⟨i, (HadBy.next hk hm).1 hi⟩, fun s i hi => h.2.2 s i ((HadBy.next hk hm).2 hi)⟩
/-- Somebody has it already: two have one thing. -/
theorem HoldD.twice {D : DataW Unit} {bs : List Ba} {k m : Nat} (h : HoldD D bs k m) (hk : k < bs.length) (hm : m < (bs[k]).has.length) (hd : Asc (bs[k]).has) (hn : Maps.has D (kl ((bs[k]).has[m])) = true) : ¬ Apart bs := fun ha => by
  obtain ⟨i, x, hx, h4 | ⟨rfl, h4⟩⟩ := h.2.1 _ hn
  · have hi : i < bs.length := (List.getElem?_eq_some_iff.1 hx).1
    have := ha.at hk h4.1
    rw [shareB_no] at this
    rw [List.getElem?_eq_getElem hi] at hx
    obtain rfl := Option.some.inj hx
    exact this _ (List.getElem_mem hm) h4.2
  · rw [List.getElem?_eq_getElem hk] at hx
    obtain rfl := Option.some.inj hx
    rw [List.mem_take_iff_getElem] at h4
    obtain ⟨j, hj, e⟩ := h4
    have := asc_ne hd (i := j) (j := m) (List.getElem?_eq_getElem (by omega)) (by rw [e]; exact List.getElem?_eq_getElem hm)
    omega
theorem HoldD.apart {D : DataW Unit} {bs : List Ba} {k : Nat} (h : HoldD D bs k 0) (hk : ¬ k < bs.length) : Apart bs := fun i j x y hji hi hx hy => by
  have li := (List.getElem?_eq_some_iff.1 hx).1
  have lj := (List.getElem?_eq_some_iff.1 hy).1
  rw [shareB_no]
  intro s h1 h2
  have e1 := (h.2.2 s i ⟨x, hx, .inl ⟨by omega, h1⟩⟩).2 .nil
  have e2 := (h.2.2 s j ⟨y, hy, .inl ⟨by omega, h2⟩⟩).2 .nil
  rw [e1] at e2
  simp at e2
  omega
/-- Who has a thing, off the map. -/
theorem HoldD.who {D : DataW Unit} {bs : List Ba} {k : Nat} (h : HoldD D bs k 0) {s : ByteArray} (hs : Maps.has D (kl s) = true) : ∃ (i : Nat) (hi : i < bs.length), (∀ z, D.atKey (kl s) z = .lit (.int .i64 (i : Int))) ∧ whoB bs s = (bs[i]).nm := by
  obtain ⟨i, hi⟩ := h.2.1 s hs
  have hz := (h.2.2 s i hi).2
  obtain ⟨x, hx, h4 | ⟨_, h4⟩⟩ := hi
  · have li := (List.getElem?_eq_some_iff.1 hx).1
    refine ⟨i, li, hz, whoB_at li (fun j y hj hy => ?_) ?_⟩
    · rw [memS_no]
      intro h5
      have := (h.2.2 s j ⟨y, hy, .inl ⟨by omega, h5⟩⟩).2 .nil
      rw [hz] at this
      simp at this
      omega
    · rw [memS_iff]
      rw [List.getElem?_eq_getElem li] at hx
      obtain rfl := Option.some.inj hx
      exact h4.2
  · simp at h4
theorem HoldD.whoNone {D : DataW Unit} {bs : List Ba} {k : Nat} (h : HoldD D bs k 0) (hk : ¬ k < bs.length) {s : ByteArray} (hs : Maps.has D (kl s) = false) : whoB bs s = ⟨#[]⟩ :=
  whoB_none hk fun i x hi hx => by
    rw [memS_no]
    intro h5
    have := (h.2.2 s i ⟨x, hx, .inl ⟨hi, h5⟩⟩).1
    rw [hs] at this; cases this
end Go.Proofs.YtkgbdjdgcacblaaGreatDoor

/- The program's walks over batches (chapter 11): their names, who has what. -/
namespace Go.Proofs.YtkgbdjdgcacblaaGreatDoor
open Go.RowKit Go.Maps

theorem nms_snoc (bs : List Ba) (k : Nat) (hk : k < bs.length) : nms (bs.take (k + 1)) = nms (bs.take k) ++ [(bs[k]).nm] := by
  rw [nms_take, nms_take, List.take_succ_eq_append_getElem (by rw [nms_length]; exact hk), nms_get bs k hk]
theorem BaAt.batch {w : World} {b o : Nat} {x : Ba} (h : BaAt w b o x) : x.nm.size ≤ maxLen := by
  obtain ⟨_, _, _, _, _, h3⟩ := h; exact h3

set_option maxHeartbeats 1000000 in
theorem batchNames_any (bs : List Ba) (v : Value) (w : World) (h : Bs w v bs) (hn : bs.length ≤ 1048576) :
    Calls Tryz.prog 48 #[v] w fun e w' => (∃ u, e = .returned u ∧ OwnT w' w.heap.size u (nms bs) ∧ Ls w' u (nms bs)) ∧ Below w.heap.size w w' := by
  obtain ⟨a, c, rfl, -, hpos⟩ := h
  obtain ⟨ii, hi, iz0, iz1, iz2⟩ := info_parts infoStr
  go_enter Tryz.func48, Tryz.ntmps48
  go_wp2_with fail
  go_loopw [3, 5, 8] (fun u _ i w' => ∃ k : Nat, k ≤ bs.length ∧ i = .int .i64 k ∧ w'.ownsRow w.heap.size 9 1 u k ((nms (bs.take k)).map Value.string) ∧ Below w.heap.size w w') (fun _ _ i _ => bs.length - (intOf i).toNat)
  case atStart => exact ⟨0, by omega, rfl, ⟨by simp [nms], .inl ⟨rfl, rfl⟩⟩, Below.refl _ _⟩
  case round =>
    obtain ⟨k, hk, rfl, hown, hB⟩ := hrel
    by_cases hp : k < bs.length
    · obtain ⟨b, o, rfl, hS, hb⟩ := hpos (by omega)
      obtain ⟨a1, d1, a2, d2, c0, c1, c2, l1, l2, z0⟩ := ((hS.at hp).up hB hb).cells
      have Hs : Hid ((nms (bs.take (k + 1))).map Value.string = (nms (bs.take k)).map Value.string ++ [.string (bs[k]).nm]) := by
        show _ = _
        rw [nms_snoc bs k hp, List.map_append]; rfl
      generalize bs[k] = x0 at *
      clear l1 l2 hS
      have hB1 := hB.alloc hB.size (.cells #[.string (x0).nm, .slice a1 (x0).has.length d1, .slice a2 (x0).needs.length d2] 45)
      have hown1 := own_up hown ((Below.refl wr.heap.size wr).alloc (Nat.le_refl _) (.cells #[.string (x0).nm, .slice a1 (x0).has.length d1, .slice a2 (x0).needs.length d2] 45))
      have hC : CB (wr.alloc (.cells #[.string (x0).nm, .slice a1 (x0).has.length d1, .slice a2 (x0).needs.length d2] 45)) wr.heap.size [.string x0.nm, .slice a1 x0.has.length d1, .slice a2 x0.needs.length d2] := cb_alloc wr _ _
      have hz := hB.size
      go_upto_region 5 with fail
      generalize wr.alloc (.cells #[.string (x0).nm, .slice a1 (x0).has.length d1, .slice a2 (x0).needs.length d2] 45) = W1 at *
      obtain ⟨⟨e0, -⟩, -⟩ := hC.c3
      clear c0 c1 c2 hown hB
      have hown2 := own_up hown1 ((Below.refl W1.heap.size W1).alloc (Nat.le_refl _) (.cells #[.string x0.nm] 9))
      have hB2 := hB1.alloc hB1.size (.cells #[.string x0.nm] 9)
      go_wp2_with (at_builtin; refine wpList_append_own _ rfl _ _ 38 rfl w.heap.size 9 ii _ 1 16 Tryz.underlying38 hi iz0 iz1 iz2 rfl (by decide) _ _ _ rfl hown2 ⟨W1.heap.size, 0, none⟩ 1 1 [.string x0.nm] rfl rfl (one_new _ _ _) (oneV _) (by unfold maxLen; omega) (by omega) hB2.size ?_)
      intro v1 w1 hown3 hgrow3 _
      rw [← Hs.out] at hown3
      have hB3 := below_own hB2 hown2 hgrow3 (Nat.le_refl _)
      clear hown1 hown2 hgrow3 hB1 hB2 hC e0
      go_wp2_with fail
      go_roundw
      case rel => exact ⟨k + 1, by omega, by go_num, hown3, hB3⟩
      case measure => simp [intOf]; omega
    · have hz : ∀ s ∈ nms bs, s.size ≤ maxLen := fun s hs => by
        obtain ⟨x, hx, rfl⟩ := List.mem_map.1 hs
        obtain ⟨i, hi, rfl⟩ := List.getElem_of_mem hx
        obtain ⟨b, o, rfl, hS, hb⟩ := hpos (by omega)
        exact (hS.at hi).batch
      have Ho : Hid (∀ u, wr.ownsRow w.heap.size 9 1 u k ((nms (bs.take k)).map Value.string) → OwnT wr w.heap.size u (nms bs)) := fun u h => by
        obtain rfl : k = bs.length := by omega
        rw [List.take_length] at h
        unfold OwnT; rw [nms_length]; exact h
      have Hz : Hid (∀ s ∈ nms bs, s.size ≤ maxLen) := hz
      clear hz
      go_wp2_with fail
      go_ret
      exact ⟨⟨_, rfl, Ho.out _ hown, (Ho.out _ hown).lst.ls Hz.out⟩, hB⟩

theorem keyLaw : Keyed Tryz.prog 9 := string_keyed Tryz.underlying9
theorem zeroInt (w : World) : (zeroValue 3).run Tryz.prog w = .ok (.int .i64 0) w := by kernel_rfl
abbrev MapAt (w : World) (M n : Nat) (D : DataW Unit) : Prop := w.ownsMap Tryz.prog 9 (plainElem Tryz.prog 3) M n D

set_option maxRecDepth 100000 in
set_option maxHeartbeats 2000000 in
theorem holders_any (bs : List Ba) (v : Value) (w : World) (h : Bs w v bs) (hn : bs.length ≤ 5) (h8 : ∀ x ∈ bs, Asc x.has ∧ x.has.length ≤ 8) :
    Calls Tryz.prog 50 #[v] w fun e w' =>
      ((Apart bs ∧ ∃ M n D, e = .returned (.tuple #[.map (some M), .bool true]) ∧ MapAt w' M n D ∧ HoldD D bs bs.length 0 ∧ w.heap.size ≤ M) ∨ (¬ Apart bs ∧ e = .returned (.tuple #[.map none, .bool false]))) ∧ Below w.heap.size w w' := by
  obtain ⟨a, c, rfl, -, hpos⟩ := h
  have hmm := @run_makeMap Tryz.prog
  go_enter Tryz.func50, Tryz.ntmps50
  go_wp2_with fail
  go_loopw [5, 6, 8, 9, 10, 14] (fun _ _ _ _ _ i w' => ∃ (k : Nat) (D : DataW Unit), k ≤ bs.length ∧ i = .int .i64 k ∧ MapAt w' w.heap.size (k * 8) D ∧ HoldD D bs k 0 ∧ Below w.heap.size w w') (fun _ _ _ _ _ i _ => bs.length - (intOf i).toNat)
  case atStart => exact ⟨0, _, by omega, rfl, World.ownsMap_made _ _ _ _, HoldD.start bs, (Below.refl _ _).alloc (Nat.le_refl _) _⟩
  case round =>
    obtain ⟨k, D, hk, rfl, hmap, hD, hB⟩ := hrel
    have HD : Hid (HoldD D bs k 0) := hD
    clear hD
    by_cases hp : k < bs.length
    · obtain ⟨b, o, rfl, hS, hb⟩ := hpos (by omega)
      obtain ⟨a1, d1, a2, d2, c0, c1, c2, l1, -, -⟩ := (hS.at hp).cells
      obtain ⟨h8a, h8b⟩ := h8 bs[k] (by simp)
      have HS : Hid (∀ (D : DataW Unit) (m : Nat) (s : ByteArray), (bs[k]).has[m]? = some s → HoldD D bs k m → Maps.has D (kl s) = false → HoldD (D.put (kl s) (.lit (.int .i64 (k : Int)))) bs k (m + 1)) := fun D m s hs h hn => by
        obtain ⟨hm, rfl⟩ := List.getElem?_eq_some_iff.1 hs
        exact h.step hp hm hn
      have HT : Hid (∀ (D : DataW Unit) (m : Nat) (s : ByteArray), (bs[k]).has[m]? = some s → HoldD D bs k m → Maps.has D (kl s) = true → ¬ Apart bs) := fun D m s hs h hn => by
        obtain ⟨hm, rfl⟩ := List.getElem?_eq_some_iff.1 hs
        exact h.twice hp hm h8a hn
      have HN : Hid (∀ (D : DataW Unit) (m : Nat), ¬ m < (bs[k]).has.length → HoldD D bs k m → HoldD D bs (k + 1) 0) := fun D m hm h => h.next hp hm
      obtain ⟨-, hz, hp1⟩ := l1.inv
      clear h8a l1
      generalize bs[k] = x0 at *
      obtain ⟨hc, hf⟩ := bcell hB
      have hB1 := hB.alloc hB.size (.cells #[.string (x0).nm, .slice a1 (x0).has.length d1, .slice a2 (x0).needs.length d2] 45)
      have hmap1 := hmap.alloc (.cells #[.string (x0).nm, .slice a1 (x0).has.length d1, .slice a2 (x0).needs.length d2] 45)
      have hC : CB (wr.alloc (.cells #[.string (x0).nm, .slice a1 (x0).has.length d1, .slice a2 (x0).needs.length d2] 45)) wr.heap.size [.string x0.nm, .slice a1 x0.has.length d1, .slice a2 x0.needs.length d2] := cb_alloc wr _ _
      have hz1 := hB.size
      go_upto_region 5 with fail
      generalize wr.alloc (.cells #[.string (x0).nm, .slice a1 (x0).has.length d1, .slice a2 (x0).needs.length d2] 45) = W1 at *
      obtain ⟨⟨e0, e1, e2⟩, -⟩ := hC.c3
      clear c0 c1 c2 hc hf hmap hB hS
      go_wp2_with fail
      clear e0 e1 e2 hC
      go_loopw [8, 9, 10, 22] (fun _ _ _ j w' => ∃ (m : Nat) (D' : DataW Unit), m ≤ x0.has.length ∧ j = .int .i64 m ∧ MapAt w' w.heap.size (k * 8 + m) D' ∧ HoldD D' bs k m ∧ Below w.heap.size w w') (fun _ _ _ j _ => x0.has.length - (intOf j).toNat)
      case atStart => exact ⟨0, D, by omega, rfl, hmap1, HD.out, hB1⟩
      case round =>
        clear hB1 hmap1 HD
        obtain ⟨m, D', hm, rfl, hmap, hD, hB⟩ := hrel
        have HD : Hid (HoldD D' bs k m) := hD
        clear hD
        by_cases hq : m < x0.has.length
        · obtain ⟨b1, o1, rfl, hS1, hb1⟩ := hp1 (by omega)
          have c0 := (hB.cell (p := ⟨b1, o1 + m, none⟩) hb1).trans (hS1.cell hq)
          have z0 := hz x0.has[m] (by simp)
          have hx := List.getElem?_eq_getElem hq
          generalize x0.has[m] = s at *
          have Hy : Hid (Maps.has D' (kl s) = false → HoldD (D'.put (kl s) (.lit (.int .i64 (k : Int)))) bs k (m + 1)) := HS.out D' m s hx HD.out
          have Ht : Hid (Maps.has D' (kl s) = true → ¬ Apart bs) := HT.out D' m s hx HD.out
          have hkey : keyOf Tryz.prog 9 (.string s) = some (kl s) := WideMaps.keyOf_string_mk Tryz.underlying9 z0
          clear HS HT HN hx HD
          cases ht : Maps.has D' (kl s)
          · go_wp2_with (first
              | (at_lookup; refine wpList_lookup_own_ok_int _ rfl _ _ 102 rfl 9 3 .i64 keyLaw Tryz.underlying102 Tryz.underlying3 (zeroInt _) w.heap.size (k * 8 + m) D' rfl hmap _ _ rfl hkey ?_; intro cc _ _)
              | (at_mapUpdate; refine wpList_mapUpdate_own _ rfl _ _ _ 102 rfl 9 3 keyLaw Tryz.underlying102 _ w.heap.size (k * 8 + m) D' rfl hmap (by unfold maxLen; omega) _ _ _ rfl rfl hkey _ [] (plainElem_int Tryz.underlying3 (WalkArith.wf_i64 (by omega))) ?_; intro w1 hown1 hgrow1))
            have HD1 : Hid (HoldD (D'.put (kl s) (.lit (.int .i64 (k : Int)))) bs k (m + 1)) := Hy.out ht
            have hB1 := below_gr hB hgrow1 (Nat.le_refl _)
            clear Hy Ht hgrow1 hmap hB c0
            go_wp2_with fail
            go_roundw
            case rel => exact ⟨m + 1, _, by omega, by go_num, hown1, HD1.out, hB1⟩
            case measure => simp [intOf]; omega
          · go_wp2_with (first
              | (at_lookup; refine wpList_lookup_own_ok_int _ rfl _ _ 102 rfl 9 3 .i64 keyLaw Tryz.underlying102 Tryz.underlying3 (zeroInt _) w.heap.size (k * 8 + m) D' rfl hmap _ _ rfl hkey ?_; intro cc _ _))
            go_returns
            exact ⟨.inr ⟨Ht.out ht, rfl⟩, hB⟩
        · go_wp2_with fail
          go_roundw
          case rel => exact ⟨k + 1, D', by omega, by go_num, hmap.mono (by omega), HN.out D' m hq HD.out, hB⟩
          case measure => simp [intOf]; omega
    · have Hk : Hid (k = bs.length) := by show _ = _; omega
      go_wp2_with fail
      go_returns
      exact ⟨.inl ⟨HD.out.apart hp, _, _, D, rfl, hmap, by rw [← Hk.out]; exact HD.out, Nat.le_refl _⟩, hB⟩
end Go.Proofs.YtkgbdjdgcacblaaGreatDoor

/- The program's walks over books (chapter 11): ok or not, who has what. -/
namespace Go.Proofs.YtkgbdjdgcacblaaGreatDoor
open Go.RowKit Go.Maps

theorem bas_has {things : List ByteArray} {bs : List Ba} (h8 : things.length ≤ 8) (h : BasTo things bs bs.length) : ∀ x ∈ bs, Asc x.has ∧ x.has.length ≤ 8 := fun x hx => by
  obtain ⟨i, hi, rfl⟩ := List.getElem_of_mem hx
  obtain ⟨h1, h2⟩ := h.at hi hi
  have e1 := part_short h1
  have e2 := part_short h2
  exact ⟨h2.2, by omega⟩

set_option maxHeartbeats 2000000 in
theorem bookOk_any (b : Bk) (v : Value) (w : World) (h : BkV w v b) :
    Calls Tryz.prog 35 #[v] w fun e w' => e = .returned (.bool (bookB b)) ∧ Below w.heap.size w w' := by
  obtain ⟨a1, c1, a2, c2, rfl, h1, h2⟩ := h.parts
  have hC : CB (w.alloc (.cells #[.slice a1 (b).things.length c1, .slice a2 (b).bs.length c2] 26)) w.heap.size [.slice a1 b.things.length c1, .slice a2 b.bs.length c2] := cb_alloc w _ _
  have hB0 := (Below.refl w.heap.size w).alloc (Nat.le_refl _) (.cells #[.slice a1 (b).things.length c1, .slice a2 (b).bs.length c2] 26)
  have g1 := h1.inv.1
  have g2 := h2.at.1
  unfold maxLen at g1 g2
  go_enter Tryz.func35, Tryz.ntmps35
  go_upto_region 1 with fail
  generalize w.alloc (.cells #[.slice a1 (b).things.length c1, .slice a2 (b).bs.length c2] 26) = W1 at *
  have l1 := h1.up hB0
  have l2 := h2.up hB0
  obtain ⟨e0, e1⟩ := hC.c2'
  have hlt := hC.2.2
  clear h h1 h2
  by_cases h8 : 8 < b.things.length
  · have Hq : Hid (bookB b = false) := pB_no fun h => by have := h.1.1; omega
    go_wp2_with fail
    go_ret
    exact ⟨ret_bool Hq.out.symm, hB0⟩
  by_cases h5 : 5 < b.bs.length
  · have Hq : Hid (bookB b = false) := pB_no fun h => by have := h.2.1; omega
    go_wp2_with fail
    go_ret
    exact ⟨ret_bool Hq.out.symm, hB0⟩
  cases ho : pB (Names b.things ∧ Asc b.things)
  · have Hq : Hid (bookB b = false) := pB_no fun h => pB_not.1 ho ⟨h.1.2.1, h.1.2.2⟩
    go_wp2_with fail
    refine (ordered_any b.things _ _ l1).mono ?_
    rintro e w2 ⟨rfl, hB⟩
    rw [ho]
    go_wp2_with fail
    go_ret
    exact ⟨ret_bool Hq.out.symm, up_trans hB0 hB⟩
  have Ho : Hid (ThingsOk b.things) := ⟨by omega, (pB_iff.1 ho).1, (pB_iff.1 ho).2⟩
  go_wp2_with fail
  refine (ordered_any b.things _ _ l1).mono ?_
  rintro e w2 ⟨rfl, hb2⟩
  rw [ho]
  clear ho
  obtain ⟨hc, hf⟩ := bcell hb2
  go_wp2_with fail
  refine (batchNames_any b.bs _ _ (l2.up hb2) (by omega)).mono ?_
  rintro e w3 ⟨⟨u, rfl, -, hu⟩, hb3⟩
  clear hc hf
  obtain ⟨au, cu, rfl, -⟩ := id hu
  go_wp2_with fail
  refine (ordered_any (nms b.bs) _ _ hu).mono ?_
  rintro e w4 ⟨rfl, hb4⟩
  have hB := up_trans (up_trans hb2 hb3) hb4
  clear hb2 hb3 hb4 hu
  cases hn : pB (Names (nms b.bs) ∧ Asc (nms b.bs))
  · have Hq : Hid (bookB b = false) := pB_no fun h => pB_not.1 hn ⟨h.2.2.1, h.2.2.2.1⟩
    go_wp2_with fail
    go_ret
    exact ⟨ret_bool Hq.out.symm, up_trans hB0 hB⟩
  have Hn : Hid (Names (nms b.bs) ∧ Asc (nms b.bs)) := pB_iff.1 hn
  clear hn
  obtain ⟨hc, hf⟩ := bcell hB
  obtain ⟨-, hpos⟩ := l2.at
  have hz4 := hB.size
  go_wp2_with fail
  clear hc hf
  go_loopw [4, 31] (fun _ i w' => ∃ k : Nat, k ≤ b.bs.length ∧ i = .int .i64 k ∧ BasTo b.things b.bs k ∧ Below W1.heap.size W1 w') (fun _ i _ => b.bs.length - (intOf i).toNat)
  case atStart => exact ⟨0, by omega, rfl, BasTo.zero _ _, hB⟩
  case round =>
    clear hB hz4
    obtain ⟨k, hk, rfl, hal, hB⟩ := hrel
    have Hal : Hid (BasTo b.things b.bs k) := hal
    clear hal
    by_cases hp : k < b.bs.length
    · obtain ⟨bb, o, rfl, hS, hb⟩ := hpos (by omega)
      obtain ⟨a3, d3, a4, d4, c3, c4, c5, l3, l4, -⟩ := ((hS.at hp).up hB hb).cells
      have HS : Hid (BaOk b.things b.bs[k] → BasTo b.things b.bs (k + 1)) := fun h => Hal.out.step hp h
      have HN : Hid (¬ BaOk b.things b.bs[k] → bookB b = false) := fun h => pB_no fun hb => h (hb.2.2.2.2.1.at hp hp)
      generalize b.bs[k] = x0 at *
      have hC1 : CB (wr.alloc (.cells #[.string (x0).nm, .slice a3 (x0).has.length d3, .slice a4 (x0).needs.length d4] 45)) wr.heap.size [.string x0.nm, .slice a3 x0.has.length d3, .slice a4 x0.needs.length d4] := cb_alloc wr _ _
      have hb5 := (Below.refl wr.heap.size wr).alloc (Nat.le_refl _) (.cells #[.string (x0).nm, .slice a3 (x0).has.length d3, .slice a4 (x0).needs.length d4] 45)
      go_upto_region 8 with fail
      generalize wr.alloc (.cells #[.string (x0).nm, .slice a3 (x0).has.length d3, .slice a4 (x0).needs.length d4] 45) = W2 at *
      have hB5 := up_trans hB hb5
      have l3' := l3.up hb5
      have l4' := l4.up hb5
      have l1' := l1.up hB5
      obtain ⟨⟨q0, q1, q2⟩, -⟩ := hC1.c3
      obtain ⟨hc, hf⟩ := bcell hB5
      clear c3 c4 c5 l3 l4 hb5 hB hS
      go_wp2_with fail
      refine (batchOk_any x0 b.things _ _ _ _ l3' l4' l1').mono ?_
      rintro e w6 ⟨rfl, hb6⟩
      have hB6 := up_trans hB5 hb6
      clear hc hf q0 q1 q2 l3' l4' l1' hB5 hb6 hC1
      cases hq : pB (BaOk b.things x0)
      · have Hq : Hid (bookB b = false) := HN.out (pB_not.1 hq)
        go_wp2_with fail
        go_ret
        exact ⟨ret_bool Hq.out.symm, up_trans hB0 hB6⟩
      · have Hq : Hid (BasTo b.things b.bs (k + 1)) := HS.out (pB_iff.1 hq)
        go_wp2_with fail
        go_roundw
        case rel => exact ⟨k + 1, by omega, by go_num, Hq.out, hB6⟩
        case measure => simp [intOf]; omega
    · have Hq : Hid (BasTo b.things b.bs b.bs.length) := bas_end Hal.out hp
      have h8' : ∀ x ∈ b.bs, Asc x.has ∧ x.has.length ≤ 8 := bas_has (by omega) Hq.out
      obtain ⟨hc, hf⟩ := bcell hB
      go_wp2_with fail
      refine (holders_any b.bs _ _ (l2.up hB) (by omega) h8').mono ?_
      rintro e w6 ⟨hh, hb6⟩
      have hB6 := up_trans hB hb6
      clear hc hf
      rcases hh with ⟨hA, M, n, D, rfl, -, -, -⟩ | ⟨hA, rfl⟩
      · have Hy : Hid (bookB b = true) := pB_yes ⟨Ho.out, by omega, Hn.out.1, Hn.out.2, Hq.out, hA⟩
        go_wp2_with fail
        go_ret
        exact ⟨ret_bool Hy.out.symm, up_trans hB0 hB6⟩
      · have Hy : Hid (bookB b = false) := pB_no fun h => hA h.2.2.2.2.2
        go_wp2_with fail
        go_ret
        exact ⟨ret_bool Hy.out.symm, up_trans hB0 hB6⟩
end Go.Proofs.YtkgbdjdgcacblaaGreatDoor

/- Books of one's own in memory: what the laws' copies are. -/
namespace Go.Proofs.YtkgbdjdgcacblaaGreatDoor
open Go.RowKit

/-- A list of texts in a block of its own, at or behind a base. -/
def LsO (w : World) (base : Nat) (v : Value) (ss : List ByteArray) : Prop := ∃ b, v = .slice (some ⟨b, 0, none⟩) ss.length ss.length ∧ StrsAt w b 0 ss ∧ w.there b 0 ss.length ∧ base ≤ b ∧ b < w.heap.size ∧ ss.length ≤ maxLen ∧ ∀ s ∈ ss, s.size ≤ maxLen
theorem LsO.ls {w : World} {base : Nat} {v : Value} {ss : List ByteArray} (h : LsO w base v ss) : Ls w v ss := by
  obtain ⟨b, rfl, h1, -, -, h2, h3, h4⟩ := h
  exact ⟨_, _, rfl, h3, h4, fun _ => ⟨b, 0, rfl, h1, h2⟩⟩
theorem LsO.up {w w' : World} {base : Nat} {v : Value} {ss : List ByteArray} (h : LsO w base v ss) (hb : Below w.heap.size w w') : LsO w' base v ss := by
  obtain ⟨b, rfl, h1, ht, h0, h2, h3⟩ := h
  exact ⟨b, rfl, h1.up hb h2, there_up ht hb h2, h0, Nat.lt_of_lt_of_le h2 hb.size, h3⟩
theorem there_kept {w w' : World} {b o n : Nat} {r : Option Nat} (h : w.there b o n) (hg : w.grownBy w' r) (hb : b < w.heap.size) (hne : some b ≠ r) : w'.there b o n := fun j hj => by
  have hk := hg.block b hb hne
  rw [World.cell?_of_block (w := w) (a := ⟨b, o + j, none⟩) hk, World.frozen?_of_block (w := w) (a := ⟨b, o + j, none⟩) hk]; exact h j hj
theorem LsO.kept {w w' : World} {base r : Nat} {v : Value} {ss : List ByteArray} (h : LsO w base v ss) (hg : w.grownBy w' (some r)) (hr : r < base) : LsO w' base v ss := by
  obtain ⟨b, rfl, h1, ht, h0, h2, h3⟩ := h
  exact ⟨b, rfl, fun i s hs => hg.cell (h1 i s hs) (by simp; omega), there_kept ht hg h2 (by simp; omega), h0, Nat.lt_of_lt_of_le h2 hg.size, h3⟩
theorem LsO.low {w : World} {base base' : Nat} {v : Value} {ss : List ByteArray} (h : LsO w base v ss) (hb : base' ≤ base) : LsO w base' v ss := by
  obtain ⟨b, rfl, h1, ht, h0, h2⟩ := h
  exact ⟨b, rfl, h1, ht, by omega, h2⟩
/-- A batch's cells in block b, its lists behind b. -/
def BaO (w : World) (b o : Nat) (x : Ba) : Prop := ∃ hv nv, w.rangeAt b o [.string x.nm, hv, nv] ∧ LsO w (b + 1) hv x.has ∧ LsO w (b + 1) nv x.needs ∧ x.nm.size ≤ maxLen
theorem BaO.up {w w' : World} {b o : Nat} {x : Ba} (h : BaO w b o x) (hb : Below w.heap.size w w') (hlt : b < w.heap.size) : BaO w' b o x := by
  obtain ⟨hv, nv, hr, h1, h2, h3⟩ := h
  exact ⟨hv, nv, fun j v hv => (hb.cell (p := ⟨b, o + j, none⟩) hlt).trans (hr j v hv), h1.up hb, h2.up hb, h3⟩
theorem BaO.at {w : World} {b o : Nat} {x : Ba} (h : BaO w b o x) : BaAt w b o x := by
  obtain ⟨hv, nv, hr, h1, h2, h3⟩ := h
  exact ⟨hv, nv, hr, h1.ls, h2.ls, h3⟩
def BsOAt (w : World) (b : Nat) (bs : List Ba) : Prop := ∀ (i : Nat) (x : Ba), bs[i]? = some x → BaO w b (i * 3) x
theorem BsOAt.up {w w' : World} {b : Nat} {bs : List Ba} (h : BsOAt w b bs) (hb : Below w.heap.size w w') (hlt : b < w.heap.size) : BsOAt w' b bs := fun i x hx => (h i x hx).up hb hlt
theorem bsO_store {w1 : World} {b k : Nat} {bs : List Ba} {hv nv : Value} (hk : k < bs.length) (h : BsOAt w1 b (bs.take k)) (ht : w1.there b 0 (bs.length * 3)) (h1 : LsO w1 (b + 1) hv (bs[k]).has) (h2 : LsO w1 (b + 1) nv (bs[k]).needs) (h3 : (bs[k]).nm.size ≤ maxLen) :
    BsOAt (w1.setCells b (k * 3) [.string (bs[k]).nm, hv, nv]) b (bs.take (k + 1)) := by
  have hg : w1.grownBy (w1.setCells b (k * 3) [.string (bs[k]).nm, hv, nv]) (some b) := grown_copies b _ _ w1 w1 (some b) (World.grownBy.refl' w1) rfl
  intro i p hp
  by_cases hi : i < k
  · obtain ⟨hv', nv', hr, g1, g2, g3⟩ := h i p (by rw [List.getElem?_take] at hp ⊢; rw [if_pos (by omega)] at hp; rw [if_pos hi]; exact hp)
    refine ⟨hv', nv', World.rangeAt_setCells_apart hr b (k * 3) _ (.inr (.inl ?_)), g1.kept hg (by omega), g2.kept hg (by omega), g3⟩
    simp; omega
  · have hik : i = k := by
      rw [List.getElem?_take] at hp
      split at hp
      · omega
      · cases hp
    subst hik
    rw [List.getElem?_take, if_pos (by omega), List.getElem?_eq_getElem hk] at hp
    obtain rfl := Option.some.inj hp
    refine ⟨hv, nv, World.rangeAt_setCells_same _ _ _ _ (fun j hj => ?_), h1.kept hg (by omega), h2.kept hg (by omega), h3⟩
    have := ht (i * 3 + j) (by simp at hj; omega)
    simpa using this
/-- Batches in a block of their own; a book of its own. -/
def BsO (w : World) (base : Nat) (v : Value) (bs : List Ba) : Prop := ∃ b, v = .slice (some ⟨b, 0, none⟩) bs.length bs.length ∧ BsOAt w b bs ∧ w.there b 0 (bs.length * 3) ∧ base ≤ b ∧ b < w.heap.size ∧ bs.length ≤ maxLen
theorem BsO.bs {w : World} {base : Nat} {v : Value} {bs : List Ba} (h : BsO w base v bs) : Bs w v bs := by
  obtain ⟨b, rfl, h1, -, -, h2, h3⟩ := h
  exact ⟨_, _, rfl, h3, fun _ => ⟨b, 0, rfl, fun i x hx => by rw [Nat.zero_add]; exact (h1 i x hx).at, h2⟩⟩
theorem BsO.up {w w' : World} {base : Nat} {v : Value} {bs : List Ba} (h : BsO w base v bs) (hb : Below w.heap.size w w') : BsO w' base v bs := by
  obtain ⟨b, rfl, h1, ht, h0, h2, h3⟩ := h
  exact ⟨b, rfl, h1.up hb h2, there_up ht hb h2, h0, Nat.lt_of_lt_of_le h2 hb.size, h3⟩
def BkO (w : World) (base : Nat) (v : Value) (b : Bk) : Prop := ∃ tv bv mid, v = .agg #[tv, bv] ∧ LsO w base tv b.things ∧ BsO w mid bv b.bs ∧ base ≤ mid ∧ ∀ g, tv.ownBlock = some g → g < mid
theorem BkO.bk {w : World} {base : Nat} {v : Value} {b : Bk} (h : BkO w base v b) : BkV w v b := by
  obtain ⟨tv, bv, mid, rfl, h1, h2, -⟩ := h
  exact ⟨tv, bv, rfl, h1.ls, h2.bs⟩
theorem BkO.up {w w' : World} {base : Nat} {v : Value} {b : Bk} (h : BkO w base v b) (hb : Below w.heap.size w w') : BkO w' base v b := by
  obtain ⟨tv, bv, mid, rfl, h1, h2, r⟩ := h
  exact ⟨tv, bv, mid, rfl, h1.up hb, h2.up hb, r⟩
end Go.Proofs.YtkgbdjdgcacblaaGreatDoor

/- An append of nothing. -/
namespace Go.Proofs.YtkgbdjdgcacblaaGreatDoor
open Go.RowKit

theorem run_append_zero {P : Program} {w : World} (base : Nat) (t ty e : TypeId) (i : TypeInfo) (size : Nat) (ht : P.underlying t = some (.slice e)) (hi : P.info? e = some i)
    (v : Value) (n : Nat) (xs : List Value) (hown : w.ownsRow base e size v n xs) (a : Option Addr) (c : Nat) : (Builtin.append_ #[t, t] ty #[v, .slice a 0 c]).run P w = .ok v w := by
  rcases hown.2 with ⟨rfl, rfl⟩ | ⟨g, cap, cur, rfl, _, _, hnc, _⟩
  · cases a <;> simp [Builtin.append_, run_underlying ht, sizeOf, typeInfo, hi, Builtin.lenOf, Builtin.firstCells, loadCells, loadCellsFrom, Result.andThen]
  · cases a <;> simp [Builtin.append_, run_underlying ht, sizeOf, typeInfo, hi, Builtin.lenOf, Builtin.firstCells, hnc, storeCells, loadCells, loadCellsFrom, Result.andThen]
theorem wpList_append_zero {P : Program} (w : World) {ops : Array Oper} {rest : List Oper} {o : Oper} {ac : Act} {Q : Exit → Act → World → Prop} (hg : o.guard = none) (s x : Operand) (t : TypeId) (hop : o.op = .call { callee := .builtin .append, args := #[s, x], argTypes := #[t, t] })
    (base : Nat) (e : TypeId) (i : TypeInfo) (size : Nat) (ht : P.underlying t = some (.slice e)) (hi : P.info? e = some i) (v : Value) (n : Nat) (xs : List Value) (hs : ac.eval s = v) (hown : w.ownsRow base e size v n xs) (a : Option Addr) (c : Nat) (hx : ac.eval x = .slice a 0 c)
    (h : wpList P ops Q rest (ac.put o.dst v) w) : wpList P ops Q (o :: rest) ac w := by
  refine wpList_plain hg fun K hK => ?_
  have hr := run_append_zero (P := P) base t o.type e i size ht hi v n xs hown a c
  unfold Oper.wp
  simp [execOp, hop, resolve, invoke, builtin, hs, hx, hr, Result.andThen]
  exact hK _ _ h
/-- A slice that is not nil. -/
def NN (u : Value) : Prop := ∃ g n c, u = .slice (some ⟨g, 0, none⟩) n c
theorem ownT_lit0 (w : World) : OwnT (w.alloc (.cells #[] 9)) w.heap.size (.slice (some ⟨w.heap.size, 0, none⟩) 0 0) [] := World.ownsRow_lit w #[] 0 (Nat.le_refl _) (by unfold maxLen; omega) rfl
end Go.Proofs.YtkgbdjdgcacblaaGreatDoor
