/- The program's walks over names and lists of texts (chapter 11). -/
import Derived.Test.YtialglmnfchfmadGreatDoorK1
import Derived.Test.YtialglmnfchfmadGreatDoorK2
import Derived.Maps.Views
namespace Go.Proofs.YtialglmnfchfmadGreatDoor
open Go.RowKit

theorem indexN_any (ss : List ByteArray) (v : Value) (s : ByteArray) (w : World) (h : Ls w v ss) :
    Calls Tryz.prog 81 #[v, .string s] w fun e w' => e = .returned (.int .i64 (idxI ss s)) ∧ w' = w := by
  obtain ⟨a, c, rfl, hn, -, hpos⟩ := h
  unfold maxLen at hn
  go_enter Tryz.func81, Tryz.ntmps81
  go_wp2
  go_loop [8] (fun i => ∃ k : Nat, k ≤ ss.length ∧ i = .int .i64 k ∧ memS (ss.take k) s = false) (fun i => ss.length - (intOf i).toNat)
  case atStart => exact ⟨0, by omega, rfl, rfl⟩
  case round =>
    obtain ⟨k, hk, rfl, hal⟩ := hrel
    have Hal : Hid (memS (ss.take k) s = false) := hal
    clear hal
    by_cases hp : k < ss.length
    · obtain ⟨b, o, rfl, hS, hb⟩ := hpos (by omega)
      have c0 := hS.cell hp
      cases hq : (s.toList == (ss[k]).toList)
      · have Hq : Hid (((ss[k]).toList == s.toList) = false) := by show _ = _; rw [beq_flip]; exact hq
        go_wp2
        go_round
        case rel => exact ⟨k + 1, by omega, by go_num, memS_take hp Hal.out Hq.out⟩
        case measure => simp [intOf]; omega
      · have Hq : Hid (((ss[k]).toList == s.toList) = true) := by show _ = _; rw [beq_flip]; exact hq
        go_wp2
        go_ret
        exact ⟨ret_int (idxI_found hp Hal.out Hq.out).symm, rfl⟩
    · go_wp2
      go_ret
      exact ⟨ret_int (idxI_none (memS_all hp Hal.out)).symm, rfl⟩

theorem containsN_any (ss : List ByteArray) (v : Value) (s : ByteArray) (w : World) (h : Ls w v ss) :
    Calls Tryz.prog 75 #[v, .string s] w fun e w' => e = .returned (.bool (memS ss s)) ∧ w' = w := by
  obtain ⟨a, c, rfl, -⟩ := id h
  go_enter Tryz.func75, Tryz.ntmps75
  go_wp2_with (go_at_call 81; refine (indexN_any ss _ _ _ h).mono ?_; rintro e w' ⟨rfl, hw⟩; obtain rfl := hw.symm; clear hw)
  all_goals
    go_ret
    refine ⟨ret_bool ?_, rfl⟩
    rw [← idxI_mem]
    try simp_all

theorem asc_any (ss : List ByteArray) (u : Value) (w : World) (h : Ls w u ss) :
    Calls Tryz.prog 67 #[u] w fun e w' => e = .returned (.bool (pB (Asc ss))) ∧ Below w.heap.size w w' := by
  obtain ⟨a, c, rfl, hn, -, hpos⟩ := h
  unfold maxLen at hn
  go_enter Tryz.func67, Tryz.ntmps67
  go_wp2
  go_loopw [3] (fun i w' => ∃ k : Nat, (k + 1 ≤ ss.length ∨ k = 0) ∧ i = .int .i64 (k + 1) ∧ AscTo ss (k + 1) ∧ Below w.heap.size w w') (fun i _ => ss.length - (intOf i).toNat)
  case atStart => exact ⟨0, .inr rfl, rfl, AscTo.one _, Below.refl _ _⟩
  case round =>
    obtain ⟨k, hk, rfl, hasc, hB⟩ := hrel
    have Hasc : Hid (AscTo ss (k + 1)) := hasc
    clear hasc
    by_cases hp : k + 1 < ss.length
    · obtain ⟨b, o, rfl, hS, hb⟩ := hpos (by omega)
      have c0 := (hS.up hB hb).cell hp
      have c1 := (hS.up hB hb).cell (k := k) (by omega)
      clear hk
      cases hl : ltS ss[k] ss[k + 1]
      · have Hl : Hid (¬ Asc ss) := fun h => by rw [asc_at h hp] at hl; cases hl
        unfold ltS at hl
        go_wp2_with fail
        go_quiet (fail)
        go_wp2
        go_ret
        exact ⟨ret_bool (pB_no Hl.out).symm, below_drewN hB _⟩
      · have Hl : Hid (AscTo ss (k + 2)) := Hasc.out.step hp hl
        unfold ltS at hl
        go_wp2_with fail
        go_quiet (fail)
        go_wp2
        go_roundw
        case rel => exact ⟨k + 1, .inl (by omega), by go_num, Hl.out, below_drewN hB _⟩
        case measure => simp [intOf]; omega
    · go_wp2
      go_ret
      exact ⟨ret_bool (pB_yes (asc_end Hasc.out hp)).symm, hB⟩

theorem ordered_any (ss : List ByteArray) (u : Value) (w : World) (h : Ls w u ss) :
    Calls Tryz.prog 53 #[u] w fun e w' => e = .returned (.bool (pB (Names ss ∧ Asc ss))) ∧ Below w.heap.size w w' := by
  have h0 := h
  obtain ⟨a, c, rfl, hn, hz, hpos⟩ := h
  unfold maxLen at hn
  go_enter Tryz.func53, Tryz.ntmps53
  go_wp2
  go_loopw [4, 7] (fun _ i w' => ∃ k : Nat, k ≤ ss.length ∧ i = .int .i64 k ∧ NamesTo ss k ∧ Below w.heap.size w w') (fun _ i _ => ss.length - (intOf i).toNat)
  case atStart => exact ⟨0, by omega, rfl, NamesTo.zero _, Below.refl _ _⟩
  case round =>
    obtain ⟨k, hk, rfl, hal, hB⟩ := hrel
    have Hal : Hid (NamesTo ss k) := hal
    clear hal
    by_cases hp : k < ss.length
    · obtain ⟨b, o, rfl, hS, hb⟩ := hpos (by omega)
      have c0 := (hS.up hB hb).cell hp
      have z0 := hz ss[k] (by simp)
      cases hq : nameB ss[k]
      · have Hq : Hid (¬ (Names ss ∧ Asc ss)) := fun h => by rw [names_at h.1 hp] at hq; cases hq
        go_wp2_with (go_at_call 66; refine (shName_any _ _ z0).mono ?_; rintro e w1 ⟨rfl, hb1⟩; (first | (have hB' := up_trans hB hb1; clear hB; have hB := hB'; clear hB') | (have hB := hb1)); clear hb1; (try clear hc hf); obtain ⟨hc, hf⟩ := bcell hB)
        go_ret
        exact ⟨ret_bool (pB_no Hq.out).symm, hB⟩
      · have Hq : Hid (NamesTo ss (k + 1)) := Hal.out.step hp hq
        go_wp2_with (go_at_call 66; refine (shName_any _ _ z0).mono ?_; rintro e w1 ⟨rfl, hb1⟩; (first | (have hB' := up_trans hB hb1; clear hB; have hB := hB'; clear hB') | (have hB := hb1)); clear hb1; (try clear hc hf); obtain ⟨hc, hf⟩ := bcell hB)
        go_roundw
        case rel => exact ⟨k + 1, by omega, by go_num, Hq.out, hB⟩
        case measure => simp [intOf]; omega
    · have Hq : Hid (Names ss) := names_end Hal.out hp
      have Hp : Hid (pB (Names ss ∧ Asc ss) = pB (Asc ss)) := by
        show _ = _
        have := Hq.out
        unfold pB; simp [this]
      go_wp2_with (go_at_call 67; refine (asc_any ss _ _ (h0.up hB)).mono ?_; rintro e w1 ⟨rfl, hb1⟩; (first | (have hB' := up_trans hB hb1; clear hB; have hB := hB'; clear hB') | (have hB := hb1)); clear hb1; (try clear hc hf); obtain ⟨hc, hf⟩ := bcell hB)
      go_ret
      exact ⟨ret_bool Hp.out.symm, hB⟩

theorem partOf_any (ss all : List ByteArray) (u v : Value) (w : World) (h : Ls w u ss) (h2 : Ls w v all) :
    Calls Tryz.prog 68 #[u, v] w fun e w' => e = .returned (.bool (pB (PartOk ss all))) ∧ Below w.heap.size w w' := by
  have h0 := h
  obtain ⟨a, c, rfl, hn, hz, hpos⟩ := h
  obtain ⟨a2, c2, rfl, -⟩ := id h2
  unfold maxLen at hn
  go_enter Tryz.func68, Tryz.ntmps68
  go_wp2
  go_loopw [6, 9] (fun _ i w' => ∃ k : Nat, k ≤ ss.length ∧ i = .int .i64 k ∧ PartTo ss all k ∧ Below w.heap.size w w') (fun _ i _ => ss.length - (intOf i).toNat)
  case atStart => exact ⟨0, by omega, rfl, PartTo.zero _ _, Below.refl _ _⟩
  case round =>
    obtain ⟨k, hk, rfl, hal, hB⟩ := hrel
    have Hal : Hid (PartTo ss all k) := hal
    clear hal
    by_cases hp : k < ss.length
    · obtain ⟨b, o, rfl, hS, hb⟩ := hpos (by omega)
      have c0 := (hS.up hB hb).cell hp
      cases hq : memS all ss[k]
      · have Hq : Hid (¬ PartOk ss all) := fun h => by rw [part_at h.1 hp] at hq; cases hq
        go_wp2_with (go_at_call 75; refine (containsN_any all _ _ _ (h2.up hB)).mono ?_; rintro e w' ⟨rfl, hw⟩; obtain rfl := hw.symm; clear hw)
        go_ret
        exact ⟨ret_bool (pB_no Hq.out).symm, hB⟩
      · have Hq : Hid (PartTo ss all (k + 1)) := Hal.out.step hp hq
        go_wp2_with (go_at_call 75; refine (containsN_any all _ _ _ (h2.up hB)).mono ?_; rintro e w' ⟨rfl, hw⟩; obtain rfl := hw.symm; clear hw)
        go_roundw
        case rel => exact ⟨k + 1, by omega, by go_num, Hq.out, hB⟩
        case measure => simp [intOf]; omega
    · have Hq : Hid (Part ss all) := part_end Hal.out hp
      have Hp : Hid (pB (PartOk ss all) = pB (Asc ss)) := by
        show _ = _
        have := Hq.out
        unfold pB PartOk; simp [this]
      go_wp2_with (go_at_call 67; refine (asc_any ss _ _ (h0.up hB)).mono ?_; rintro e w1 ⟨rfl, hb1⟩; (first | (have hB' := up_trans hB hb1; clear hB; have hB := hB'; clear hB') | (have hB := hb1)); clear hb1; (try clear hc hf); obtain ⟨hc, hf⟩ := bcell hB)
      go_ret
      exact ⟨ret_bool Hp.out.symm, hB⟩

set_option maxHeartbeats 1000000 in
theorem batchOk_any (x : Ba) (things : List ByteArray) (hv nv tv : Value) (w : World) (h1 : Ls w hv x.has) (h2 : Ls w nv x.needs) (h3 : Ls w tv things) :
    Calls Tryz.prog 55 #[.agg #[.string x.nm, hv, nv], tv] w fun e w' => e = .returned (.bool (pB (BaOk things x))) ∧ Below w.heap.size w w' := by
  obtain ⟨a1, c1, rfl, -⟩ := id h1
  obtain ⟨a2, c2, rfl, -⟩ := id h2
  obtain ⟨a3, c3, rfl, -⟩ := id h3
  have hC : CB (w.alloc (.cells #[.string x.nm, .slice a1 x.has.length c1, .slice a2 x.needs.length c2] 45)) w.heap.size [.string x.nm, .slice a1 x.has.length c1, .slice a2 x.needs.length c2] := cb_alloc w _ _
  have hB0 := (Below.refl w.heap.size w).alloc (Nat.le_refl _) (.cells #[.string x.nm, .slice a1 x.has.length c1, .slice a2 x.needs.length c2] 45)
  go_enter Tryz.func55, Tryz.ntmps55
  go_upto_region 1 with fail
  generalize w.alloc (.cells #[.string x.nm, .slice a1 x.has.length c1, .slice a2 x.needs.length c2] 45) = W1 at *
  obtain ⟨⟨d0, d1, d2⟩, -⟩ := hC.c3
  have hlt := hC.2.2
  have l1 := h1.up hB0
  have l2 := h2.up hB0
  have l3 := h3.up hB0
  have hB : Below W1.heap.size W1 W1 := Below.refl _ _
  obtain ⟨hc, hf⟩ := bcell hB
  cases hq : pB (PartOk x.needs things)
  · have Hq : Hid (pB (BaOk things x) = false) := pB_no fun h => pB_not.1 hq h.1
    go_wp2_with (go_at_call 68; refine (partOf_any x.needs things _ _ _ (l2.up hB) (l3.up hB)).mono ?_; rintro e w1 ⟨rfl, hb1⟩; (first | (have hB' := up_trans hB hb1; clear hB; have hB := hB'; clear hB') | (have hB := hb1)); clear hb1; (try clear hc hf); obtain ⟨hc, hf⟩ := bcell hB)
    go_ret
    exact ⟨ret_bool Hq.out.symm, up_trans hB0 hB⟩
  · have Hq : Hid (pB (BaOk things x) = pB (PartOk x.has x.needs)) := by
      show _ = _
      have := pB_iff.1 hq
      unfold pB BaOk; simp [this]
    go_wp2_with (first | (revert hq; intro hq; (go_at_call 68; refine (partOf_any x.needs things _ _ _ (l2.up hB) (l3.up hB)).mono ?_; rintro e w1 ⟨rfl, hb1⟩; (first | (have hB' := up_trans hB hb1; clear hB; have hB := hB'; clear hB') | (have hB := hb1)); clear hb1; (try clear hc hf); obtain ⟨hc, hf⟩ := bcell hB); clear l3) | (go_at_call 68; refine (partOf_any x.has x.needs _ _ _ (l1.up hB) (l2.up hB)).mono ?_; rintro e w1 ⟨rfl, hb1⟩; (first | (have hB' := up_trans hB hb1; clear hB; have hB := hB'; clear hB') | (have hB := hb1)); clear hb1; (try clear hc hf); obtain ⟨hc, hf⟩ := bcell hB))
    go_ret
    exact ⟨ret_bool Hq.out.symm, up_trans hB0 hB⟩
end Go.Proofs.YtialglmnfchfmadGreatDoor

/- Books in plain: ascending lists, who has what in a map. -/
namespace Go.Proofs.YtialglmnfchfmadGreatDoor
open Go.Maps

theorem bl_eq : ∀ (x y : List UInt8), Op.bytesLess x y = decide (x < y)
  | [], [] => by simp [Op.bytesLess]
  | _ :: _, [] => by simp [Op.bytesLess]
  | [], _ :: _ => by simp [Op.bytesLess]
  | a :: x, b :: y => by
    rw [Op.bytesLess, bl_eq x y]
    simp only [List.cons_lt_cons_iff]
    by_cases h1 : a < b <;> by_cases h2 : a = b <;> by_cases h3 : x < y <;> simp [h1, h2, h3]
theorem ltS_iff (a b : ByteArray) : ltS a b = true ↔ a.toList < b.toList := by rw [ltS, bl_eq]; simp
theorem ltS_trans {a b c : ByteArray} (h : ltS a b = true) (k : ltS b c = true) : ltS a c = true := by
  rw [ltS_iff] at *; exact List.lt_trans h k
theorem ltS_irrefl (a : ByteArray) : ltS a a = false := by
  rw [← Bool.not_eq_true, ltS_iff]; exact List.lt_irrefl _
theorem asc_lt {l : List ByteArray} (h : Asc l) : ∀ (d i : Nat) (a b : ByteArray), l[i]? = some a → l[i + 1 + d]? = some b → ltS a b = true
  | 0, i, a, b, ha, hb => h i a b (List.getElem?_eq_some_iff.1 hb).1 ha hb
  | d + 1, i, a, b, ha, hb => by
    have hl : i + 1 + (d + 1) < l.length := (List.getElem?_eq_some_iff.1 hb).1
    have hm : l[i + 1]? = some l[i + 1] := List.getElem?_eq_getElem (by omega)
    exact ltS_trans (h i a _ (by omega) ha hm) (asc_lt h d (i + 1) _ b hm (by rw [show i + 1 + 1 + d = i + 1 + (d + 1) by omega]; exact hb))
theorem asc_ne {l : List ByteArray} (h : Asc l) {i j : Nat} {a : ByteArray} (hi : l[i]? = some a) (hj : l[j]? = some a) : i = j := by
  rcases Nat.lt_trichotomy i j with h1 | h1 | h1
  · have := asc_lt h (j - i - 1) i a a hi (by rw [show i + 1 + (j - i - 1) = j by omega]; exact hj)
    rw [ltS_irrefl] at this; cases this
  · exact h1
  · have := asc_lt h (i - j - 1) j a a hj (by rw [show j + 1 + (i - j - 1) = i by omega]; exact hi)
    rw [ltS_irrefl] at this; cases this
/-- A list whose places differ, all of another list, is no longer than it. -/
theorem short_of : ∀ (l m : List ByteArray), (∀ (i j : Nat) (a : ByteArray), l[i]? = some a → l[j]? = some a → i = j) → (∀ s ∈ l, s ∈ m) → l.length ≤ m.length
  | [], m, _, _ => by simp
  | x :: r, m, hd, hs => by
    have hx : x ∈ m := hs x (by simp)
    obtain ⟨m1, m2, rfl⟩ := List.append_of_mem hx
    have := short_of r (m1 ++ m2) (fun i j a hi hj => by
      have := hd (i + 1) (j + 1) a (by simpa using hi) (by simpa using hj)
      omega) (fun s h => by
      have h1 := hs s (by simp [h])
      rcases List.mem_append.1 h1 with h2 | h2
      · simp [h2]
      · rcases List.mem_cons.1 h2 with h3 | h3
        · subst h3
          obtain ⟨i, hi, e⟩ := List.getElem_of_mem h
          have := hd 0 (i + 1) s (by simp) (by simp [List.getElem?_eq_getElem hi, e])
          omega
        · simp [h3])
    simp at this ⊢; omega
theorem part_short {l all : List ByteArray} (h : PartOk l all) : l.length ≤ all.length := short_of l all (fun _ _ _ hi hj => asc_ne h.2 hi hj) (fun _ hs => part_mem h.1 hs)

/-- What a name is in a map. -/
def kl (s : ByteArray) : Lit := .string s.data.toList
theorem kl_inj {a b : ByteArray} (h : kl a = kl b) : a = b := by
  simp only [kl, Lit.string.injEq] at h
  cases a; cases b; simp at h; rw [h]
theorem kl_key (s : ByteArray) : WideAt.IsKeyLit (kl s) := trivial
/-- Up to batch k, and of it up to place m, a thing is at place i. -/
def HadBy (bs : List Ba) (k m : Nat) (s : ByteArray) (i : Nat) : Prop := ∃ x, bs[i]? = some x ∧ (i < k ∧ s ∈ x.has ∨ i = k ∧ s ∈ x.has.take m)
/-- The map tells of each thing that somebody has, up to there, who. -/
def HoldD (D : DataW Unit) (bs : List Ba) (k m : Nat) : Prop := IsMap D ∧ (∀ s, Maps.has D (kl s) = true → ∃ i, HadBy bs k m s i) ∧ (∀ s i, HadBy bs k m s i → Maps.has D (kl s) = true ∧ ∀ z, D.atKey (kl s) z = .lit (.int .i64 (i : Int)))
theorem HoldD.start (bs : List Ba) : HoldD (.map []) bs 0 0 := by
  refine ⟨isMap_empty, fun s h => by simp [Maps.has] at h, fun s i h => ?_⟩
  obtain ⟨x, _, h | h⟩ := h
  · omega
  · simp at h
theorem HadBy.up {bs : List Ba} {k m i : Nat} {s : ByteArray} (h : HadBy bs k m s i) : HadBy bs k (m + 1) s i := by
  obtain ⟨x, hx, h | ⟨h1, h2⟩⟩ := h
  · exact ⟨x, hx, .inl h⟩
  · refine ⟨x, hx, .inr ⟨h1, ?_⟩⟩
    rw [List.mem_take_iff_getElem] at h2 ⊢
    obtain ⟨j, hj, e⟩ := h2
    exact ⟨j, by omega, e⟩
theorem HadBy.new {bs : List Ba} {k m : Nat} (hk : k < bs.length) (hm : m < (bs[k]).has.length) : HadBy bs k (m + 1) ((bs[k]).has[m]) k :=
  ⟨bs[k], List.getElem?_eq_getElem hk, .inr ⟨rfl, by rw [List.mem_take_iff_getElem]; exact ⟨m, by omega, rfl⟩⟩⟩
theorem HadBy.split {bs : List Ba} {k m i : Nat} {s : ByteArray} (hk : k < bs.length) (hm : m < (bs[k]).has.length) (h : HadBy bs k (m + 1) s i) : HadBy bs k m s i ∨ (i = k ∧ s = (bs[k]).has[m]) := by
  obtain ⟨x, hx, h | ⟨rfl, h2⟩⟩ := h
  · exact .inl ⟨x, hx, .inl h⟩
  · rw [List.getElem?_eq_getElem hk] at hx
    obtain rfl := Option.some.inj hx
    rw [List.take_succ_eq_append_getElem hm] at h2
    rcases List.mem_append.1 h2 with h3 | h3
    · exact .inl ⟨_, List.getElem?_eq_getElem hk, .inr ⟨rfl, h3⟩⟩
    · exact .inr ⟨rfl, by simpa using h3⟩
theorem HoldD.step {D : DataW Unit} {bs : List Ba} {k m : Nat} (h : HoldD D bs k m) (hk : k < bs.length) (hm : m < (bs[k]).has.length) (hn : Maps.has D (kl ((bs[k]).has[m])) = false) :
    HoldD (D.put (kl ((bs[k]).has[m])) (.lit (.int .i64 (k : Int)))) bs k (m + 1) := by
  obtain ⟨h1, h2, h3⟩ := h
  refine ⟨h1.put _ _, fun s hs => ?_, fun s i hi => ?_⟩
  · by_cases e : kl s = kl ((bs[k]).has[m])
    · obtain rfl := kl_inj e
      exact ⟨k, HadBy.new hk hm⟩
    · rw [has_put_other e] at hs
      obtain ⟨i, hi⟩ := h2 s hs
      exact ⟨i, hi.up⟩
  · rcases hi.split hk hm with h4 | ⟨rfl, rfl⟩
    · have e : kl s ≠ kl ((bs[k]).has[m]) := fun e => by
        have := (h3 s i h4).1
        rw [e, hn] at this; cases this
      exact ⟨by rw [has_put_other e]; exact (h3 s i h4).1, fun z => by rw [atKey_put_other e]; exact (h3 s i h4).2 z⟩
    · exact ⟨has_put_same h1 (kl_key _) _, fun z => atKey_put_same h1 (kl_key _) _ z⟩
theorem HadBy.next {bs : List Ba} {k m i : Nat} {s : ByteArray} (hk : k < bs.length) (hm : ¬ m < (bs[k]).has.length) : HadBy bs k m s i ↔ HadBy bs (k + 1) 0 s i := by
  constructor
  · rintro ⟨x, hx, h | ⟨rfl, h2⟩⟩
    · exact ⟨x, hx, .inl ⟨by omega, h.2⟩⟩
    · exact ⟨x, hx, .inl ⟨by omega, List.mem_of_mem_take h2⟩⟩
  · rintro ⟨x, hx, h | ⟨_, h2⟩⟩
    · by_cases e : i = k
      · subst e
        rw [List.getElem?_eq_getElem hk] at hx
        obtain rfl := Option.some.inj hx
        exact ⟨_, List.getElem?_eq_getElem hk, .inr ⟨rfl, by rw [List.take_of_length_le (by omega)]; exact h.2⟩⟩
      · exact ⟨x, hx, .inl ⟨by omega, h.2⟩⟩
    · simp at h2
theorem HoldD.next {D : DataW Unit} {bs : List Ba} {k m : Nat} (h : HoldD D bs k m) (hk : k < bs.length) (hm : ¬ m < (bs[k]).has.length) : HoldD D bs (k + 1) 0 :=
  ⟨h.1, fun s hs => by obtain ⟨i, hi⟩ := h.2.1 s hs; exact ⟨i, (HadBy.next hk hm).1 hi⟩, fun s i hi => h.2.2 s i ((HadBy.next hk hm).2 hi)⟩
/-- Somebody has it already: two have one thing. -/
theorem HoldD.twice {D : DataW Unit} {bs : List Ba} {k m : Nat} (h : HoldD D bs k m) (hk : k < bs.length) (hm : m < (bs[k]).has.length) (hd : Asc (bs[k]).has) (hn : Maps.has D (kl ((bs[k]).has[m])) = true) : ¬ Apart bs := fun ha => by
  obtain ⟨i, x, hx, h4 | ⟨rfl, h4⟩⟩ := h.2.1 _ hn
  · have hi : i < bs.length := (List.getElem?_eq_some_iff.1 hx).1
    have := ha.at hk h4.1
    rw [shareB_no] at this
    rw [List.getElem?_eq_getElem hi] at hx
    obtain rfl := Option.some.inj hx
    exact this _ (List.getElem_mem hm) h4.2
  · rw [List.getElem?_eq_getElem hk] at hx
    obtain rfl := Option.some.inj hx
    rw [List.mem_take_iff_getElem] at h4
    obtain ⟨j, hj, e⟩ := h4
    have := asc_ne hd (i := j) (j := m) (List.getElem?_eq_getElem (by omega)) (by rw [e]; exact List.getElem?_eq_getElem hm)
    omega
theorem HoldD.apart {D : DataW Unit} {bs : List Ba} {k : Nat} (h : HoldD D bs k 0) (hk : ¬ k < bs.length) : Apart bs := fun i j x y hji hi hx hy => by
  have li := (List.getElem?_eq_some_iff.1 hx).1
  have lj := (List.getElem?_eq_some_iff.1 hy).1
  rw [shareB_no]
  intro s h1 h2
  have e1 := (h.2.2 s i ⟨x, hx, .inl ⟨by omega, h1⟩⟩).2 .nil
  have e2 := (h.2.2 s j ⟨y, hy, .inl ⟨by omega, h2⟩⟩).2 .nil
  rw [e1] at e2
  simp at e2
  omega
/-- Who has a thing, off the map. -/
theorem HoldD.who {D : DataW Unit} {bs : List Ba} {k : Nat} (h : HoldD D bs k 0) {s : ByteArray} (hs : Maps.has D (kl s) = true) : ∃ (i : Nat) (hi : i < bs.length), (∀ z, D.atKey (kl s) z = .lit (.int .i64 (i : Int))) ∧ whoB bs s = (bs[i]).nm := by
  obtain ⟨i, hi⟩ := h.2.1 s hs
  have hz := (h.2.2 s i hi).2
  obtain ⟨x, hx, h4 | ⟨_, h4⟩⟩ := hi
  · have li := (List.getElem?_eq_some_iff.1 hx).1
    refine ⟨i, li, hz, whoB_at li (fun j y hj hy => ?_) ?_⟩
    · rw [memS_no]
      intro h5
      have := (h.2.2 s j ⟨y, hy, .inl ⟨by omega, h5⟩⟩).2 .nil
      rw [hz] at this
      simp at this
      omega
    · rw [memS_iff]
      rw [List.getElem?_eq_getElem li] at hx
      obtain rfl := Option.some.inj hx
      exact h4.2
  · simp at h4
theorem HoldD.whoNone {D : DataW Unit} {bs : List Ba} {k : Nat} (h : HoldD D bs k 0) (hk : ¬ k < bs.length) {s : ByteArray} (hs : Maps.has D (kl s) = false) : whoB bs s = ⟨#[]⟩ :=
  whoB_none hk fun i x hi hx => by
    rw [memS_no]
    intro h5
    have := (h.2.2 s i ⟨x, hx, .inl ⟨hi, h5⟩⟩).1
    rw [hs] at this; cases this
end Go.Proofs.YtialglmnfchfmadGreatDoor
