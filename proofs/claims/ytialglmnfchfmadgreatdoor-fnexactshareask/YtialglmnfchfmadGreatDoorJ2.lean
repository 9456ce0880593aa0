/- Books in plain: ascending lists, who has what in a map. -/
import Derived.Test.YtialglmnfchfmadGreatDoorJ0
import Derived.Maps.Views
import Derived.Test.YtialglmnfchfmadGreatDoorJ1
import Derived.Maps.OwnSet
import Derived.Maps.OwnOps
namespace Go.Proofs.YtialglmnfchfmadGreatDoor
open Go.Maps

theorem bl_eq : ∀ (x y : List UInt8), Op.bytesLess x y = decide (x < y)
  | [], [] => by simp [Op.bytesLess]
  | _ :: _, [] => by simp [Op.bytesLess]
  | [], _ :: _ => by simp [Op.bytesLess]
  | a :: x, b :: y => by
    rw [Op.bytesLess, bl_eq x y]
    simp only [List.cons_lt_cons_iff]
    by_cases h1 : a < b <;> by_cases h2 : a = b <;> by_cases h3 : x < y <;> simp [h1, h2, h3]
theorem ltS_iff (a b : ByteArray) : ltS a b = true ↔ a.toList < b.toList := by rw [ltS, bl_eq]; simp
theorem ltS_trans {a b c : ByteArray} (h : ltS a b = true) (k : ltS b c = true) : ltS a c = true := by
  rw [ltS_iff] at *; exact List.lt_trans h k
theorem ltS_irrefl (a : ByteArray) : ltS a a = false := by
  rw [← Bool.not_eq_true, ltS_iff]; exact List.lt_irrefl _
theorem asc_lt {l : List ByteArray} (h : Asc l) : ∀ (d i : Nat) (a b : ByteArray), l[i]? = some a → l[i + 1 + d]? = some b → ltS a b = true
  | 0, i, a, b, ha, hb => h i a b (List.getElem?_eq_some_iff.1 hb).1 ha hb
  | d + 1, i, a, b, ha, hb => by
    have hl : i + 1 + (d + 1) < l.length := (List.getElem?_eq_some_iff.1 hb).1
    have hm : l[i + 1]? = some l[i + 1] := List.getElem?_eq_getElem (by omega)
    exact ltS_trans (h i a _ (by omega) ha hm) (asc_lt h d (i + 1) _ b hm (by rw [show i + 1 + 1 + d = i + 1 + (d + 1) by omega]; exact hb))
theorem asc_ne {l : List ByteArray} (h : Asc l) {i j : Nat} {a : ByteArray} (hi : l[i]? = some a) (hj : l[j]? = some a) : i = j := by
  rcases Nat.lt_trichotomy i j with h1 | h1 | h1
  · have := asc_lt h (j - i - 1) i a a hi (by rw [show i + 1 + (j - i - 1) = j by omega]; exact hj)
    rw [ltS_irrefl] at this; cases this
  · exact h1
  · have := asc_lt h (i - j - 1) j a a hj (by rw [show j + 1 + (i - j - 1) = i by omega]; exact hi)
    rw [ltS_irrefl] at this; cases this
/-- A list whose places differ, all of another list, is no longer than it. -/
theorem short_of : ∀ (l m : List ByteArray), (∀ (i j : Nat) (a : ByteArray), l[i]? = some a → l[j]? = some a → i = j) → (∀ s ∈ l, s ∈ m) → l.length ≤ m.length
  | [], m, _, _ => by simp
  | x :: r, m, hd, hs => by
    have hx : x ∈ m := hs x (by simp)
    obtain ⟨m1, m2, rfl⟩ := List.append_of_mem hx
    have := short_of r (m1 ++ m2) (fun i j a hi hj => by
      have := hd (i + 1) (j + 1) a (by simpa using hi) (by simpa using hj)
      omega) (fun s h => by
      have h1 := hs s (by simp [h])
      rcases List.mem_append.1 h1 with h2 | h2
      · simp [h2]
      · rcases List.mem_cons.1 h2 with h3 | h3
        · subst h3
          obtain ⟨i, hi, e⟩ := List.getElem_of_mem h
          have := hd 0 (i + 1) s (by simp) (by simp [List.getElem?_eq_getElem hi, e])
          omega
        · simp [h3])
    simp at this ⊢; omega
theorem part_short {l all : List ByteArray} (h : PartOk l all) : l.length ≤ all.length := short_of l all (fun _ _ _ hi hj => asc_ne h.2 hi hj) (fun _ hs => part_mem h.1 hs)

/-- What a name is in a map. -/
def kl (s : ByteArray) : Lit := .string s.data.toList
theorem kl_inj {a b : ByteArray} (h : kl a = kl b) : a = b := by
  simp only [kl, Lit.string.injEq] at h
  cases a; cases b; simp at h; rw [h]
theorem kl_key (s : ByteArray) : WideAt.IsKeyLit (kl s) := trivial
/-- Up to batch k, and of it up to place m, a thing is at place i. -/
def HadBy (bs : List Ba) (k m : Nat) (s : ByteArray) (i : Nat) : Prop := ∃ x, bs[i]? = some x ∧ (i < k ∧ s ∈ x.has ∨ i = k ∧ s ∈ x.has.take m)
/-- The map tells of each thing that somebody has, up to there, who. -/
def HoldD (D : DataW Unit) (bs : List Ba) (k m : Nat) : Prop := IsMap D ∧ (∀ s, Maps.has D (kl s) = true → ∃ i, HadBy bs k m s i) ∧ (∀ s i, HadBy bs k m s i → Maps.has D (kl s) = true ∧ ∀ z, D.atKey (kl s) z = .lit (.int .i64 (i : Int)))
theorem HoldD.start (bs : List Ba) : HoldD (.map []) bs 0 0 := by
  refine ⟨isMap_empty, fun s h => by simp [Maps.has] at h, fun s i h => ?_⟩
  obtain ⟨x, _, h | h⟩ := h
  · omega
  · simp at h
theorem HadBy.up {bs : List Ba} {k m i : Nat} {s : ByteArray} (h : HadBy bs k m s i) : HadBy bs k (m + 1) s i := by
  obtain ⟨x, hx, h | ⟨h1, h2⟩⟩ := h
  · exact ⟨x, hx, .inl h⟩
  · refine ⟨x, hx, .inr ⟨h1, ?_⟩⟩
    rw [List.mem_take_iff_getElem] at h2 ⊢
    obtain ⟨j, hj, e⟩ := h2
    exact ⟨j, by omega, e⟩
theorem HadBy.new {bs : List Ba} {k m : Nat} (hk : k < bs.length) (hm : m < (bs[k]).has.length) : HadBy bs k (m + 1) ((bs[k]).has[m]) k :=
  ⟨bs[k], List.getElem?_eq_getElem hk, .inr ⟨rfl, by rw [List.mem_take_iff_getElem]; exact ⟨m, by omega, rfl⟩⟩⟩
theorem HadBy.split {bs : List Ba} {k m i : Nat} {s : ByteArray} (hk : k < bs.length) (hm : m < (bs[k]).has.length) (h : HadBy bs k (m + 1) s i) : HadBy bs k m s i ∨ (i = k ∧ s = (bs[k]).has[m]) := by
  obtain ⟨x, hx, h | ⟨rfl, h2⟩⟩ := h
  · exact .inl ⟨x, hx, .inl h⟩
  · rw [List.getElem?_eq_getElem hk] at hx
    obtain rfl := Option.some.inj hx
    rw [List.take_succ_eq_append_getElem hm] at h2
    rcases List.mem_append.1 h2 with h3 | h3
    · exact .inl ⟨_, List.getElem?_eq_getElem hk, .inr ⟨rfl, h3⟩⟩
    · exact .inr ⟨rfl, by simpa using h3⟩
theorem HoldD.step {D : DataW Unit} {bs : List Ba} {k m : Nat} (h : HoldD D bs k m) (hk : k < bs.length) (hm : m < (bs[k]).has.length) (hn : Maps.has D (kl ((bs[k]).has[m])) = false) :
    HoldD (D.put (kl ((bs[k]).has[m])) (.lit (.int .i64 (k : Int)))) bs k (m + 1) := by
  obtain ⟨h1, h2, h3⟩ := h
  refine ⟨h1.put _ _, fun s hs => ?_, fun s i hi => ?_⟩
  · by_cases e : kl s = kl ((bs[k]).has[m])
    · obtain rfl := kl_inj e
      exact ⟨k, HadBy.new hk hm⟩
    · rw [has_put_other e] at hs
      obtain ⟨i, hi⟩ := h2 s hs
      exact ⟨i, hi.up⟩
  · rcases hi.split hk hm with h4 | ⟨rfl, rfl⟩
    · have e : kl s ≠ kl ((bs[k]).has[m]) := fun e => by
        have := (h3 s i h4).1
        rw [e, hn] at this; cases this
      exact ⟨by rw [has_put_other e]; exact (h3 s i h4).1, fun z => by rw [atKey_put_other e]; exact (h3 s i h4).2 z⟩
    · exact ⟨has_put_same h1 (kl_key _) _, fun z => atKey_put_same h1 (kl_key _) _ z⟩
theorem HadBy.next {bs : List Ba} {k m i : Nat} {s : ByteArray} (hk : k < bs.length) (hm : ¬ m < (bs[k]).has.length) : HadBy bs k m s i ↔ HadBy bs (k + 1) 0 s i := by
  constructor
  · rintro ⟨x, hx, h | ⟨rfl, h2⟩⟩
    · exact ⟨x, hx, .inl ⟨by omega, h.2⟩⟩
    · exact ⟨x, hx, .inl ⟨by omega, List.mem_of_mem_take h2⟩⟩
  · rintro ⟨x, hx, h | ⟨_, h2⟩⟩
    · by_cases e : i = k
      · subst e
        rw [List.getElem?_eq_getElem hk] at hx
        obtain rfl := Option.some.inj hx
        exact ⟨_, List.getElem?_eq_getElem hk, .inr ⟨rfl, by rw [List.take_of_length_le (by omega)]; exact h.2⟩⟩
      · exact ⟨x, hx, .inl ⟨by omega, h.2⟩⟩
    · simp at h2
theorem HoldD.next {D : DataW Unit} {bs : List Ba} {k m : Nat} (h : HoldD D bs k m) (hk : k < bs.length) (hm : ¬ m < (bs[k]).has.length) : HoldD D bs (k + 1) 0 :=
  ⟨h.1, fun s hs => by obtain ⟨i, hi⟩ := h.2.1 s hs; exact ⟨i, (HadBy.next hk hm).1 hi⟩, fun s i hi => h.2.2 s i ((HadBy.next hk hm).2 hi)⟩
/-- Somebody has it already: two have one thing. -/
theorem HoldD.twice {D : DataW Unit} {bs : List Ba} {k m : Nat} (h : HoldD D bs k m) (hk : k < bs.length) (hm : m < (bs[k]).has.length) (hd : Asc (bs[k]).has) (hn : Maps.has D (kl ((bs[k]).has[m])) = true) : ¬ Apart bs := fun ha => by
  obtain ⟨i, x, hx, h4 | ⟨rfl, h4⟩⟩ := h.2.1 _ hn
  · have hi : i < bs.length := (List.getElem?_eq_some_iff.1 hx).1
    have := ha.at hk h4.1
    rw [shareB_no] at this
    rw [List.getElem?_eq_getElem hi] at hx
    obtain rfl := Option.some.inj hx
    exact this _ (List.getElem_mem hm) h4.2
  · rw [List.getElem?_eq_getElem hk] at hx
    obtain rfl := Option.some.inj hx
    rw [List.mem_take_iff_getElem] at h4
    obtain ⟨j, hj, e⟩ := h4
    have := asc_ne hd (i := j) (j := m) (List.getElem?_eq_getElem (by omega)) (by rw [e]; exact List.getElem?_eq_getElem hm)
    omega
theorem HoldD.apart {D : DataW Unit} {bs : List Ba} {k : Nat} (h : HoldD D bs k 0) (hk : ¬ k < bs.length) : Apart bs := fun i j x y hji hi hx hy => by
  have li := (List.getElem?_eq_some_iff.1 hx).1
  have lj := (List.getElem?_eq_some_iff.1 hy).1
  rw [shareB_no]
  intro s h1 h2
  have e1 := (h.2.2 s i ⟨x, hx, .inl ⟨by omega, h1⟩⟩).2 .nil
  have e2 := (h.2.2 s j ⟨y, hy, .inl ⟨by omega, h2⟩⟩).2 .nil
  rw [e1] at e2
  simp at e2
  omega
/-- Who has a thing, off the map. -/
theorem HoldD.who {D : DataW Unit} {bs : List Ba} {k : Nat} (h : HoldD D bs k 0) {s : ByteArray} (hs : Maps.has D (kl s) = true) : ∃ (i : Nat) (hi : i < bs.length), (∀ z, D.atKey (kl s) z = .lit (.int .i64 (i : Int))) ∧ whoB bs s = (bs[i]).nm := by
  obtain ⟨i, hi⟩ := h.2.1 s hs
  have hz := (h.2.2 s i hi).2
  obtain ⟨x, hx, h4 | ⟨_, h4⟩⟩ := hi
  · have li := (List.getElem?_eq_some_iff.1 hx).1
    refine ⟨i, li, hz, whoB_at li (fun j y hj hy => ?_) ?_⟩
    · rw [memS_no]
      intro h5
      have := (h.2.2 s j ⟨y, hy, .inl ⟨by omega, h5⟩⟩).2 .nil
      rw [hz] at this
      simp at this
      omega
    · rw [memS_iff]
      rw [List.getElem?_eq_getElem li] at hx
      obtain rfl := Option.some.inj hx
      exact h4.2
  · simp at h4
theorem HoldD.whoNone {D : DataW Unit} {bs : List Ba} {k : Nat} (h : HoldD D bs k 0) (hk : ¬ k < bs.length) {s : ByteArray} (hs : Maps.has D (kl s) = false) : whoB bs s = ⟨#[]⟩ :=
  whoB_none hk fun i x hi hx => by
    rw [memS_no]
    intro h5
    have := (h.2.2 s i ⟨x, hx, .inl ⟨hi, h5⟩⟩).1
    rw [hs] at this; cases this
end Go.Proofs.YtialglmnfchfmadGreatDoor

/- The program's walks over batches (chapter 11): their names, who has what. -/
namespace Go.Proofs.YtialglmnfchfmadGreatDoor
open Go.RowKit Go.Maps

theorem nms_snoc (bs : List Ba) (k : Nat) (hk : k < bs.length) : nms (bs.take (k + 1)) = nms (bs.take k) ++ [(bs[k]).nm] := by
  rw [nms_take, nms_take, List.take_succ_eq_append_getElem (by rw [nms_length]; exact hk), nms_get bs k hk]
theorem BaAt.batch {w : World} {b o : Nat} {x : Ba} (h : BaAt w b o x) : x.nm.size ≤ maxLen := by
  obtain ⟨_, _, _, _, _, h3⟩ := h; exact h3

set_option maxHeartbeats 1000000 in
theorem batchNames_any (bs : List Ba) (v : Value) (w : World) (h : Bs w v bs) (hn : bs.length ≤ 1048576) :
    Calls Tryz.prog 54 #[v] w fun e w' => (∃ u, e = .returned u ∧ OwnT w' w.heap.size u (nms bs) ∧ Ls w' u (nms bs)) ∧ Below w.heap.size w w' := by
  obtain ⟨a, c, rfl, -, hpos⟩ := h
  obtain ⟨ii, hi, iz0, iz1, iz2⟩ := info_parts infoStr
  go_enter Tryz.func54, Tryz.ntmps54
  go_wp2_with fail
  go_loopw [3, 5, 8] (fun u _ i w' => ∃ k : Nat, k ≤ bs.length ∧ i = .int .i64 k ∧ w'.ownsRow w.heap.size 9 1 u k ((nms (bs.take k)).map Value.string) ∧ Below w.heap.size w w') (fun _ _ i _ => bs.length - (intOf i).toNat)
  case atStart => exact ⟨0, by omega, rfl, ⟨by simp [nms], .inl ⟨rfl, rfl⟩⟩, Below.refl _ _⟩
  case round =>
    obtain ⟨k, hk, rfl, hown, hB⟩ := hrel
    by_cases hp : k < bs.length
    · obtain ⟨b, o, rfl, hS, hb⟩ := hpos (by omega)
      obtain ⟨a1, d1, a2, d2, c0, c1, c2, l1, l2, z0⟩ := ((hS.at hp).up hB hb).cells
      have Hs : Hid ((nms (bs.take (k + 1))).map Value.string = (nms (bs.take k)).map Value.string ++ [.string (bs[k]).nm]) := by
        show _ = _
        rw [nms_snoc bs k hp, List.map_append]; rfl
      generalize bs[k] = x0 at *
      clear l1 l2 hS
      have hB1 := hB.alloc hB.size (.cells #[.string (x0).nm, .slice a1 (x0).has.length d1, .slice a2 (x0).needs.length d2] 45)
      have hown1 := own_up hown ((Below.refl wr.heap.size wr).alloc (Nat.le_refl _) (.cells #[.string (x0).nm, .slice a1 (x0).has.length d1, .slice a2 (x0).needs.length d2] 45))
      have hC : CB (wr.alloc (.cells #[.string (x0).nm, .slice a1 (x0).has.length d1, .slice a2 (x0).needs.length d2] 45)) wr.heap.size [.string x0.nm, .slice a1 x0.has.length d1, .slice a2 x0.needs.length d2] := cb_alloc wr _ _
      have hz := hB.size
      go_upto_region 5 with fail
      generalize wr.alloc (.cells #[.string (x0).nm, .slice a1 (x0).has.length d1, .slice a2 (x0).needs.length d2] 45) = W1 at *
      obtain ⟨⟨e0, -⟩, -⟩ := hC.c3
      clear c0 c1 c2 hown hB
      have hown2 := own_up hown1 ((Below.refl W1.heap.size W1).alloc (Nat.le_refl _) (.cells #[.string x0.nm] 9))
      have hB2 := hB1.alloc hB1.size (.cells #[.string x0.nm] 9)
      go_wp2_with (at_builtin; refine wpList_append_own _ rfl _ _ 50 rfl w.heap.size 9 ii _ 1 16 Tryz.underlying50 hi iz0 iz1 iz2 rfl (by decide) _ _ _ rfl hown2 ⟨W1.heap.size, 0, none⟩ 1 1 [.string x0.nm] rfl rfl (one_new _ _ _) (oneV _) (by unfold maxLen; omega) (by omega) hB2.size ?_)
      intro v1 w1 hown3 hgrow3 _
      rw [← Hs.out] at hown3
      have hB3 := below_own hB2 hown2 hgrow3 (Nat.le_refl _)
      clear hown1 hown2 hgrow3 hB1 hB2 hC e0
      go_wp2_with fail
      go_roundw
      case rel => exact ⟨k + 1, by omega, by go_num, hown3, hB3⟩
      case measure => simp [intOf]; omega
    · have hz : ∀ s ∈ nms bs, s.size ≤ maxLen := fun s hs => by
        obtain ⟨x, hx, rfl⟩ := List.mem_map.1 hs
        obtain ⟨i, hi, rfl⟩ := List.getElem_of_mem hx
        obtain ⟨b, o, rfl, hS, hb⟩ := hpos (by omega)
        exact (hS.at hi).batch
      have Ho : Hid (∀ u, wr.ownsRow w.heap.size 9 1 u k ((nms (bs.take k)).map Value.string) → OwnT wr w.heap.size u (nms bs)) := fun u h => by
        obtain rfl : k = bs.length := by omega
        rw [List.take_length] at h
        unfold OwnT; rw [nms_length]; exact h
      have Hz : Hid (∀ s ∈ nms bs, s.size ≤ maxLen) := hz
      clear hz
      go_wp2_with fail
      go_ret
      exact ⟨⟨_, rfl, Ho.out _ hown, (Ho.out _ hown).lst.ls Hz.out⟩, hB⟩

theorem keyLaw : Keyed Tryz.prog 9 := string_keyed Tryz.underlying9
theorem zeroInt (w : World) : (zeroValue 3).run Tryz.prog w = .ok (.int .i64 0) w := by kernel_rfl
abbrev MapAt (w : World) (M n : Nat) (D : DataW Unit) : Prop := w.ownsMap Tryz.prog 9 (plainElem Tryz.prog 3) M n D

set_option maxRecDepth 100000 in
set_option maxHeartbeats 2000000 in
theorem holders_any (bs : List Ba) (v : Value) (w : World) (h : Bs w v bs) (hn : bs.length ≤ 5) (h8 : ∀ x ∈ bs, Asc x.has ∧ x.has.length ≤ 8) :
    Calls Tryz.prog 56 #[v] w fun e w' =>
      ((Apart bs ∧ ∃ M n D, e = .returned (.tuple #[.map (some M), .bool true]) ∧ MapAt w' M n D ∧ HoldD D bs bs.length 0 ∧ w.heap.size ≤ M) ∨ (¬ Apart bs ∧ e = .returned (.tuple #[.map none, .bool false]))) ∧ Below w.heap.size w w' := by
  obtain ⟨a, c, rfl, -, hpos⟩ := h
  have hmm := @run_makeMap Tryz.prog
  go_enter Tryz.func56, Tryz.ntmps56
  go_wp2_with fail
  go_loopw [5, 6, 8, 9, 10, 14] (fun _ _ _ _ _ i w' => ∃ (k : Nat) (D : DataW Unit), k ≤ bs.length ∧ i = .int .i64 k ∧ MapAt w' w.heap.size (k * 8) D ∧ HoldD D bs k 0 ∧ Below w.heap.size w w') (fun _ _ _ _ _ i _ => bs.length - (intOf i).toNat)
  case atStart => exact ⟨0, _, by omega, rfl, World.ownsMap_made _ _ _ _, HoldD.start bs, (Below.refl _ _).alloc (Nat.le_refl _) _⟩
  case round =>
    obtain ⟨k, D, hk, rfl, hmap, hD, hB⟩ := hrel
    have HD : Hid (HoldD D bs k 0) := hD
    clear hD
    by_cases hp : k < bs.length
    · obtain ⟨b, o, rfl, hS, hb⟩ := hpos (by omega)
      obtain ⟨a1, d1, a2, d2, c0, c1, c2, l1, -, -⟩ := (hS.at hp).cells
      obtain ⟨h8a, h8b⟩ := h8 bs[k] (by simp)
      have HS : Hid (∀ (D : DataW Unit) (m : Nat) (s : ByteArray), (bs[k]).has[m]? = some s → HoldD D bs k m → Maps.has D (kl s) = false → HoldD (D.put (kl s) (.lit (.int .i64 (k : Int)))) bs k (m + 1)) := fun D m s hs h hn => by
        obtain ⟨hm, rfl⟩ := List.getElem?_eq_some_iff.1 hs
        exact h.step hp hm hn
      have HT : Hid (∀ (D : DataW Unit) (m : Nat) (s : ByteArray), (bs[k]).has[m]? = some s → HoldD D bs k m → Maps.has D (kl s) = true → ¬ Apart bs) := fun D m s hs h hn => by
        obtain ⟨hm, rfl⟩ := List.getElem?_eq_some_iff.1 hs
        exact h.twice hp hm h8a hn
      have HN : Hid (∀ (D : DataW Unit) (m : Nat), ¬ m < (bs[k]).has.length → HoldD D bs k m → HoldD D bs (k + 1) 0) := fun D m hm h => h.next hp hm
      obtain ⟨-, hz, hp1⟩ := l1.inv
      clear h8a l1
      generalize bs[k] = x0 at *
      obtain ⟨hc, hf⟩ := bcell hB
      have hB1 := hB.alloc hB.size (.cells #[.string (x0).nm, .slice a1 (x0).has.length d1, .slice a2 (x0).needs.length d2] 45)
      have hmap1 := hmap.alloc (.cells #[.string (x0).nm, .slice a1 (x0).has.length d1, .slice a2 (x0).needs.length d2] 45)
      have hC : CB (wr.alloc (.cells #[.string (x0).nm, .slice a1 (x0).has.length d1, .slice a2 (x0).needs.length d2] 45)) wr.heap.size [.string x0.nm, .slice a1 x0.has.length d1, .slice a2 x0.needs.length d2] := cb_alloc wr _ _
      have hz1 := hB.size
      go_upto_region 5 with fail
      generalize wr.alloc (.cells #[.string (x0).nm, .slice a1 (x0).has.length d1, .slice a2 (x0).needs.length d2] 45) = W1 at *
      obtain ⟨⟨e0, e1, e2⟩, -⟩ := hC.c3
      clear c0 c1 c2 hc hf hmap hB hS
      go_wp2_with fail
      clear e0 e1 e2 hC
      go_loopw [8, 9, 10, 22] (fun _ _ _ j w' => ∃ (m : Nat) (D' : DataW Unit), m ≤ x0.has.length ∧ j = .int .i64 m ∧ MapAt w' w.heap.size (k * 8 + m) D' ∧ HoldD D' bs k m ∧ Below w.heap.size w w') (fun _ _ _ j _ => x0.has.length - (intOf j).toNat)
      case atStart => exact ⟨0, D, by omega, rfl, hmap1, HD.out, hB1⟩
      case round =>
        clear hB1 hmap1 HD
        obtain ⟨m, D', hm, rfl, hmap, hD, hB⟩ := hrel
        have HD : Hid (HoldD D' bs k m) := hD
        clear hD
        by_cases hq : m < x0.has.length
        · obtain ⟨b1, o1, rfl, hS1, hb1⟩ := hp1 (by omega)
          have c0 := (hB.cell (p := ⟨b1, o1 + m, none⟩) hb1).trans (hS1.cell hq)
          have z0 := hz x0.has[m] (by simp)
          have hx := List.getElem?_eq_getElem hq
          generalize x0.has[m] = s at *
          have Hy : Hid (Maps.has D' (kl s) = false → HoldD (D'.put (kl s) (.lit (.int .i64 (k : Int)))) bs k (m + 1)) := HS.out D' m s hx HD.out
          have Ht : Hid (Maps.has D' (kl s) = true → ¬ Apart bs) := HT.out D' m s hx HD.out
          have hkey : keyOf Tryz.prog 9 (.string s) = some (kl s) := WideMaps.keyOf_string_mk Tryz.underlying9 z0
          clear HS HT HN hx HD
          cases ht : Maps.has D' (kl s)
          · go_wp2_with (first
              | (at_lookup; refine wpList_lookup_own_ok_int _ rfl _ _ 101 rfl 9 3 .i64 keyLaw Tryz.underlying101 Tryz.underlying3 (zeroInt _) w.heap.size (k * 8 + m) D' rfl hmap _ _ rfl hkey ?_; intro cc _ _)
              | (at_mapUpdate; refine wpList_mapUpdate_own _ rfl _ _ _ 101 rfl 9 3 keyLaw Tryz.underlying101 _ w.heap.size (k * 8 + m) D' rfl hmap (by unfold maxLen; omega) _ _ _ rfl rfl hkey _ [] (plainElem_int Tryz.underlying3 (WalkArith.wf_i64 (by omega))) ?_; intro w1 hown1 hgrow1))
            have HD1 : Hid (HoldD (D'.put (kl s) (.lit (.int .i64 (k : Int)))) bs k (m + 1)) := Hy.out ht
            have hB1 := below_gr hB hgrow1 (Nat.le_refl _)
            clear Hy Ht hgrow1 hmap hB c0
            go_wp2_with fail
            go_roundw
            case rel => exact ⟨m + 1, _, by omega, by go_num, hown1, HD1.out, hB1⟩
            case measure => simp [intOf]; omega
          · go_wp2_with (first
              | (at_lookup; refine wpList_lookup_own_ok_int _ rfl _ _ 101 rfl 9 3 .i64 keyLaw Tryz.underlying101 Tryz.underlying3 (zeroInt _) w.heap.size (k * 8 + m) D' rfl hmap _ _ rfl hkey ?_; intro cc _ _))
            go_returns
            exact ⟨.inr ⟨Ht.out ht, rfl⟩, hB⟩
        · go_wp2_with fail
          go_roundw
          case rel => exact ⟨k + 1, D', by omega, by go_num, hmap.mono (by omega), HN.out D' m hq HD.out, hB⟩
          case measure => simp [intOf]; omega
    · have Hk : Hid (k = bs.length) := by show _ = _; omega
      go_wp2_with fail
      go_returns
      exact ⟨.inl ⟨HD.out.apart hp, _, _, D, rfl, hmap, by rw [← Hk.out]; exact HD.out, Nat.le_refl _⟩, hB⟩
end Go.Proofs.YtialglmnfchfmadGreatDoor
