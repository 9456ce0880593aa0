/- The program's ShareEnter. -/
import Derived.Test.YtkgbdjdgcacblaaGreatDoorKrp
import Derived.Test.YtkgbdjdgcacblaaGreatDoorJ4
import Derived.Test.YtkgbdjdgcacblaaGreatDoorJ8
import Derived.Test.YtkgbdjdgcacblaaGreatDoorJ0
import Derived.Test.YtkgbdjdgcacblaaGreatDoorJ13
import Derived.OpenShut
import Derived.Deep.MidRow
namespace Go.Proofs.YtkgbdjdgcacblaaGreatDoor
open Go.RowKit

theorem ent_part {b : Bk} {nm : ByteArray} {ls : List ByteArray} (h : entR b nm ls = 0) : PartOk ls b.things ∧ ¬ 5 ≤ b.bs.length := by
  unfold entR at h
  split at h
  · omega
  · rename_i h1
    split at h
    · omega
    · split at h
      · omega
      · rename_i h2
        refine ⟨pB_iff.1 ?_, h2⟩
        cases hp : pB (PartOk ls b.things)
        · rw [hp, Bool.and_false] at h1; exact absurd rfl h1
        · rfl
theorem ent_short {b : Bk} {nm : ByteArray} {ls : List ByteArray} (hok : BookOk b) (h : entR b nm ls = 0) : ls.length ≤ 8 := by
  have h1 := part_short (ent_part h).1
  have h2 := (ok_small hok).1
  omega
theorem enter_cases (b : Bk) (nm : ByteArray) (ls : List ByteArray) : enterB b nm ls = nobody ∨ (BookOk b ∧ enterB b nm ls = b) ∨ (BookOk b ∧ ls.length ≤ 8 ∧ enterB b nm ls = ⟨b.things, b.bs.take (inN b nm) ++ ⟨nm, [], ls⟩ :: b.bs.drop (inN b nm)⟩) := by
  rw [← (enter_asked b nm ls).2]
  cases hb : bookB b
  · exact .inl (by simp [askedB, hb])
  · by_cases hc : entR b nm ls = 0
    · exact .inr (.inr ⟨book_ok hb, ent_short (book_ok hb) hc, by simp [askedB, hb, hc]⟩)
    · exact .inr (.inl ⟨book_ok hb, by simp [askedB, hb, hc]⟩)
theorem ins_mem {bs : List Ba} {k : Nat} {x y : Ba} (h : y ∈ bs.take k ++ x :: bs.drop k) : y ∈ bs ∨ y = x := by
  rcases List.mem_append.1 h with h | h
  · exact .inl (List.mem_of_mem_take h)
  · rcases List.mem_cons.1 h with h | h
    · exact .inr h
    · exact .inl (List.mem_of_mem_drop h)
theorem szb_enter {b : Bk} {nm : ByteArray} {ls : List ByteArray} (h : Szb b) (hn : ∀ s ∈ ls, s.size ≤ maxLen) : Szb (enterB b nm ls) := by
  rcases enter_cases b nm ls with e | ⟨-, e⟩ | ⟨-, -, e⟩ <;> rw [e]
  · exact szb_none
  · exact h
  · refine ⟨h.1, fun x hx => ?_⟩
    rcases ins_mem hx with k | k
    · exact h.2 x k
    · subst k; exact ⟨fun s hs => by simp at hs, hn⟩
set_option maxRecDepth 20000 in
set_option maxHeartbeats 2000000 in
theorem enterP_any (b : Bk) (v : Value) (nm : ByteArray) (lv : Value) (ls : List ByteArray) (w : World) (h : BkV w v b) (hl : Ls w lv ls) (hnz : nm.size ≤ maxLen) (hg : ErrT w) :
    Calls Tryz.prog 12 #[v, .string nm, lv] w fun e w' => (∃ u, e = .returned (.tuple #[u, .int .i64 (enterC b nm ls)]) ∧ BkF w' w.heap.size u (enterB b nm ls)) ∧ Below w.heap.size w w' := by
  have hA : ∀ W, Below w.heap.size w W → Calls Tryz.prog 15 #[v, .iface 58 (.agg #[.string nm, lv])] W fun e w' => (∃ u, e = .returned (.tuple #[u, .int .i64 (enterC b nm ls)]) ∧ BkF w' W.heap.size u (enterB b nm ls)) ∧ Below W.heap.size W w' := fun W hW => by
    refine answer_any b v nm _ _ (enterC b nm ls) (enterB b nm ls) W (h.up hW) (hg.up hW) fun X hX => ?_
    obtain ⟨e1, e2⟩ := enter_asked b nm ls
    rw [← e1, ← e2]
    exact try_any b v nm _ _ 116 (entR b nm ls) _ X ((h.up hW).up hX) (fun n w => as_whoE n _ _ w) (fun n w => as_refE n _ _ w) ru_E
      (fun hok Y hY => enterRef_any b v nm lv ls Y (((h.up hW).up hX).up hY) hok (((hl.up hW).up hX).up hY) hnz)
      (fun hok hc Y hY => doneEnter_any b v nm lv ls Y (((h.up hW).up hX).up hY) (((hl.up hW).up hX).up hY) (by have := ent_short hok hc; omega) hnz hok)
  obtain ⟨a1, c1, a2, c2, rfl, -, -⟩ := h.parts
  obtain ⟨la, lc, rfl, -⟩ := id hl
  have HA : Hid (∀ W, Below w.heap.size w W → Calls Tryz.prog 15 #[.agg #[.slice a1 b.things.length c1, .slice a2 b.bs.length c2], .iface 58 (.agg #[.string nm, .slice la ls.length lc])] W fun e w' => (∃ u, e = .returned (.tuple #[u, .int .i64 (enterC b nm ls)]) ∧ BkF w' W.heap.size u (enterB b nm ls)) ∧ Below W.heap.size W w') := hA
  clear hA h hg hl
  obtain ⟨W1, hW1, kA, kR, hB1, hs1⟩ : ∃ W1, (w.alloc (.cells #[.slice a1 (b).things.length c1, .slice a2 (b).bs.length c2] 26)).alloc (.cells #[.slice none 0 0, .slice none 0 0] 26) = W1 ∧ CB W1 w.heap.size [.slice a1 b.things.length c1, .slice a2 b.bs.length c2] ∧ CB W1 (w.heap.size + 1) [.slice none 0 0, .slice none 0 0] ∧ Below w.heap.size w W1 ∧ W1.heap.size = w.heap.size + 2 := ⟨_, rfl, cb2 w _ _ _ _⟩
  go_enter Tryz.func12, Tryz.ntmps12
  go_upto_region 1 with fail
  try rw [hW1]
  clear hW1
  obtain ⟨e0, e1⟩ := kA.c2'
  go_wp2_with fail
  refine (HA.out _ hB1).mono ?_
  rintro e w2 ⟨⟨u, rfl, hu⟩, hb2⟩
  have kR2 := kR.up hb2 (by omega)
  have hB2 := up_trans hB1 hb2
  obtain ⟨i1, j1, i2, j2, rfl⟩ := hu.shape
  clear e0 e1 kA kR hB1 hb2 HA
  obtain ⟨⟨y0, y1⟩, q0, q1⟩ := kR2.c2
  go_wp2_with fail
  refine end_cb2b Tryz.results12 Tryz.underlying26 rfl sizeBk1 kR2 rfl rfl ?_
  exact ⟨⟨_, rfl, ((hu.set (by omega)).set (by omega)).low (by omega)⟩, below_set2 hB2 (Nat.le_succ _) _ _⟩
end Go.Proofs.YtkgbdjdgcacblaaGreatDoor

/- Books in plain: an order fits just if the greedy one goes through; all orders. -/
namespace Go.Proofs.YtkgbdjdgcacblaaGreatDoor

theorem nm_at {b : Bk} (h : BookOk b) {k : Nat} {x : Ba} (hx : b.bs[k]? = some x) : idxI (nms b.bs) x.nm = (k : Int) := by
  obtain ⟨hk, rfl⟩ := List.getElem?_eq_some_iff.1 hx
  have hl : k < (nms b.bs).length := by rw [nms_length]; exact hk
  refine idxI_found hl ?_ (by rw [nms_get _ _ hk]; simp)
  rw [memS_no]
  intro hm
  obtain ⟨j, hj, hjs⟩ := List.mem_take_iff_getElem.1 hm
  have hj2 : j < (nms b.bs).length := by omega
  have h1 : (nms b.bs)[j]? = some (b.bs[k]).nm := by rw [List.getElem?_eq_getElem hj2, ← hjs]
  have h2 : (nms b.bs)[k]? = some (b.bs[k]).nm := by rw [List.getElem?_eq_getElem hl, nms_get _ _ hk]
  have := asc_ne h.2.2.2.1 h1 h2
  omega
theorem can_mono {bs : List Ba} {k : Nat} {g g' : List ByteArray} (h : Can bs k g) (hs : ∀ s, memS g s = true → memS g' s = true) : Can bs k g' := fun i x y hi hne hx hy hm => by
  refine h i x y hi hne hx hy ?_
  cases hc : memS g x.nm
  · rfl
  · rw [hs _ hc] at hm; cases hm
theorem diff_of {l : List ByteArray} (hd : ∀ (i : Nat) (s : ByteArray), l[i]? = some s → memS (l.take i) s = false) : ∀ (i j : Nat) (a : ByteArray), l[i]? = some a → l[j]? = some a → i = j := by
  have key : ∀ (i j : Nat) (a : ByteArray), l[i]? = some a → l[j]? = some a → ¬ i < j := fun i j a hi hj hlt => by
    have := hd j a hj
    rw [memS_no] at this
    obtain ⟨hi', rfl⟩ := List.getElem?_eq_some_iff.1 hi
    exact this (List.mem_take_iff_getElem.2 ⟨i, by omega, rfl⟩)
  intro i j a hi hj
  have h1 := key i j a hi hj
  have h2 := key j i a hj hi
  omega
theorem goes_fitsTo {b : Bk} (hok : BookOk b) {n : Nat} {ss : List ByteArray} (h : Goes b.bs n ss) : FitsTo b.bs ss ss.length := by
  induction h with
  | none => exact fun i s hi => by simp at hi
  | @more n gone k x h1 h2 h3 ih =>
    have hgood : Good b.bs gone k := by
      rcases h2 with ⟨h0, _⟩ | ⟨j, hj, _, hg, _⟩
      · omega
      · obtain rfl : k = j := by omega
        exact hg
    obtain ⟨y, hy, hm, hc⟩ := hgood
    rw [h3] at hy
    obtain rfl := Option.some.inj hy
    have hidx := nm_at hok h3
    intro i s hi hs
    by_cases e : i < gone.length
    · rw [List.getElem?_append_left e] at hs
      rw [List.take_append_of_le_length (by omega)]
      exact ih i s e hs
    · have hl : i = gone.length := by simp at hi; omega
      subst hl
      obtain rfl : x.nm = s := by simpa using hs
      rw [List.take_left, hidx]
      exact ⟨by omega, hm, hc⟩
theorem goes_fits {b : Bk} (hok : BookOk b) {ss : List ByteArray} (h : Goes b.bs b.bs.length ss) : Fits b ss := ⟨hok, h.length, goes_fitsTo hok h⟩
/-- Where an order fits, the greedy one finds somebody at each step. -/
theorem fits_next {b : Bk} {order gone : List ByteArray} {n : Nat} (hf : Fits b order) (hg : Goes b.bs n gone) (hn : n < b.bs.length) : ∃ k, k < b.bs.length ∧ Good b.bs gone k := by
  obtain ⟨hok, hl, hft⟩ := hf
  have hd : ∀ (i : Nat) (s : ByteArray), order[i]? = some s → memS (order.take i) s = false := fun i s hs => (hft i s (List.getElem?_eq_some_iff.1 hs).1 hs).2.1
  have hex : ∃ i : Nat, ∃ s, order[i]? = some s ∧ memS gone s = false := by
    refine Classical.byContradiction fun hno => ?_
    have hall : ∀ s ∈ order, s ∈ gone := fun s hs => by
      obtain ⟨i, hi, rfl⟩ := List.getElem_of_mem hs
      refine (memS_iff _ _).1 ?_
      cases hc : memS gone order[i]
      · exact absurd ⟨i, order[i], List.getElem?_eq_getElem hi, hc⟩ hno
      · rfl
    have := short_of order gone (diff_of hd) hall
    have := hg.length
    omega
  obtain ⟨i, hi⟩ := hex
  obtain ⟨j, ⟨s, hs, hms⟩, hmin⟩ : ∃ j : Nat, (∃ s, order[j]? = some s ∧ memS gone s = false) ∧ ∀ m : Nat, m < j → ¬ ∃ s, order[m]? = some s ∧ memS gone s = false := by
    have : ∀ n : Nat, ∀ i : Nat, i < n → (∃ s, order[i]? = some s ∧ memS gone s = false) → ∃ j : Nat, (∃ s, order[j]? = some s ∧ memS gone s = false) ∧ ∀ m : Nat, m < j → ¬ ∃ s, order[m]? = some s ∧ memS gone s = false := by
      intro n
      induction n with
      | zero => intro i hi; omega
      | succ n ih =>
        intro i hi hp
        by_cases hq : ∃ m, m < i ∧ ∃ s, order[m]? = some s ∧ memS gone s = false
        · obtain ⟨m, hm, hs⟩ := hq
          exact ih m (by omega) hs
        · exact ⟨i, hp, fun m hm hs => hq ⟨m, hm, hs⟩⟩
    exact this (i + 1) i (by omega) hi
  have hj := (List.getElem?_eq_some_iff.1 hs).1
  obtain ⟨h0, -, hc⟩ := hft j s hj hs
  obtain ⟨k, hk, hkl, hks⟩ := idxI_at h0
  rw [hk] at hc
  have hkb : k < b.bs.length := by rwa [nms_length] at hkl
  refine ⟨k, hkb, b.bs[k], List.getElem?_eq_getElem hkb, ?_, can_mono hc fun t ht => ?_⟩
  · rw [nms_get _ _ hkb] at hks
    rw [hks]; exact hms
  · obtain ⟨m, hm, hmt⟩ := List.mem_take_iff_getElem.1 ((memS_iff _ _).1 ht)
    have hm' := hmin m (by omega)
    cases hq : memS gone t
    · exact absurd ⟨t, by rw [List.getElem?_eq_getElem (by omega), hmt], hq⟩ hm'
    · rfl
theorem good_first {bs : List Ba} {gone : List ByteArray} {k : Nat} (hk : k < bs.length) (h : Good bs gone k) : ∃ (j : Nat) (x : Ba), NextIs bs gone (j : Int) ∧ bs[j]? = some x := by
  have : ∀ n, ∀ k, k < n → k < bs.length → Good bs gone k → ∃ (j : Nat) (x : Ba), NextIs bs gone (j : Int) ∧ bs[j]? = some x := by
    intro n
    induction n with
    | zero => intro k hk; omega
    | succ n ih =>
      intro k hk hkl hg
      by_cases hq : ∃ m, m < k ∧ Good bs gone m
      · obtain ⟨m, hm, hgm⟩ := hq
        exact ih m (by omega) (by omega) hgm
      · exact ⟨k, bs[k], .inr ⟨k, rfl, hkl, hg, fun m hm hgm => hq ⟨m, hm, hgm⟩⟩, List.getElem?_eq_getElem hkl⟩
  exact this (k + 1) k (by omega) hk h
theorem fits_goes {b : Bk} {order : List ByteArray} (hf : Fits b order) : ∃ ss, Goes b.bs b.bs.length ss := by
  have : ∀ n, n ≤ b.bs.length → ∃ ss, Goes b.bs n ss := by
    intro n
    induction n with
    | zero => exact fun _ => ⟨[], .none⟩
    | succ n ih =>
      intro hn
      obtain ⟨g, hg⟩ := ih (by omega)
      obtain ⟨k, hk, hgd⟩ := fits_next hf hg (by omega)
      obtain ⟨j, x, hj, hx⟩ := good_first hk hgd
      exact ⟨_, .more hg hj hx⟩
  exact this _ (Nat.le_refl _)
/-- Safe just if some order fits. -/
theorem order_iff {b : Bk} {ss : List ByteArray} {ok : Bool} (h : OrderIs b ss ok) : (ok = true ↔ ∃ order, Fits b order) := by
  constructor
  · rintro rfl
    rcases h with ⟨-, hok, hg⟩ | ⟨h0, _⟩
    · exact ⟨ss, goes_fits hok hg⟩
    · cases h0
  · rintro ⟨order, hf⟩
    obtain ⟨t, ht⟩ := fits_goes hf
    exact (h.uniq (.inl ⟨rfl, hf.1, ht⟩)).2
theorem order_fits {b : Bk} {ss : List ByteArray} (h : OrderIs b ss true) : Fits b ss := by
  rcases h with ⟨-, hok, hg⟩ | ⟨h0, _⟩
  · exact goes_fits hok hg
  · cases h0
/-- Some order that begins so fits. -/
def SomeFit (b : Bk) (gone : List ByteArray) : Prop := ∃ rest, Fits b (gone ++ rest)
theorem some_full {b : Bk} {gone : List ByteArray} (h : gone.length = b.bs.length) : SomeFit b gone ↔ Fits b gone := by
  constructor
  · rintro ⟨rest, hf⟩
    have := hf.2.1
    obtain rfl : rest = [] := List.eq_nil_of_length_eq_zero (by simp at this; omega)
    simpa using hf
  · exact fun h => ⟨[], by simpa using h⟩
theorem some_step {b : Bk} {gone : List ByteArray} (h : gone.length < b.bs.length) (hs : SomeFit b gone) : ∃ (k : Nat) (x : Ba), b.bs[k]? = some x ∧ memS gone x.nm = false ∧ SomeFit b (gone ++ [x.nm]) := by
  obtain ⟨rest, hf⟩ := hs
  have hl := hf.2.1
  cases rest with
  | nil => simp at hl; omega
  | cons s r =>
    obtain ⟨h0, h1, -⟩ := hf.2.2 gone.length s (by simp) (by simp)
    obtain ⟨k, -, hkl, hks⟩ := idxI_at h0
    have hkb : k < b.bs.length := by rwa [nms_length] at hkl
    rw [nms_get _ _ hkb] at hks
    refine ⟨k, b.bs[k], List.getElem?_eq_getElem hkb, ?_, r, ?_⟩
    · rw [hks]; simpa using h1
    · rw [hks]; simpa using hf
theorem some_of {b : Bk} {gone : List ByteArray} {s : ByteArray} (h : SomeFit b (gone ++ [s])) : SomeFit b gone := by
  obtain ⟨rest, hf⟩ := h
  exact ⟨s :: rest, by simpa using hf⟩
end Go.Proofs.YtkgbdjdgcacblaaGreatDoor

/- Books in plain: what is safe stays safe where somebody needs less, goes or comes. -/
namespace Go.Proofs.YtkgbdjdgcacblaaGreatDoor

/-- Somebody of this name can have all it needs, these being gone. -/
def CanN (bs : List Ba) (gone : List ByteArray) (s : ByteArray) : Prop := ∃ y, y ∈ bs ∧ y.nm = s ∧ ∀ x, x ∈ bs → x.nm ≠ s → x.nm ∉ gone → shareB x.has y.needs = false
def FitsL (bs : List Ba) : List ByteArray → List ByteArray → Prop
  | _, [] => True
  | gone, s :: r => s ∉ gone ∧ CanN bs gone s ∧ FitsL bs (gone ++ [s]) r
def CoverFit (bs : List Ba) (order : List ByteArray) : Prop := FitsL bs [] order ∧ ∀ x ∈ bs, x.nm ∈ order
theorem fitsL_iff (bs : List Ba) : ∀ (order gone : List ByteArray), FitsL bs gone order ↔ ∀ (i : Nat) (s : ByteArray), order[i]? = some s → s ∉ gone ++ order.take i ∧ CanN bs (gone ++ order.take i) s
  | [], gone => by simp [FitsL]
  | s :: r, gone => by
    rw [FitsL, fitsL_iff bs r (gone ++ [s])]
    constructor
    · rintro ⟨h1, h2, h3⟩ i t ht
      cases i with
      | zero =>
        obtain rfl : s = t := by simpa using ht
        simpa using ⟨h1, h2⟩
      | succ i =>
        have := h3 i t (by simpa using ht)
        simpa [List.append_assoc] using this
    · intro h
      have h0 := h 0 s (by simp)
      refine ⟨by simpa using h0.1, by simpa using h0.2, fun i t ht => ?_⟩
      have := h (i + 1) t (by simpa using ht)
      simpa [List.append_assoc] using this
theorem canN_iff {b : Bk} (hok : BookOk b) (gone : List ByteArray) (s : ByteArray) : (0 ≤ idxI (nms b.bs) s ∧ Can b.bs (idxI (nms b.bs) s).toNat gone) ↔ CanN b.bs gone s := by
  constructor
  · rintro ⟨h0, hc⟩
    obtain ⟨k, hk, hkl, hks⟩ := idxI_at h0
    have hkb : k < b.bs.length := by rwa [nms_length] at hkl
    rw [nms_get _ _ hkb] at hks
    rw [hk] at hc
    refine ⟨b.bs[k], List.getElem_mem hkb, hks, fun x hx hne hg => ?_⟩
    obtain ⟨i, hi, rfl⟩ := List.getElem_of_mem hx
    refine hc i _ _ hi ?_ (List.getElem?_eq_getElem hi) (List.getElem?_eq_getElem hkb) ((memS_no _ _).2 hg)
    rintro rfl
    exact hne hks
  · rintro ⟨y, hy, rfl, hc⟩
    obtain ⟨k, hk, rfl⟩ := List.getElem_of_mem hy
    have e := nm_at hok (List.getElem?_eq_getElem hk)
    rw [e]
    refine ⟨by omega, fun i x z hi hne hx hz hm => ?_⟩
    have hne : i ≠ k := by simpa using hne
    have hz : b.bs[k]? = some z := by simpa using hz
    rw [List.getElem?_eq_getElem hk] at hz
    obtain rfl := Option.some.inj hz
    refine hc x (List.mem_of_getElem? hx) (fun e2 => ?_) ((memS_no _ _).1 hm)
    have := nm_at hok hx
    rw [e2, e] at this
    omega
theorem fitsL_sub {bs : List Ba} : ∀ (order gone : List ByteArray), FitsL bs gone order → ∀ s ∈ order, ∃ y ∈ bs, y.nm = s
  | [], _, _, s, hs => by simp at hs
  | t :: r, gone, h, s, hs => by
    obtain ⟨-, ⟨y, hy, e, -⟩, h3⟩ := h
    rcases List.mem_cons.1 hs with rfl | hs
    · exact ⟨y, hy, e⟩
    · exact fitsL_sub r _ h3 s hs
theorem nms_diff {b : Bk} (hok : BookOk b) : ∀ (i j : Nat) (a : ByteArray), (nms b.bs)[i]? = some a → (nms b.bs)[j]? = some a → i = j := fun _ _ _ hi hj => asc_ne hok.2.2.2.1 hi hj
theorem fits_cover {b : Bk} {order : List ByteArray} : Fits b order ↔ BookOk b ∧ CoverFit b.bs order := by
  have hL : BookOk b → (FitsTo b.bs order order.length ↔ FitsL b.bs [] order) := fun hok => by
    rw [fitsL_iff]
    constructor
    · intro h i s hs
      obtain ⟨h0, hm, hc⟩ := h i s (List.getElem?_eq_some_iff.1 hs).1 hs
      exact ⟨by simpa using (memS_no _ _).1 hm, by simpa using (canN_iff hok _ _).1 ⟨h0, hc⟩⟩
    · intro h i s _ hs
      obtain ⟨h1, h2⟩ := h i s hs
      obtain ⟨h0, hc⟩ := (canN_iff hok _ _).2 h2
      exact ⟨h0, (memS_no _ _).2 (by simpa using h1), by simpa using hc⟩
  have hD : FitsL b.bs [] order → ∀ (i j : Nat) (a : ByteArray), order[i]? = some a → order[j]? = some a → i = j := fun h => by
    rw [fitsL_iff] at h
    exact diff_of fun i s hs => (memS_no _ _).2 (by simpa using (h i s hs).1)
  constructor
  · rintro ⟨hok, hl, hf⟩
    have hf := (hL hok).1 hf
    refine ⟨hok, hf, fun x hx => ?_⟩
    refine Classical.byContradiction fun hno => ?_
    have hall : ∀ s ∈ order ++ [x.nm], s ∈ nms b.bs := fun s hs => by
      rcases List.mem_append.1 hs with hs | hs
      · obtain ⟨y, hy, rfl⟩ := fitsL_sub _ _ hf s hs
        exact List.mem_map.2 ⟨y, hy, rfl⟩
      · obtain rfl : s = x.nm := by simpa using hs
        exact List.mem_map.2 ⟨x, hx, rfl⟩
    have hd : ∀ (i j : Nat) (a : ByteArray), (order ++ [x.nm])[i]? = some a → (order ++ [x.nm])[j]? = some a → i = j := fun i j a hi hj => by
      have key : ∀ i : Nat, (order ++ [x.nm])[i]? = some a → (i < order.length ∧ order[i]? = some a) ∨ (i = order.length ∧ a = x.nm) := fun i hi => by
        by_cases e : i < order.length
        · rw [List.getElem?_append_left e] at hi; exact .inl ⟨e, hi⟩
        · have hlt := (List.getElem?_eq_some_iff.1 hi).1
          simp at hlt
          obtain rfl : i = order.length := by omega
          exact .inr ⟨rfl, by simpa using hi.symm⟩
      rcases key i hi with ⟨_, h1⟩ | ⟨rfl, h1⟩ <;> rcases key j hj with ⟨_, h2⟩ | ⟨rfl, h2⟩
      · exact hD hf i j a h1 h2
      · subst h2; exact absurd (List.mem_of_getElem? h1) hno
      · subst h1; exact absurd (List.mem_of_getElem? h2) hno
      · rfl
    have := short_of _ _ hd hall
    rw [nms_length] at this
    simp at this
    omega
  · rintro ⟨hok, hf, hc⟩
    refine ⟨hok, ?_, (hL hok).2 hf⟩
    have h1 := short_of order (nms b.bs) (hD hf) fun s hs => by
      obtain ⟨y, hy, rfl⟩ := fitsL_sub _ _ hf s hs
      exact List.mem_map.2 ⟨y, hy, rfl⟩
    have h2 := short_of (nms b.bs) order (nms_diff hok) fun s hs => by
      obtain ⟨y, hy, rfl⟩ := List.mem_map.1 hs
      exact hc y hy
    rw [nms_length] at h1 h2
    omega
/-- Needing less, having less. -/
theorem fitsL_less {bs bs' : List Ba} (h1 : ∀ y ∈ bs, ∃ y' ∈ bs', y'.nm = y.nm ∧ ∀ s ∈ y'.needs, s ∈ y.needs) (h2 : ∀ x' ∈ bs', ∃ x ∈ bs, x.nm = x'.nm ∧ ∀ s ∈ x'.has, s ∈ x.has) : ∀ (order gone : List ByteArray), FitsL bs gone order → FitsL bs' gone order
  | [], _, _ => trivial
  | s :: r, gone, ⟨a, ⟨y, hy, e, hc⟩, c⟩ => by
    refine ⟨a, ?_, fitsL_less h1 h2 r _ c⟩
    obtain ⟨y', hy', e', hn⟩ := h1 y hy
    refine ⟨y', hy', e'.trans e, fun x' hx' hne hg => ?_⟩
    obtain ⟨x, hx, ex, hh⟩ := h2 x' hx'
    have := hc x hx (by rw [ex]; exact hne) (by rw [ex]; exact hg)
    rw [shareB_no] at this ⊢
    exact fun t ht ht' => this t (hh t ht) (hn t ht')
theorem cover_less {bs bs' : List Ba} {order : List ByteArray} (h1 : ∀ y ∈ bs, ∃ y' ∈ bs', y'.nm = y.nm ∧ ∀ s ∈ y'.needs, s ∈ y.needs) (h2 : ∀ x' ∈ bs', ∃ x ∈ bs, x.nm = x'.nm ∧ ∀ s ∈ x'.has, s ∈ x.has) (h : CoverFit bs order) : CoverFit bs' order :=
  ⟨fitsL_less h1 h2 _ _ h.1, fun x' hx' => by obtain ⟨x, hx, e, -⟩ := h2 x' hx'; rw [← e]; exact h.2 x hx⟩
/-- Somebody less. -/
theorem fitsL_out {bs bs' : List Ba} {nm : ByteArray} (hs : ∀ x, x ∈ bs' ↔ x ∈ bs ∧ x.nm ≠ nm) : ∀ (order gone gone' : List ByteArray), (∀ s, s ≠ nm → (s ∈ gone ↔ s ∈ gone')) → FitsL bs gone order → FitsL bs' gone' (order.filter fun s => decide (s ≠ nm))
  | [], _, _, _, _ => trivial
  | s :: r, gone, gone', hg, ⟨a, ⟨y, hy, e, hc⟩, c⟩ => by
    by_cases hn : s = nm
    · rw [List.filter_cons_of_neg (by simp [hn])]
      exact fitsL_out hs r _ gone' (fun t ht => by rw [← hg t ht]; simp; intro h; exact absurd (h.trans hn) ht) c
    · rw [List.filter_cons_of_pos (by simp [hn])]
      refine ⟨by rw [← hg s hn]; exact a, ⟨y, (hs y).2 ⟨hy, by rw [e]; exact hn⟩, e, fun x hx hne hgx => ?_⟩, fitsL_out hs r _ _ (fun t ht => by simp [hg t ht]) c⟩
      obtain ⟨hx, hxn⟩ := (hs x).1 hx
      exact hc x hx hne (by rw [hg _ hxn]; exact hgx)
theorem cover_out {bs bs' : List Ba} {nm : ByteArray} {order : List ByteArray} (hs : ∀ x, x ∈ bs' ↔ x ∈ bs ∧ x.nm ≠ nm) (h : CoverFit bs order) : CoverFit bs' (order.filter fun s => decide (s ≠ nm)) :=
  ⟨fitsL_out hs _ _ _ (fun _ _ => Iff.rfl) h.1, fun x hx => List.mem_filter.2 ⟨h.2 x ((hs x).1 hx).1, by simp [((hs x).1 hx).2]⟩⟩
/-- Somebody more, who has nothing: last. -/
theorem fitsL_in {bs bs' : List Ba} {z : Ba} (hz : z.has = []) (hs : ∀ x, x ∈ bs' ↔ x ∈ bs ∨ x = z) (hno : ∀ x ∈ bs, x.nm ≠ z.nm) : ∀ (order gone : List ByteArray), (∀ x ∈ bs, x.nm ∈ gone ++ order) → z.nm ∉ gone → FitsL bs gone order → FitsL bs' gone (order ++ [z.nm])
  | [], gone, hc, hg, _ => by
    refine ⟨hg, ⟨z, (hs z).2 (.inr rfl), rfl, fun x hx hne hx' => ?_⟩, trivial⟩
    rcases (hs x).1 hx with h | rfl
    · exact absurd (by simpa using hc x h) hx'
    · exact absurd rfl hne
  | s :: r, gone, hc, hg, ⟨a, ⟨y, hy, e, hk⟩, c⟩ => by
    refine ⟨a, ⟨y, (hs y).2 (.inl hy), e, fun x hx hne hx' => ?_⟩, fitsL_in hz hs hno r _ (fun x hx => by simpa [List.append_assoc] using hc x hx) ?_ c⟩
    · rcases (hs x).1 hx with h | rfl
      · exact hk x h hne hx'
      · rw [shareB_no, hz]; exact fun t ht => by simp at ht
    · intro h
      rcases List.mem_append.1 h with h | h
      · exact hg h
      · have : z.nm = s := by simpa using h
        exact hno y hy (e.trans this.symm)
theorem cover_in {bs bs' : List Ba} {z : Ba} {order : List ByteArray} (hz : z.has = []) (hs : ∀ x, x ∈ bs' ↔ x ∈ bs ∨ x = z) (hno : ∀ x ∈ bs, x.nm ≠ z.nm) (h : CoverFit bs order) : CoverFit bs' (order ++ [z.nm]) :=
  ⟨fitsL_in hz hs hno _ _ (fun x hx => by simpa using h.2 x hx) (by simp) h.1, fun x hx => by
    rcases (hs x).1 hx with h1 | rfl
    · exact List.mem_append_left _ (h.2 x h1)
    · simp⟩
end Go.Proofs.YtkgbdjdgcacblaaGreatDoor

/- Books in plain: ok and safe behind needing less, going and coming. -/
namespace Go.Proofs.YtkgbdjdgcacblaaGreatDoor

theorem asc_pw {l : List ByteArray} : Asc l ↔ l.Pairwise (fun a b => ltS a b = true) := by
  rw [List.pairwise_iff_getElem]
  constructor
  · intro h i j hi hj hij
    exact asc_lt h (j - i - 1) i _ _ (List.getElem?_eq_getElem hi) (by rw [show i + 1 + (j - i - 1) = j by omega]; exact List.getElem?_eq_getElem hj)
  · intro h i a b hi ha hb
    obtain ⟨h1, rfl⟩ := List.getElem?_eq_some_iff.1 ha
    obtain ⟨h2, rfl⟩ := List.getElem?_eq_some_iff.1 hb
    exact h i (i + 1) h1 h2 (by omega)
theorem names_all {l : List ByteArray} : Names l ↔ ∀ s ∈ l, nameB s = true :=
  ⟨fun h _ hs => names_mem h hs, fun h _ _ _ ha => h _ (List.mem_of_getElem? ha)⟩
theorem part_all {l all : List ByteArray} : Part l all ↔ ∀ s ∈ l, s ∈ all :=
  ⟨fun h _ hs => part_mem h hs, fun h _ _ _ ha => (memS_iff _ _).2 (h _ (List.mem_of_getElem? ha))⟩
theorem bas_all {things : List ByteArray} {bs : List Ba} : BasTo things bs bs.length ↔ ∀ x ∈ bs, BaOk things x := by
  constructor
  · intro h x hx
    obtain ⟨i, hi, rfl⟩ := List.getElem_of_mem hx
    exact h.at hi hi
  · exact fun h i x _ hx => h x (List.mem_of_getElem? hx)
theorem apart_pw {bs : List Ba} : Apart bs ↔ bs.Pairwise (fun y x => shareB x.has y.has = false) := by
  rw [List.pairwise_iff_getElem]
  constructor
  · exact fun h i j hi hj hij => h.at hj hij
  · intro h i j x y hji hi hx hy
    obtain ⟨h1, rfl⟩ := List.getElem?_eq_some_iff.1 hx
    obtain ⟨h2, rfl⟩ := List.getElem?_eq_some_iff.1 hy
    exact h j i h2 h1 hji
theorem out_sub2 {α : Type} (l : List α) (p : Nat) : (l.take p ++ l.drop (p + 1)).Sublist l := by
  have h : (l.take p ++ l.drop (p + 1)).Sublist (l.take p ++ l.drop p) := (List.Sublist.refl _).append (by
    rw [← List.drop_drop (i := 1) (j := p)]; exact List.drop_sublist _ _)
  rwa [List.take_append_drop] at h
theorem book_sub {b : Bk} {bs : List Ba} (h : BookOk b) (hs : bs.Sublist b.bs) : BookOk ⟨b.things, bs⟩ := by
  obtain ⟨h1, h2, h3, h4, h5, h6⟩ := h
  have hn : (nms bs).Sublist (nms b.bs) := hs.map _
  exact ⟨h1, by have := hs.length_le; show bs.length ≤ 5; omega, names_all.2 fun s hx => names_all.1 h3 s (hn.subset hx), asc_pw.2 ((asc_pw.1 h4).sublist hn), bas_all.2 fun x hx => bas_all.1 h5 x (hs.subset hx), apart_pw.2 ((apart_pw.1 h6).sublist hs)⟩
/-- Who goes: the others stay, each. -/
theorem out_mem {b : Bk} {nm : ByteArray} (hok : BookOk b) (hm : memS (nms b.bs) nm = true) (x : Ba) : x ∈ b.bs.take (plN b nm) ++ b.bs.drop (plN b nm + 1) ↔ x ∈ b.bs ∧ x.nm ≠ nm := by
  obtain ⟨hi, hpl⟩ := plN_lt hm
  have hnm : (b.bs[plN b nm]).nm = nm := by
    obtain ⟨k, hk, hkl, hks⟩ := idxI_at (l := nms b.bs) (s := nm) (by omega)
    have : k = plN b nm := by omega
    subst this
    rw [nms_get _ _ hpl] at hks
    exact hks
  have key : ∀ (i : Nat) (hi' : i < b.bs.length), (b.bs[i]).nm = nm → i = plN b nm := fun i hi' e => by
    have h1 := nm_at hok (List.getElem?_eq_getElem hi')
    rw [e, hi] at h1
    omega
  constructor
  · intro hx
    refine ⟨(out_sub2 _ _).subset hx, fun e => ?_⟩
    rcases List.mem_append.1 hx with h | h
    · obtain ⟨i, hi', rfl⟩ := List.mem_take_iff_getElem.1 h
      have := key i (by omega) e
      omega
    · obtain ⟨i, hi', rfl⟩ := List.getElem_of_mem h
      rw [List.getElem_drop] at e
      have := key _ _ e
      omega
  · rintro ⟨hx, hne⟩
    obtain ⟨i, hi', rfl⟩ := List.getElem_of_mem hx
    rcases Nat.lt_trichotomy i (plN b nm) with h | h | h
    · exact List.mem_append_left _ (List.mem_take_iff_getElem.2 ⟨i, by omega, rfl⟩)
    · subst h; exact absurd hnm hne
    · exact List.mem_append_right _ (List.mem_iff_getElem.2 ⟨i - (plN b nm + 1), by rw [List.length_drop]; omega, by rw [List.getElem_drop]; congr 1; omega⟩)
theorem fits_leave {b : Bk} {nm : ByteArray} {order : List ByteArray} (hm : memS (nms b.bs) nm = true) (hf : Fits b order) : ∃ o, Fits ⟨b.things, b.bs.take (plN b nm) ++ b.bs.drop (plN b nm + 1)⟩ o := by
  obtain ⟨hok, hc⟩ := fits_cover.1 hf
  exact ⟨_, fits_cover.2 ⟨book_sub hok (out_sub2 _ _), cover_out (out_mem hok hm) hc⟩⟩
theorem less_ok {b : Bk} {nm : ByteArray} {needs : List ByteArray} (hok : BookOk b) (hm : memS (nms b.bs) nm = true) (hp : PartOk needs (needsAt b nm)) : BookOk (chg b (plN b nm) (lessF needs)) ∧ ∀ order, CoverFit b.bs order → CoverFit (chg b (plN b nm) (lessF needs)).bs order := by
  obtain ⟨hi, hpl⟩ := plN_lt hm
  have hx := List.getElem?_eq_getElem hpl
  rw [needsAt_at hx] at hp
  rw [chg_at hx]
  obtain ⟨h1, h2, h3, h4, h5, h6⟩ := hok
  generalize hxe : b.bs[plN b nm] = x at *
  have hxm : x ∈ b.bs := List.mem_of_getElem? hx
  have hbx := bas_all.1 h5 x hxm
  have hne : nms (b.bs.set (plN b nm) (lessF needs x)) = nms b.bs := by
    rw [nms, nms, List.map_set]
    apply List.ext_getElem? fun i => ?_
    rw [List.getElem?_set]
    split
    · rename_i e
      subst e
      simp [hpl, hxe, lessF]
    · rfl
  have hall : ∀ (i : Nat) (z : Ba), (b.bs.set (plN b nm) (lessF needs x))[i]? = some z → ∃ y, b.bs[i]? = some y ∧ z.nm = y.nm ∧ (∀ s ∈ z.has, s ∈ y.has) ∧ ∀ s ∈ z.needs, s ∈ y.needs := fun i z hz => by
    rw [List.getElem?_set] at hz
    split at hz
    · rename_i e
      subst e
      obtain rfl : lessF needs x = z := by simpa [hpl] using hz
      exact ⟨x, hx, rfl, fun s hs => (List.mem_filter.1 hs).1, fun s hs => part_all.1 hp.1 s hs⟩
    · exact ⟨z, hz, rfl, fun _ h => h, fun _ h => h⟩
  refine ⟨⟨h1, by show (b.bs.set _ _).length ≤ 5; rw [List.length_set]; exact h2, by show Names (nms _); rw [hne]; exact h3, by show Asc (nms _); rw [hne]; exact h4, bas_all.2 fun z hz => ?_, fun i j z y hji hi' hz hy => ?_⟩, fun order hc => ?_⟩
  · rcases List.mem_or_eq_of_mem_set hz with h | rfl
    · exact bas_all.1 h5 z h
    · refine ⟨⟨part_all.2 fun s hs => part_all.1 hbx.1.1 s (part_all.1 hp.1 s hs), hp.2⟩, part_all.2 fun s hs => ?_, asc_pw.2 ((asc_pw.1 hbx.2.2).sublist (List.filter_sublist))⟩
      exact (memS_iff _ _).1 (List.mem_filter.1 hs).2
  · obtain ⟨z', hz', -, hzh, -⟩ := hall i z hz
    obtain ⟨y', hy', -, hyh, -⟩ := hall j y hy
    have h7 := h6 i j z' y' hji (by have hi' : i < (b.bs.set (plN b nm) (lessF needs x)).length ∨ _ := hi'; rw [List.length_set] at hi'; exact hi') hz' hy'
    rw [shareB_no] at h7 ⊢
    exact fun s hs hs' => h7 s (hzh s hs) (hyh s hs')
  · refine cover_less (fun y hy => ?_) (fun z hz => ?_) hc
    · obtain ⟨i, hi', rfl⟩ := List.getElem_of_mem hy
      have hlen : i < (b.bs.set (plN b nm) (lessF needs x)).length := by rw [List.length_set]; exact hi'
      obtain ⟨y, hy', h7, -, h8⟩ := hall i _ (List.getElem?_eq_getElem hlen)
      rw [List.getElem?_eq_getElem hi'] at hy'
      obtain rfl := Option.some.inj hy'
      exact ⟨_, List.getElem_mem hlen, h7, h8⟩
    · obtain ⟨i, hi', rfl⟩ := List.getElem_of_mem hz
      obtain ⟨y, hy', h7, h8, -⟩ := hall i _ (List.getElem?_eq_getElem hi')
      exact ⟨y, List.mem_of_getElem? hy', h7.symm, h8⟩
theorem ltS_total {a b : ByteArray} (h : ltS a b = false) (hne : a ≠ b) : ltS b a = true := by
  rw [ltS_iff]
  have h1 : ¬ a.toList < b.toList := by rw [← ltS_iff, h]; simp
  refine Classical.byContradiction fun h2 => hne (toL_eq ?_)
  exact List.le_antisymm (List.not_lt.1 h2) (List.not_lt.1 h1)
theorem tw_take {α : Type} (p : α → Bool) : ∀ l : List α, l.take (l.takeWhile p).length = l.takeWhile p
  | [] => rfl
  | x :: r => by
    rw [List.takeWhile_cons]
    split
    · simp [tw_take p r]
    · rfl
theorem tw_all {α : Type} (p : α → Bool) : ∀ (l : List α) (x : α), x ∈ l.takeWhile p → p x = true
  | [], x, h => by simp at h
  | y :: r, x, h => by
    rw [List.takeWhile_cons] at h
    cases hy : p y
    · rw [hy] at h; simp at h
    · rw [hy] at h
      rcases List.mem_cons.1 (by simpa using h) with rfl | h
      · exact hy
      · exact tw_all p r x h
theorem tw_drop {α : Type} (p : α → Bool) : ∀ l : List α, ∀ x r, l.drop (l.takeWhile p).length = x :: r → p x = false
  | [], x, r, h => by simp at h
  | y :: r, x, r', h => by
    rw [List.takeWhile_cons] at h
    cases hy : p y
    · rw [hy] at h
      simp at h
      rw [← h.1]; exact hy
    · rw [hy] at h
      simp at h
      exact tw_drop p r x r' h
theorem enter_ok {b : Bk} {nm : ByteArray} {needs : List ByteArray} (hok : BookOk b) (hn : nameB nm = true) (hp : PartOk needs b.things) (hm : memS (nms b.bs) nm = false) (h5 : b.bs.length < 5) : BookOk ⟨b.things, b.bs.take (inN b nm) ++ ⟨nm, [], needs⟩ :: b.bs.drop (inN b nm)⟩ := by
  obtain ⟨g1, g2, g3, g4, g5, g6⟩ := hok
  have hnot : ∀ x ∈ b.bs, x.nm ≠ nm := fun x hx e => (memS_no _ _).1 hm (by rw [← e]; exact List.mem_map.2 ⟨x, hx, rfl⟩)
  have hmem : ∀ x : Ba, x ∈ b.bs.take (inN b nm) ++ (⟨nm, [], needs⟩ : Ba) :: b.bs.drop (inN b nm) → x ∈ b.bs ∨ x = ⟨nm, [], needs⟩ := fun x hx => by
    rcases List.mem_append.1 hx with h | h
    · exact .inl (List.mem_of_mem_take h)
    · rcases List.mem_cons.1 h with h | h
      · exact .inr h
      · exact .inl (List.mem_of_mem_drop h)
  have hlow : ∀ x ∈ b.bs.take (inN b nm), ltS x.nm nm = true := fun x hx => by
    rw [inN, tw_take] at hx
    exact tw_all _ _ x hx
  have hsp : (b.bs.take (inN b nm) ++ b.bs.drop (inN b nm)).Pairwise (fun a c => ltS a.nm c.nm = true) := by
    rw [List.take_append_drop]
    have := asc_pw.1 g4
    rwa [nms, List.pairwise_map] at this
  obtain ⟨p1, p2, p3⟩ := List.pairwise_append.1 hsp
  have hhigh : ∀ x ∈ b.bs.drop (inN b nm), ltS nm x.nm = true := by
    cases hd : b.bs.drop (inN b nm) with
    | nil => intro x hx; simp at hx
    | cons y r =>
      have hy : ltS y.nm nm = false := tw_drop (fun x : Ba => ltS x.nm nm) b.bs y r hd
      have hym : y ∈ b.bs := List.mem_of_mem_drop (by rw [hd]; exact List.mem_cons_self)
      have h0 := ltS_total hy (hnot y hym)
      rw [hd] at p2
      intro x hx
      rcases List.mem_cons.1 hx with rfl | hx
      · exact h0
      · exact ltS_trans h0 ((List.pairwise_cons.1 p2).1 x hx)
  refine ⟨g1, ?_, names_all.2 fun s hs => ?_, asc_pw.2 ?_, bas_all.2 fun x hx => ?_, apart_pw.2 ?_⟩
  · show List.length (_ ++ _ :: _) ≤ 5
    rw [List.length_append, List.length_cons, List.length_take, List.length_drop]; omega
  · obtain ⟨x, hx, rfl⟩ := List.mem_map.1 hs
    rcases hmem x hx with h | rfl
    · exact names_all.1 g3 _ (List.mem_map.2 ⟨x, h, rfl⟩)
    · exact hn
  · show (nms (_ ++ _ :: _)).Pairwise _
    rw [nms, List.pairwise_map, List.pairwise_append, List.pairwise_cons]
    refine ⟨p1, ⟨hhigh, p2⟩, fun x hx y hy => ?_⟩
    rcases List.mem_cons.1 hy with rfl | hy
    · exact hlow x hx
    · exact p3 x hx y hy
  · rcases hmem x hx with h | rfl
    · exact bas_all.1 g5 x h
    · exact ⟨hp, part_all.2 fun s hs => by simp at hs, asc_pw.2 List.Pairwise.nil⟩
  · have h8 := apart_pw.1 g6
    rw [← List.take_append_drop (inN b nm) b.bs, List.pairwise_append] at h8
    show (_ ++ _ :: _).Pairwise _
    rw [List.pairwise_append, List.pairwise_cons]
    refine ⟨h8.1, ⟨fun x _ => ?_, h8.2.1⟩, fun x hx y hy => ?_⟩
    · rw [shareB_no]; exact fun s _ hs => by simp at hs
    · rcases List.mem_cons.1 hy with rfl | hy
      · rw [shareB_no]; exact fun s hs => by simp at hs
      · exact h8.2.2 x hx y hy
theorem in_mem {b : Bk} {z : Ba} {k : Nat} (x : Ba) : x ∈ b.bs.take k ++ z :: b.bs.drop k ↔ x ∈ b.bs ∨ x = z := by
  rw [List.mem_append, List.mem_cons]
  conv => rhs; rw [← List.take_append_drop k b.bs, List.mem_append]
  constructor
  · rintro (h | h | h)
    · exact .inl (.inl h)
    · exact .inr h
    · exact .inl (.inr h)
  · rintro ((h | h) | h)
    · exact .inl h
    · exact .inr (.inr h)
    · exact .inr (.inl h)
/-- What needing less does: what is safe stays so. -/
theorem safe_less {b : Bk} {nm : ByteArray} {needs ss ss' : List ByteArray} {ok' : Bool} (hc : lsnC b nm needs = 0) (h : OrderIs b ss true) (h' : OrderIs (lsnB b nm needs) ss' ok') : ok' = true := by
  obtain ⟨order, hf⟩ := (order_iff h).1 rfl
  obtain ⟨hok, hcv⟩ := fits_cover.1 hf
  cases hm : memS (nms b.bs) nm
  · rw [(less_none (pB_yes hok) hm).1] at hc; omega
  cases hp : pB (PartOk needs (needsAt b nm))
  · rw [(less_two (pB_yes hok) hm hp).1] at hc; omega
  rw [(less_yes (pB_yes hok) hm hp).2] at h'
  obtain ⟨k1, k2⟩ := less_ok hok hm (pB_iff.1 hp)
  exact (order_iff h').2 ⟨order, fits_cover.2 ⟨k1, k2 order hcv⟩⟩
theorem less_stays {b : Bk} {nm : ByteArray} {needs : List ByteArray} (hc : 1 < lsnC b nm needs) : lsnB b nm needs = b := by
  cases hb : bookB b
  · rw [(less_no hb).1] at hc; omega
  cases hm : memS (nms b.bs) nm
  · exact (less_none hb hm).2
  cases hp : pB (PartOk needs (needsAt b nm))
  · exact (less_two hb hm hp).2
  · rw [(less_yes hb hm hp).1] at hc; omega
theorem safe_leave {b : Bk} {nm : ByteArray} {ss ss' : List ByteArray} {ok' : Bool} (hc : leaveC b nm = 0) (h : OrderIs b ss true) (h' : OrderIs (leaveB b nm) ss' ok') : ok' = true := by
  obtain ⟨order, hf⟩ := (order_iff h).1 rfl
  have hok := hf.1
  cases hm : memS (nms b.bs) nm
  · rw [(leave_none (pB_yes hok) hm).1] at hc; omega
  rw [(leave_yes (pB_yes hok) hm).2] at h'
  exact (order_iff h').2 (fits_leave hm hf)
theorem leave_less {b : Bk} {nm : ByteArray} (hc : leaveC b nm = 0) : (leaveB b nm).bs.length + 1 = b.bs.length := by
  cases hb : bookB b
  · rw [(leave_no hb).1] at hc; omega
  cases hm : memS (nms b.bs) nm
  · rw [(leave_none hb hm).1] at hc; omega
  rw [(leave_yes hb hm).2]
  have := (plN_lt hm).2
  show List.length (_ ++ _) + 1 = _
  rw [List.length_append, List.length_take, List.length_drop]; omega
theorem safe_enter {b : Bk} {nm : ByteArray} {needs ss ss' : List ByteArray} {ok ok' : Bool} (hc : enterC b nm needs = 0) (h : OrderIs b ss ok) (h' : OrderIs (enterB b nm needs) ss' ok') : ok' = ok ∧ (enterB b nm needs).bs.length = b.bs.length + 1 := by
  cases hb : bookB b
  · rw [(enter_no hb).1] at hc; omega
  cases h2 : (nameB nm && pB (PartOk needs b.things))
  · rw [(enter_two hb h2).1] at hc; omega
  have h3 : memS (nms b.bs) nm = false := by
    cases h3 : memS (nms b.bs) nm
    · rfl
    · rw [(enter_three hb h2 h3).1] at hc; omega
  by_cases h4 : 5 ≤ b.bs.length
  · rw [(enter_four hb h2 h3 h4).1] at hc; omega
  rw [(enter_yes hb h2 h3 h4).2] at h' ⊢
  have hok := book_ok hb
  rw [Bool.and_eq_true] at h2
  have hok' := enter_ok hok h2.1 (pB_iff.1 h2.2) h3 (by omega)
  have hnot : ∀ x ∈ b.bs, x.nm ≠ nm := fun x hx e => (memS_no _ _).1 h3 (by rw [← e]; exact List.mem_map.2 ⟨x, hx, rfl⟩)
  refine ⟨?_, by show List.length (_ ++ _ :: _) = _; rw [List.length_append, List.length_cons, List.length_take, List.length_drop]; omega⟩
  rw [Bool.eq_iff_iff, order_iff h, order_iff h']
  constructor
  · rintro ⟨o, hf⟩
    obtain ⟨-, hcv⟩ := fits_cover.1 hf
    refine ⟨_, fits_cover.2 ⟨hok, cover_out (nm := nm) (fun x => ?_) hcv⟩⟩
    rw [in_mem]
    constructor
    · exact fun hx => ⟨.inl hx, hnot x hx⟩
    · rintro ⟨hx | rfl, hne⟩
      · exact hx
      · exact absurd rfl hne
  · rintro ⟨o, hf⟩
    obtain ⟨-, hcv⟩ := fits_cover.1 hf
    exact ⟨_, fits_cover.2 ⟨hok', cover_in (z := ⟨nm, [], needs⟩) rfl (fun x => in_mem x) hnot hcv⟩⟩
theorem enter_stays {b : Bk} {nm : ByteArray} {needs : List ByteArray} (hc : 1 < enterC b nm needs) : enterB b nm needs = b := by
  cases hb : bookB b
  · rw [(enter_no hb).1] at hc; omega
  rw [enterB, hb, if_neg (by simp), if_neg (by omega)]
end Go.Proofs.YtkgbdjdgcacblaaGreatDoor

/- A code that can be read, opened. -/
namespace Go.Proofs.YtkgbdjdgcacblaaGreatDoor
open Go.ChangeShapes Go.WideShapes Go.ChangeAt Go.RowKit

theorem cellsByte : Tryz.prog.cellsOf 5 = 1 := by kernel_rfl
theorem bytes_of_trod {H : Type} {enc : TypeId × Value → H} {W : World} {base : Nat} {sp : Nat → Bool} {held : Bool} {v : Value} {d : DataW H} {p : List MemPlace} (hv : ∃ a l c, v = .slice a l c)
    (h : DataW.Trod enc Tryz.prog W base sp held 22 v d p) : ∃ (a : Option Addr) (l c : Nat), v = .slice a l c ∧ BytesAt W W.heap.size (.slice a l c) l ∧ l ≤ c ∧ c ≤ maxLen := by
  obtain ⟨a0, l0, k0, rfl⟩ := hv
  obtain ⟨fuel, hf⟩ := h
  rcases open_ints Tryz.underlying22 Tryz.underlying5 cellsByte hf with ⟨hcs, _⟩ | ⟨a, len, cap, zs, hcs, _, hl, hm, hz, _, hcell, hwf⟩
  · have : Value.slice a0 l0 k0 = .slice none 0 0 := by simpa [Value.cells] using hcs
    rw [this]
    exact ⟨none, 0, 0, rfl, ⟨none, 0, rfl, .inl rfl⟩, Nat.le_refl _, Nat.zero_le _⟩
  · have : Value.slice a0 l0 k0 = .slice (some a) len cap := by simpa [Value.cells] using hcs
    rw [this]
    refine ⟨some a, len, cap, rfl, ⟨some a, cap, rfl, ?_⟩, hl, hm⟩
    rcases Nat.eq_zero_or_pos len with h0 | h0
    · exact .inl h0
    · have hlz : len ≤ zs.length := by rw [hz]; split <;> omega
      obtain ⟨b, o, spot⟩ := a
      have c0 := hcell 0 (by omega)
      have hs : spot = none := by simpa [Addr.add] using World.cell?_spot c0
      subst hs
      refine .inr ⟨b, o, fun i => zs.getD i 0, rfl, World.block_lt_of_cell? W _ c0, fun i hi => ⟨?_, ?_⟩⟩
      · have := hcell i (by omega)
        rwa [Addr.add_mid] at this
      · have := range_u8 hwf i
        simpa [List.getD_eq_getElem?_getD] using this
end Go.Proofs.YtkgbdjdgcacblaaGreatDoor
