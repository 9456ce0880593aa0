/- Books in plain: bits of things; who can have all it needs, orders that fit. -/
import Derived.Test.YtkapodkidlgkjafKb2
namespace Go.Proofs.Ytkapodkidlgkjaf

/-- The sum of the bits of those things that are picked. -/
def bitsN : List ByteArray → (ByteArray → Bool) → Nat
  | [], _ => 0
  | t :: r, P => (if P t = true then 1 else 0) + 2 * bitsN r P
theorem bitsN_snoc (P : ByteArray → Bool) (t : ByteArray) : ∀ l : List ByteArray, bitsN (l ++ [t]) P = bitsN l P + (if P t = true then 2 ^ l.length else 0)
  | [] => by simp [bitsN]
  | x :: r => by
    rw [List.cons_append, bitsN, bitsN, bitsN_snoc P t r, List.length_cons, Nat.pow_succ]
    split <;> split <;> omega
theorem bitsN_lt (P : ByteArray → Bool) : ∀ l : List ByteArray, bitsN l P < 2 ^ l.length
  | [] => by simp [bitsN]
  | x :: r => by
    have := bitsN_lt P r
    rw [bitsN, List.length_cons, Nat.pow_succ]
    split <;> omega
theorem bitsN_small {l : List ByteArray} (h : l.length ≤ 8) (P : ByteArray → Bool) : bitsN l P < 256 :=
  Nat.lt_of_lt_of_le (bitsN_lt P l) (Nat.pow_le_pow_right (by omega) h)
theorem bitsN_congr {P Q : ByteArray → Bool} : ∀ {l : List ByteArray}, (∀ t ∈ l, P t = Q t) → bitsN l P = bitsN l Q
  | [], _ => rfl
  | x :: r, h => by rw [bitsN, bitsN, h x (by simp), bitsN_congr fun t ht => h t (by simp [ht])]
theorem bitsN_add {P Q : ByteArray → Bool} : ∀ {l : List ByteArray}, (∀ t ∈ l, P t = true → Q t = false) → bitsN l P + bitsN l Q = bitsN l fun t => P t || Q t
  | [], _ => rfl
  | x :: r, h => by
    have h1 := bitsN_add (P := P) (Q := Q) (l := r) fun t ht => h t (by simp [ht])
    have h2 := h x (by simp)
    rw [bitsN, bitsN, bitsN, ← h1]
    cases hp : P x <;> cases hq : Q x <;> simp_all <;> omega
theorem bitsN_sub {P Q : ByteArray → Bool} {l : List ByteArray} (h : ∀ t ∈ l, Q t = true → P t = true) : bitsN l P = bitsN l Q + bitsN l fun t => P t && !Q t := by
  rw [bitsN_add (fun t _ hq => by simp [hq])]
  refine bitsN_congr fun t ht => ?_
  cases hq : Q t
  · simp
  · simp [h t ht hq]
theorem bitsN_test (P : ByteArray → Bool) : ∀ (l : List ByteArray) (i : Nat), (bitsN l P).testBit i = (l[i]?.map P).getD false
  | [], i => by simp [bitsN]
  | x :: r, 0 => by
    rw [bitsN, Nat.testBit_zero]
    have e : ((if P x = true then 1 else 0) + 2 * bitsN r P) % 2 = (if P x = true then 1 else 0) := by split <;> omega
    rw [e]
    cases h : P x <;> simp [h]
  | x :: r, i + 1 => by
    rw [bitsN, Nat.testBit_succ, List.getElem?_cons_succ, ← bitsN_test P r i]
    congr 1
    split <;> omega
/-- Nothing that is needed lacks. -/
theorem bitsN_not {P Q : ByteArray → Bool} {l : List ByteArray} (hl : l.length ≤ 8) : (bitsN l P &&& (18446744073709551615 - bitsN l Q) = 0) ↔ ∀ t ∈ l, P t = true → Q t = true := by
  have hQ := bitsN_small hl Q
  have e : 18446744073709551615 - bitsN l Q = 2 ^ 64 - (bitsN l Q + 1) := by omega
  constructor
  · intro h t ht hp
    obtain ⟨i, hi, rfl⟩ := List.getElem_of_mem ht
    have h1 := congrArg (Nat.testBit · i) h
    simp only [Nat.testBit_and, Nat.zero_testBit] at h1
    rw [e, Nat.testBit_two_pow_sub_succ (by omega), bitsN_test, bitsN_test, List.getElem?_eq_getElem hi] at h1
    simp [hp] at h1
    exact h1 (by omega)
  · intro h
    refine Nat.eq_of_testBit_eq fun i => ?_
    rw [Nat.testBit_and, Nat.zero_testBit, e, Nat.testBit_two_pow_sub_succ (by omega), bitsN_test, bitsN_test]
    rcases Nat.lt_or_ge i l.length with hi | hi
    · rw [List.getElem?_eq_getElem hi]
      have := h l[i] (List.getElem_mem hi)
      cases hp : P l[i] <;> simp_all
    · rw [List.getElem?_eq_none hi]; simp

/-- Of the batches that are not gone, up to place k, none but the one at place 'at' has anything of its needs. -/
def CanTo (bs : List Ba) (at' : Nat) (gone : List ByteArray) (k : Nat) : Prop := ∀ (i : Nat) (x y : Ba), i < k → i ≠ at' → bs[i]? = some x → bs[at']? = some y → memS gone x.nm = false → shareB x.has y.needs = false
def Can (bs : List Ba) (at' : Nat) (gone : List ByteArray) : Prop := CanTo bs at' gone bs.length
theorem CanTo.zero (bs : List Ba) (a : Nat) (gone : List ByteArray) : CanTo bs a gone 0 := fun i _ _ h => by omega
theorem can_end {bs : List Ba} {a : Nat} {gone : List ByteArray} {k : Nat} (h : CanTo bs a gone k) (hk : ¬ k < bs.length) : Can bs a gone := fun i x y hi hne hx hy hm => h i x y (by omega) hne hx hy hm
theorem CanTo.step {bs : List Ba} {a : Nat} {gone : List ByteArray} {k : Nat} (h : CanTo bs a gone k) (hk : k < bs.length) (ha : a < bs.length) (h1 : k = a ∨ memS gone (bs[k]).nm = true ∨ shareB (bs[k]).has (bs[a]).needs = false) : CanTo bs a gone (k + 1) := fun i x y hi hne hx hy hm => by
  by_cases e : i = k
  · subst e
    rw [List.getElem?_eq_getElem hk] at hx
    rw [List.getElem?_eq_getElem ha] at hy
    obtain rfl := Option.some.inj hx
    obtain rfl := Option.some.inj hy
    rcases h1 with h1 | h1 | h1
    · exact absurd h1 hne
    · rw [hm] at h1; cases h1
    · exact h1
  · exact h i x y (by omega) hne hx hy hm
theorem can_no {bs : List Ba} {a : Nat} {gone : List ByteArray} {k : Nat} (hk : k < bs.length) (ha : a < bs.length) (hne : k ≠ a) (hm : memS gone (bs[k]).nm = false) (hs : shareB (bs[k]).has (bs[a]).needs = true) : ¬ Can bs a gone := fun h => by
  have := h k _ _ hk hne (List.getElem?_eq_getElem hk) (List.getElem?_eq_getElem ha) hm
  rw [hs] at this; cases this
/-- A thing that nobody has who is not gone. -/
def freeB (bs : List Ba) (G : Nat → Bool) (k : Nat) (t : ByteArray) : Bool := (List.range k).all fun i => G i || !((bs[i]?.map fun x => memS x.has t).getD false)
theorem freeB_iff (bs : List Ba) (G : Nat → Bool) (k : Nat) (t : ByteArray) : freeB bs G k t = true ↔ ∀ (i : Nat) (x : Ba), i < k → bs[i]? = some x → G i = false → memS x.has t = false := by
  simp only [freeB, List.all_eq_true, List.mem_range]
  constructor
  · intro h i x hi hx hg
    have := h i hi
    rw [hx, hg] at this
    simpa using this
  · intro h i hi
    cases hg : G i
    · cases hx : bs[i]? with
      | none => simp
      | some x => simp [h i x hi hx hg]
    · rfl
theorem freeB_succ (bs : List Ba) (G : Nat → Bool) (k : Nat) (t : ByteArray) : freeB bs G (k + 1) t = (freeB bs G k t && (G k || !((bs[k]?.map fun x => memS x.has t).getD false))) := by
  simp [freeB, List.range_succ]
/-- Who can have all it needs, by bits. -/
theorem can_bits {b : Bk} (hok : BookOk b) {a : Nat} (ha : a < b.bs.length) {gone : List ByteArray} {G : Nat → Bool} (hG : ∀ (i : Nat) (hi : i < b.bs.length), G i = memS gone (b.bs[i]).nm) (hga : G a = false) :
    (∀ t ∈ b.things, memS (b.bs[a]).needs t = true → (freeB b.bs G b.bs.length t || memS (b.bs[a]).has t) = true) ↔ Can b.bs a gone := by
  have hb := hok.2.2.2.2.1.at ha ha
  constructor
  · intro h i x y hi hne hx hy hm
    rw [List.getElem?_eq_getElem hi] at hx
    rw [List.getElem?_eq_getElem ha] at hy
    obtain rfl := Option.some.inj hx
    obtain rfl := Option.some.inj hy
    rw [shareB_no]
    intro s h1 h2
    have h3 := h s (part_mem hb.1.1 h2) ((memS_iff _ _).2 h2)
    rcases Bool.or_eq_true_iff.1 h3 with h4 | h4
    · have := (freeB_iff _ _ _ _).1 h4 i _ hi (List.getElem?_eq_getElem hi) (by rw [hG i hi]; exact hm)
      rw [memS_no] at this
      exact this h1
    · have h5 := (memS_iff _ _).1 h4
      rcases Nat.lt_or_gt_of_ne hne with h6 | h6
      · have := hok.2.2.2.2.2.at ha h6
        rw [shareB_no] at this
        exact this s h5 h1
      · have := hok.2.2.2.2.2.at hi h6
        rw [shareB_no] at this
        exact this s h1 h5
  · intro h t ht hn
    cases hh : memS (b.bs[a]).has t
    · rw [Bool.or_false, freeB_iff]
      intro i x hi hx hg
      rw [List.getElem?_eq_getElem hi] at hx
      obtain rfl := Option.some.inj hx
      by_cases e : i = a
      · subst e; exact hh
      · have := h i _ _ hi e (List.getElem?_eq_getElem hi) (List.getElem?_eq_getElem ha) (by rw [← hG i hi]; exact hg)
        rw [shareB_no] at this
        rw [memS_no]
        exact fun h1 => this t h1 ((memS_iff _ _).1 hn)
    · simp
/-- An order fits up to place k. -/
def FitsTo (bs : List Ba) (order : List ByteArray) (k : Nat) : Prop := ∀ (i : Nat) (s : ByteArray), i < k → order[i]? = some s → 0 ≤ idxI (nms bs) s ∧ memS (order.take i) s = false ∧ Can bs (idxI (nms bs) s).toNat (order.take i)
def Fits (b : Bk) (order : List ByteArray) : Prop := BookOk b ∧ order.length = b.bs.length ∧ FitsTo b.bs order order.length
theorem FitsTo.zero (bs : List Ba) (order : List ByteArray) : FitsTo bs order 0 := fun i _ h => by omega
theorem FitsTo.step {bs : List Ba} {order : List ByteArray} {k : Nat} (h : FitsTo bs order k) (hk : k < order.length) (h1 : 0 ≤ idxI (nms bs) order[k] ∧ memS (order.take k) order[k] = false ∧ Can bs (idxI (nms bs) order[k]).toNat (order.take k)) : FitsTo bs order (k + 1) := fun i s hi hs => by
  by_cases e : i = k
  · subst e
    rw [List.getElem?_eq_getElem hk] at hs
    obtain rfl := Option.some.inj hs
    exact h1
  · exact h i s (by omega) hs
theorem fits_at {b : Bk} {order : List ByteArray} (h : Fits b order) {k : Nat} (hk : k < order.length) : 0 ≤ idxI (nms b.bs) order[k] ∧ memS (order.take k) order[k] = false ∧ Can b.bs (idxI (nms b.bs) order[k]).toNat (order.take k) := h.2.2 k _ hk (List.getElem?_eq_getElem hk)
theorem fits_end {b : Bk} {order : List ByteArray} {k : Nat} (hok : BookOk b) (hl : order.length = b.bs.length) (h : FitsTo b.bs order k) (hk : ¬ k < order.length) : Fits b order := ⟨hok, hl, fun i s hi hs => h i s (by omega) hs⟩
theorem idxI_at {l : List ByteArray} {s : ByteArray} (h : 0 ≤ idxI l s) : ∃ k : Nat, idxI l s = (k : Int) ∧ ∃ hk : k < l.length, l[k] = s := by
  rw [idxI] at h ⊢
  split at h
  · rename_i hm
    rw [if_pos hm]
    refine ⟨_, rfl, ?_⟩
    have hl : l.findIdx (fun x => x.toList == s.toList) < l.length := by
      rw [List.findIdx_lt_length]
      rw [memS, List.any_eq_true] at hm
      exact hm
    refine ⟨hl, ?_⟩
    have := List.findIdx_getElem (w := hl)
    exact toL_eq (by simpa using this)
  · omega
end Go.Proofs.Ytkapodkidlgkjaf
