/- The program's walks over books (chapter 11): ok or not, who has what. -/
import Derived.Test.YtialglmnfchfmadGreatDoorJ2
namespace Go.Proofs.YtialglmnfchfmadGreatDoor
open Go.RowKit Go.Maps

theorem bas_has {things : List ByteArray} {bs : List Ba} (h8 : things.length ≤ 8) (h : BasTo things bs bs.length) : ∀ x ∈ bs, Asc x.has ∧ x.has.length ≤ 8 := fun x hx => by
  obtain ⟨i, hi, rfl⟩ := List.getElem_of_mem hx
  obtain ⟨h1, h2⟩ := h.at hi hi
  have e1 := part_short h1
  have e2 := part_short h2
  exact ⟨h2.2, by omega⟩

set_option maxHeartbeats 2000000 in
theorem bookOk_any (b : Bk) (v : Value) (w : World) (h : BkV w v b) :
    Calls Tryz.prog 45 #[v] w fun e w' => e = .returned (.bool (bookB b)) ∧ Below w.heap.size w w' := by
  obtain ⟨a1, c1, a2, c2, rfl, h1, h2⟩ := h.parts
  have hC : CB (w.alloc (.cells #[.slice a1 (b).things.length c1, .slice a2 (b).bs.length c2] 30)) w.heap.size [.slice a1 b.things.length c1, .slice a2 b.bs.length c2] := cb_alloc w _ _
  have hB0 := (Below.refl w.heap.size w).alloc (Nat.le_refl _) (.cells #[.slice a1 (b).things.length c1, .slice a2 (b).bs.length c2] 30)
  have g1 := h1.inv.1
  have g2 := h2.at.1
  unfold maxLen at g1 g2
  go_enter Tryz.func45, Tryz.ntmps45
  go_upto_region 1 with fail
  generalize w.alloc (.cells #[.slice a1 (b).things.length c1, .slice a2 (b).bs.length c2] 30) = W1 at *
  have l1 := h1.up hB0
  have l2 := h2.up hB0
  obtain ⟨e0, e1⟩ := hC.c2'
  have hlt := hC.2.2
  clear h h1 h2
  by_cases h8 : 8 < b.things.length
  · have Hq : Hid (bookB b = false) := pB_no fun h => by have := h.1.1; omega
    go_wp2_with fail
    go_ret
    exact ⟨ret_bool Hq.out.symm, hB0⟩
  by_cases h5 : 5 < b.bs.length
  · have Hq : Hid (bookB b = false) := pB_no fun h => by have := h.2.1; omega
    go_wp2_with fail
    go_ret
    exact ⟨ret_bool Hq.out.symm, hB0⟩
  cases ho : pB (Names b.things ∧ Asc b.things)
  · have Hq : Hid (bookB b = false) := pB_no fun h => pB_not.1 ho ⟨h.1.2.1, h.1.2.2⟩
    go_wp2_with fail
    refine (ordered_any b.things _ _ l1).mono ?_
    rintro e w2 ⟨rfl, hB⟩
    rw [ho]
    go_wp2_with fail
    go_ret
    exact ⟨ret_bool Hq.out.symm, up_trans hB0 hB⟩
  have Ho : Hid (ThingsOk b.things) := ⟨by omega, (pB_iff.1 ho).1, (pB_iff.1 ho).2⟩
  go_wp2_with fail
  refine (ordered_any b.things _ _ l1).mono ?_
  rintro e w2 ⟨rfl, hb2⟩
  rw [ho]
  clear ho
  obtain ⟨hc, hf⟩ := bcell hb2
  go_wp2_with fail
  refine (batchNames_any b.bs _ _ (l2.up hb2) (by omega)).mono ?_
  rintro e w3 ⟨⟨u, rfl, -, hu⟩, hb3⟩
  clear hc hf
  obtain ⟨au, cu, rfl, -⟩ := id hu
  go_wp2_with fail
  refine (ordered_any (nms b.bs) _ _ hu).mono ?_
  rintro e w4 ⟨rfl, hb4⟩
  have hB := up_trans (up_trans hb2 hb3) hb4
  clear hb2 hb3 hb4 hu
  cases hn : pB (Names (nms b.bs) ∧ Asc (nms b.bs))
  · have Hq : Hid (bookB b = false) := pB_no fun h => pB_not.1 hn ⟨h.2.2.1, h.2.2.2.1⟩
    go_wp2_with fail
    go_ret
    exact ⟨ret_bool Hq.out.symm, up_trans hB0 hB⟩
  have Hn : Hid (Names (nms b.bs) ∧ Asc (nms b.bs)) := pB_iff.1 hn
  clear hn
  obtain ⟨hc, hf⟩ := bcell hB
  obtain ⟨-, hpos⟩ := l2.at
  have hz4 := hB.size
  go_wp2_with fail
  clear hc hf
  go_loopw [4, 31] (fun _ i w' => ∃ k : Nat, k ≤ b.bs.length ∧ i = .int .i64 k ∧ BasTo b.things b.bs k ∧ Below W1.heap.size W1 w') (fun _ i _ => b.bs.length - (intOf i).toNat)
  case atStart => exact ⟨0, by omega, rfl, BasTo.zero _ _, hB⟩
  case round =>
    clear hB hz4
    obtain ⟨k, hk, rfl, hal, hB⟩ := hrel
    have Hal : Hid (BasTo b.things b.bs k) := hal
    clear hal
    by_cases hp : k < b.bs.length
    · obtain ⟨bb, o, rfl, hS, hb⟩ := hpos (by omega)
      obtain ⟨a3, d3, a4, d4, c3, c4, c5, l3, l4, -⟩ := ((hS.at hp).up hB hb).cells
      have HS : Hid (BaOk b.things b.bs[k] → BasTo b.things b.bs (k + 1)) := fun h => Hal.out.step hp h
      have HN : Hid (¬ BaOk b.things b.bs[k] → bookB b = false) := fun h => pB_no fun hb => h (hb.2.2.2.2.1.at hp hp)
      generalize b.bs[k] = x0 at *
      have hC1 : CB (wr.alloc (.cells #[.string (x0).nm, .slice a3 (x0).has.length d3, .slice a4 (x0).needs.length d4] 45)) wr.heap.size [.string x0.nm, .slice a3 x0.has.length d3, .slice a4 x0.needs.length d4] := cb_alloc wr _ _
      have hb5 := (Below.refl wr.heap.size wr).alloc (Nat.le_refl _) (.cells #[.string (x0).nm, .slice a3 (x0).has.length d3, .slice a4 (x0).needs.length d4] 45)
      go_upto_region 8 with fail
      generalize wr.alloc (.cells #[.string (x0).nm, .slice a3 (x0).has.length d3, .slice a4 (x0).needs.length d4] 45) = W2 at *
      have hB5 := up_trans hB hb5
      have l3' := l3.up hb5
      have l4' := l4.up hb5
      have l1' := l1.up hB5
      obtain ⟨⟨q0, q1, q2⟩, -⟩ := hC1.c3
      obtain ⟨hc, hf⟩ := bcell hB5
      clear c3 c4 c5 l3 l4 hb5 hB hS
      go_wp2_with fail
      refine (batchOk_any x0 b.things _ _ _ _ l3' l4' l1').mono ?_
      rintro e w6 ⟨rfl, hb6⟩
      have hB6 := up_trans hB5 hb6
      clear hc hf q0 q1 q2 l3' l4' l1' hB5 hb6 hC1
      cases hq : pB (BaOk b.things x0)
      · have Hq : Hid (bookB b = false) := HN.out (pB_not.1 hq)
        go_wp2_with fail
        go_ret
        exact ⟨ret_bool Hq.out.symm, up_trans hB0 hB6⟩
      · have Hq : Hid (BasTo b.things b.bs (k + 1)) := HS.out (pB_iff.1 hq)
        go_wp2_with fail
        go_roundw
        case rel => exact ⟨k + 1, by omega, by go_num, Hq.out, hB6⟩
        case measure => simp [intOf]; omega
    · have Hq : Hid (BasTo b.things b.bs b.bs.length) := bas_end Hal.out hp
      have h8' : ∀ x ∈ b.bs, Asc x.has ∧ x.has.length ≤ 8 := bas_has (by omega) Hq.out
      obtain ⟨hc, hf⟩ := bcell hB
      go_wp2_with fail
      refine (holders_any b.bs _ _ (l2.up hB) (by omega) h8').mono ?_
      rintro e w6 ⟨hh, hb6⟩
      have hB6 := up_trans hB hb6
      clear hc hf
      rcases hh with ⟨hA, M, n, D, rfl, -, -, -⟩ | ⟨hA, rfl⟩
      · have Hy : Hid (bookB b = true) := pB_yes ⟨Ho.out, by omega, Hn.out.1, Hn.out.2, Hq.out, hA⟩
        go_wp2_with fail
        go_ret
        exact ⟨ret_bool Hy.out.symm, up_trans hB0 hB6⟩
      · have Hy : Hid (bookB b = false) := pB_no fun h => hA h.2.2.2.2.2
        go_wp2_with fail
        go_ret
        exact ⟨ret_bool Hy.out.symm, up_trans hB0 hB6⟩
end Go.Proofs.YtialglmnfchfmadGreatDoor

/- Books in plain: bits of things; who can have all it needs, orders that fit. -/
namespace Go.Proofs.YtialglmnfchfmadGreatDoor

/-- The sum of the bits of those things that are picked. -/
def bitsN : List ByteArray → (ByteArray → Bool) → Nat
  | [], _ => 0
  | t :: r, P => (if P t = true then 1 else 0) + 2 * bitsN r P
theorem bitsN_snoc (P : ByteArray → Bool) (t : ByteArray) : ∀ l : List ByteArray, bitsN (l ++ [t]) P = bitsN l P + (if P t = true then 2 ^ l.length else 0)
  | [] => by simp [bitsN]
  | x :: r => by
    rw [List.cons_append, bitsN, bitsN, bitsN_snoc P t r, List.length_cons, Nat.pow_succ]
    split <;> split <;> omega
theorem bitsN_lt (P : ByteArray → Bool) : ∀ l : List ByteArray, bitsN l P < 2 ^ l.length
  | [] => by simp [bitsN]
  | x :: r => by
    have := bitsN_lt P r
    rw [bitsN, List.length_cons, Nat.pow_succ]
    split <;> omega
theorem bitsN_small {l : List ByteArray} (h : l.length ≤ 8) (P : ByteArray → Bool) : bitsN l P < 256 :=
  Nat.lt_of_lt_of_le (bitsN_lt P l) (Nat.pow_le_pow_right (by omega) h)
theorem bitsN_congr {P Q : ByteArray → Bool} : ∀ {l : List ByteArray}, (∀ t ∈ l, P t = Q t) → bitsN l P = bitsN l Q
  | [], _ => rfl
  | x :: r, h => by rw [bitsN, bitsN, h x (by simp), bitsN_congr fun t ht => h t (by simp [ht])]
theorem bitsN_add {P Q : ByteArray → Bool} : ∀ {l : List ByteArray}, (∀ t ∈ l, P t = true → Q t = false) → bitsN l P + bitsN l Q = bitsN l fun t => P t || Q t
  | [], _ => rfl
  | x :: r, h => by
    have h1 := bitsN_add (P := P) (Q := Q) (l := r) fun t ht => h t (by simp [ht])
    have h2 := h x (by simp)
    rw [bitsN, bitsN, bitsN, ← h1]
    cases hp : P x <;> cases hq : Q x <;> simp_all <;> omega
theorem bitsN_sub {P Q : ByteArray → Bool} {l : List ByteArray} (h : ∀ t ∈ l, Q t = true → P t = true) : bitsN l P = bitsN l Q + bitsN l fun t => P t && !Q t := by
  rw [bitsN_add (fun t _ hq => by simp [hq])]
  refine bitsN_congr fun t ht => ?_
  cases hq : Q t
  · simp
  · simp [h t ht hq]
theorem bitsN_test (P : ByteArray → Bool) : ∀ (l : List ByteArray) (i : Nat), (bitsN l P).testBit i = (l[i]?.map P).getD false
  | [], i => by simp [bitsN]
  | x :: r, 0 => by
    rw [bitsN, Nat.testBit_zero]
    have e : ((if P x = true then 1 else 0) + 2 * bitsN r P) % 2 = (if P x = true then 1 else 0) := by split <;> omega
    rw [e]
    cases h : P x <;> simp [h]
  | x :: r, i + 1 => by
    rw [bitsN, Nat.testBit_succ, List.getElem?_cons_succ, ← bitsN_test P r i]
    congr 1
    split <;> omega
/-- Nothing that is needed lacks. -/
theorem bitsN_not {P Q : ByteArray → Bool} {l : List ByteArray} (hl : l.length ≤ 8) : (bitsN l P &&& (18446744073709551615 - bitsN l Q) = 0) ↔ ∀ t ∈ l, P t = true → Q t = true := by
  have hQ := bitsN_small hl Q
  have e : 18446744073709551615 - bitsN l Q = 2 ^ 64 - (bitsN l Q + 1) := by omega
  constructor
  · intro h t ht hp
    obtain ⟨i, hi, rfl⟩ := List.getElem_of_mem ht
    have h1 := congrArg (Nat.testBit · i) h
    simp only [Nat.testBit_and, Nat.zero_testBit] at h1
    rw [e, Nat.testBit_two_pow_sub_succ (by omega), bitsN_test, bitsN_test, List.getElem?_eq_getElem hi] at h1
    simp [hp] at h1
    exact h1 (by omega)
  · intro h
    refine Nat.eq_of_testBit_eq fun i => ?_
    rw [Nat.testBit_and, Nat.zero_testBit, e, Nat.testBit_two_pow_sub_succ (by omega), bitsN_test, bitsN_test]
    rcases Nat.lt_or_ge i l.length with hi | hi
    · rw [List.getElem?_eq_getElem hi]
      have := h l[i] (List.getElem_mem hi)
      cases hp : P l[i] <;> simp_all
    · rw [List.getElem?_eq_none hi]; simp

/-- Of the batches that are not gone, up to place k, none but the one at place 'at' has anything of its needs. -/
def CanTo (bs : List Ba) (at' : Nat) (gone : List ByteArray) (k : Nat) : Prop := ∀ (i : Nat) (x y : Ba), i < k → i ≠ at' → bs[i]? = some x → bs[at']? = some y → memS gone x.nm = false → shareB x.has y.needs = false
def Can (bs : List Ba) (at' : Nat) (gone : List ByteArray) : Prop := CanTo bs at' gone bs.length
theorem CanTo.zero (bs : List Ba) (a : Nat) (gone : List ByteArray) : CanTo bs a gone 0 := fun i _ _ h => by omega
theorem can_end {bs : List Ba} {a : Nat} {gone : List ByteArray} {k : Nat} (h : CanTo bs a gone k) (hk : ¬ k < bs.length) : Can bs a gone := fun i x y hi hne hx hy hm => h i x y (by omega) hne hx hy hm
theorem CanTo.step {bs : List Ba} {a : Nat} {gone : List ByteArray} {k : Nat} (h : CanTo bs a gone k) (hk : k < bs.length) (ha : a < bs.length) (h1 : k = a ∨ memS gone (bs[k]).nm = true ∨ shareB (bs[k]).has (bs[a]).needs = false) : CanTo bs a gone (k + 1) := fun i x y hi hne hx hy hm => by
  by_cases e : i = k
  · subst e
    rw [List.getElem?_eq_getElem hk] at hx
    rw [List.getElem?_eq_getElem ha] at hy
    obtain rfl := Option.some.inj hx
    obtain rfl := Option.some.inj hy
    rcases h1 with h1 | h1 | h1
    · exact absurd h1 hne
    · rw [hm] at h1; cases h1
    · exact h1
  · exact h i x y (by omega) hne hx hy hm
theorem can_no {bs : List Ba} {a : Nat} {gone : List ByteArray} {k : Nat} (hk : k < bs.length) (ha : a < bs.length) (hne : k ≠ a) (hm : memS gone (bs[k]).nm = false) (hs : shareB (bs[k]).has (bs[a]).needs = true) : ¬ Can bs a gone := fun h => by
  have := h k _ _ hk hne (List.getElem?_eq_getElem hk) (List.getElem?_eq_getElem ha) hm
  rw [hs] at this; cases this
/-- A thing that nobody has who is not gone. -/
def freeB (bs : List Ba) (G : Nat → Bool) (k : Nat) (t : ByteArray) : Bool := (List.range k).all fun i => G i || !((bs[i]?.map fun x => memS x.has t).getD false)
theorem freeB_iff (bs : List Ba) (G : Nat → Bool) (k : Nat) (t : ByteArray) : freeB bs G k t = true ↔ ∀ (i : Nat) (x : Ba), i < k → bs[i]? = some x → G i = false → memS x.has t = false := by
  simp only [freeB, List.all_eq_true, List.mem_range]
  constructor
  · intro h i x hi hx hg
    have := h i hi
    rw [hx, hg] at this
    simpa using this
  · intro h i hi
    cases hg : G i
    · cases hx : bs[i]? with
      | none => simp
      | some x => simp [h i x hi hx hg]
    · rfl
theorem freeB_succ (bs : List Ba) (G : Nat → Bool) (k : Nat) (t : ByteArray) : freeB bs G (k + 1) t = (freeB bs G k t && (G k || !((bs[k]?.map fun x => memS x.has t).getD false))) := by
  simp [freeB, List.range_succ]
/-- Who can have all it needs, by bits. -/
theorem can_bits {b : Bk} (hok : BookOk b) {a : Nat} (ha : a < b.bs.length) {gone : List ByteArray} {G : Nat → Bool} (hG : ∀ (i : Nat) (hi : i < b.bs.length), G i = memS gone (b.bs[i]).nm) (hga : G a = false) :
    (∀ t ∈ b.things, memS (b.bs[a]).needs t = true → (freeB b.bs G b.bs.length t || memS (b.bs[a]).has t) = true) ↔ Can b.bs a gone := by
  have hb := hok.2.2.2.2.1.at ha ha
  constructor
  · intro h i x y hi hne hx hy hm
    rw [List.getElem?_eq_getElem hi] at hx
    rw [List.getElem?_eq_getElem ha] at hy
    obtain rfl := Option.some.inj hx
    obtain rfl := Option.some.inj hy
    rw [shareB_no]
    intro s h1 h2
    have h3 := h s (part_mem hb.1.1 h2) ((memS_iff _ _).2 h2)
    rcases Bool.or_eq_true_iff.1 h3 with h4 | h4
    · have := (freeB_iff _ _ _ _).1 h4 i _ hi (List.getElem?_eq_getElem hi) (by rw [hG i hi]; exact hm)
      rw [memS_no] at this
      exact this h1
    · have h5 := (memS_iff _ _).1 h4
      rcases Nat.lt_or_gt_of_ne hne with h6 | h6
      · have := hok.2.2.2.2.2.at ha h6
        rw [shareB_no] at this
        exact this s h5 h1
      · have := hok.2.2.2.2.2.at hi h6
        rw [shareB_no] at this
        exact this s h1 h5
  · intro h t ht hn
    cases hh : memS (b.bs[a]).has t
    · rw [Bool.or_false, freeB_iff]
      intro i x hi hx hg
      rw [List.getElem?_eq_getElem hi] at hx
      obtain rfl := Option.some.inj hx
      by_cases e : i = a
      · subst e; exact hh
      · have := h i _ _ hi e (List.getElem?_eq_getElem hi) (List.getElem?_eq_getElem ha) (by rw [← hG i hi]; exact hg)
        rw [shareB_no] at this
        rw [memS_no]
        exact fun h1 => this t h1 ((memS_iff _ _).1 hn)
    · simp
/-- An order fits up to place k. -/
def FitsTo (bs : List Ba) (order : List ByteArray) (k : Nat) : Prop := ∀ (i : Nat) (s : ByteArray), i < k → order[i]? = some s → 0 ≤ idxI (nms bs) s ∧ memS (order.take i) s = false ∧ Can bs (idxI (nms bs) s).toNat (order.take i)
def Fits (b : Bk) (order : List ByteArray) : Prop := BookOk b ∧ order.length = b.bs.length ∧ FitsTo b.bs order order.length
theorem FitsTo.zero (bs : List Ba) (order : List ByteArray) : FitsTo bs order 0 := fun i _ h => by omega
theorem FitsTo.step {bs : List Ba} {order : List ByteArray} {k : Nat} (h : FitsTo bs order k) (hk : k < order.length) (h1 : 0 ≤ idxI (nms bs) order[k] ∧ memS (order.take k) order[k] = false ∧ Can bs (idxI (nms bs) order[k]).toNat (order.take k)) : FitsTo bs order (k + 1) := fun i s hi hs => by
  by_cases e : i = k
  · subst e
    rw [List.getElem?_eq_getElem hk] at hs
    obtain rfl := Option.some.inj hs
    exact h1
  · exact h i s (by omega) hs
theorem fits_at {b : Bk} {order : List ByteArray} (h : Fits b order) {k : Nat} (hk : k < order.length) : 0 ≤ idxI (nms b.bs) order[k] ∧ memS (order.take k) order[k] = false ∧ Can b.bs (idxI (nms b.bs) order[k]).toNat (order.take k) := h.2.2 k _ hk (List.getElem?_eq_getElem hk)
theorem fits_end {b : Bk} {order : List ByteArray} {k : Nat} (hok : BookOk b) (hl : order.length = b.bs.length) (h : FitsTo b.bs order k) (hk : ¬ k < order.length) : Fits b order := ⟨hok, hl, fun i s hi hs => h i s (by omega) hs⟩
theorem idxI_at {l : List ByteArray} {s : ByteArray} (h : 0 ≤ idxI l s) : ∃ k : Nat, idxI l s = (k : Int) ∧ ∃ hk : k < l.length, l[k] = s := by
  rw [idxI] at h ⊢
  split at h
  · rename_i hm
    rw [if_pos hm]
    refine ⟨_, rfl, ?_⟩
    have hl : l.findIdx (fun x => x.toList == s.toList) < l.length := by
      rw [List.findIdx_lt_length]
      rw [memS, List.any_eq_true] at hm
      exact hm
    refine ⟨hl, ?_⟩
    have := List.findIdx_getElem (w := hl)
    exact toL_eq (by simpa using this)
  · omega
end Go.Proofs.YtialglmnfchfmadGreatDoor

/- The program's table in plain: rows, and what is free. -/
namespace Go.Proofs.YtialglmnfchfmadGreatDoor

/-- A batch, and whether it is gone. -/
abbrev Tr := Ba × Bool
def rowC (things : List ByteArray) (p : Tr) : List Value := [.string p.1.nm, .int .u64 (bitsN things (memS p.1.has) : Nat), .int .u64 (bitsN things (memS p.1.needs) : Nat), .bool p.2]
def rowsL (things : List ByteArray) : List Tr → List Value
  | [] => []
  | p :: r => rowC things p ++ rowsL things r
theorem rowsL_length (things : List ByteArray) : ∀ ts : List Tr, (rowsL things ts).length = ts.length * 4
  | [] => rfl
  | p :: r => by rw [rowsL, List.length_append, rowsL_length things r, List.length_cons]; simp [rowC]; omega
theorem rowsL_snoc (things : List ByteArray) (p : Tr) : ∀ ts : List Tr, rowsL things (ts ++ [p]) = rowsL things ts ++ rowC things p
  | [] => by simp [rowsL]
  | q :: r => by rw [List.cons_append, rowsL, rowsL, rowsL_snoc things p r, List.append_assoc]
theorem rowsL_get (things : List ByteArray) : ∀ (ts : List Tr) (i j : Nat) (p : Tr), ts[i]? = some p → j < 4 → (rowsL things ts)[i * 4 + j]? = (rowC things p)[j]?
  | [], i, j, p, h, _ => by simp at h
  | q :: r, 0, j, p, h, hj => by
    simp at h; subst h
    rw [rowsL, List.getElem?_append_left (by simp [rowC]; omega)]; simp
  | q :: r, i + 1, j, p, h, hj => by
    rw [rowsL, List.getElem?_append_right (by simp [rowC]; omega)]
    have e : (i + 1) * 4 + j - (rowC things q).length = i * 4 + j := by simp [rowC]; omega
    rw [e]
    exact rowsL_get things r i j p (by simpa using h) hj
theorem rowsL_set (things : List ByteArray) : ∀ (ts : List Tr) (i : Nat) (p : Tr), ts[i]? = some p → (rowsL things ts).set (i * 4 + 3) (.bool true) = rowsL things (ts.set i (p.1, true))
  | [], i, p, h => by simp at h
  | q :: r, 0, p, h => by
    simp at h; subst h
    simp [rowsL, rowC]
  | q :: r, i + 1, p, h => by
    rw [rowsL, List.set_append_right _ _ (by simp [rowC]; omega)]
    have e : (i + 1) * 4 + 3 - (rowC things q).length = i * 4 + 3 := by simp [rowC]; omega
    rw [e, rowsL_set things r i p (by simpa using h)]
    simp [rowsL]
/-- A thing that nobody of the rows has who is not gone. -/
def freeL (ts : List Tr) (t : ByteArray) : Bool := ts.all fun p => p.2 || !memS p.1.has t
theorem freeL_iff (ts : List Tr) (t : ByteArray) : freeL ts t = true ↔ ∀ (i : Nat) (p : Tr), ts[i]? = some p → p.2 = false → memS p.1.has t = false := by
  simp only [freeL, List.all_eq_true, Bool.or_eq_true, Bool.not_eq_true']
  constructor
  · intro h i p hp h2
    rcases h p (List.mem_of_getElem? hp) with h3 | h3
    · rw [h2] at h3; cases h3
    · exact h3
  · intro h p hp
    obtain ⟨i, hi, rfl⟩ := List.getElem_of_mem hp
    cases h2 : ts[i].2
    · exact .inr (h i _ (List.getElem?_eq_getElem hi) h2)
    · exact .inl rfl
theorem freeL_eq {bs : List Ba} {ts : List Tr} (h : ts.map (·.1) = bs) (t : ByteArray) : freeL ts t = freeB bs (fun i => (ts[i]?.map (·.2)).getD false) bs.length t := by
  rw [Bool.eq_iff_iff, freeL_iff, freeB_iff]
  subst h
  constructor
  · intro h i x hi hx hg
    rw [List.getElem?_map, Option.map_eq_some_iff] at hx
    obtain ⟨p, hp, rfl⟩ := hx
    exact h i p hp (by rw [hp] at hg; simpa using hg)
  · intro h i p hp h2
    exact h i p.1 (by simpa using (List.getElem?_eq_some_iff.1 hp).1) (by rw [List.getElem?_map, hp]; rfl) (by rw [hp]; simpa using h2)
theorem freeL_snoc (ts : List Tr) (p : Tr) (t : ByteArray) : freeL (ts ++ [p]) t = (freeL ts t && (p.2 || !memS p.1.has t)) := by simp [freeL]
theorem map_at {bs : List Ba} {ts : List Tr} (h : ts.map (·.1) = bs) {i : Nat} {p : Tr} (hp : ts[i]? = some p) : bs[i]? = some p.1 := by subst h; rw [List.getElem?_map, hp]; rfl
/-- One more row. -/
theorem free_more {bs : List Ba} (ha : Apart bs) {ts : List Tr} {k : Nat} (hk : k < bs.length) (h : ts.map (·.1) = bs.take k) (things : List ByteArray) :
    bitsN things (freeL ts) = bitsN things (memS (bs[k]).has) + bitsN things (freeL (ts ++ [(bs[k], false)])) := by
  rw [bitsN_sub (P := freeL ts) (Q := memS (bs[k]).has)]
  · congr 1
    refine bitsN_congr fun t _ => ?_
    rw [freeL_snoc]; simp
  · intro t _ hm
    rw [freeL_iff]
    intro i p hp _
    have h1 := map_at h hp
    rw [List.getElem?_take] at h1
    split at h1
    · rename_i hi
      rw [List.getElem?_eq_getElem (by omega)] at h1
      obtain h1 := Option.some.inj h1
      have := ha.at hk hi
      rw [shareB_no] at this
      rw [memS_no, ← h1]
      exact this t ((memS_iff _ _).1 hm)
    · cases h1
/-- One goes. -/
theorem free_leave {bs : List Ba} (ha : Apart bs) {ts : List Tr} {i : Nat} {p : Tr} (h : ts.map (·.1) = bs) (hp : ts[i]? = some p) (hg : p.2 = false) (things : List ByteArray) :
    bitsN things (freeL ts) + bitsN things (memS p.1.has) = bitsN things (freeL (ts.set i (p.1, true))) := by
  have hi := (List.getElem?_eq_some_iff.1 hp).1
  have hb := map_at h hp
  have hib : i < bs.length := by rw [← h]; simpa using hi
  rw [bitsN_add]
  · refine bitsN_congr fun t _ => ?_
    rw [Bool.eq_iff_iff, Bool.or_eq_true, freeL_iff, freeL_iff]
    constructor
    · rintro (h1 | h1) j q hq hg2
      · rw [List.getElem?_set] at hq
        split at hq
        · obtain rfl := Option.some.inj hq; cases hg2
        · exact h1 j q hq hg2
      · rw [List.getElem?_set] at hq
        split at hq
        · obtain rfl := Option.some.inj hq; cases hg2
        · rename_i hne
          have hq' := map_at h hq
          have hjb := (List.getElem?_eq_some_iff.1 hq').1
          rw [memS_no]
          intro h5
          have h6 := (memS_iff _ _).1 h1
          rw [List.getElem?_eq_getElem hjb] at hq'
          rw [List.getElem?_eq_getElem hib] at hb
          have hq2 := Option.some.inj hq'
          have hb2 := Option.some.inj hb
          rcases Nat.lt_or_gt_of_ne hne with h7 | h7
          · have := ha.at hjb h7
            rw [shareB_no, hq2, hb2] at this
            exact this t h5 h6
          · have := ha.at hib h7
            rw [shareB_no, hq2, hb2] at this
            exact this t h6 h5
    · intro h1
      cases hm : memS p.1.has t
      · refine .inl fun j q hq hg2 => ?_
        by_cases e : i = j
        · subst e; rw [hp] at hq; obtain rfl := Option.some.inj hq; exact hm
        · exact h1 j q (by rw [List.getElem?_set, if_neg e]; exact hq) hg2
      · exact .inr rfl
  · intro t _ h1
    exact (freeL_iff _ _).1 h1 i p hp hg
/-- Who can, off the table. -/
theorem can_tab {b : Bk} (hok : BookOk b) {ts : List Tr} (h : ts.map (·.1) = b.bs) {gone : List ByteArray} (hG : ∀ (i : Nat) (p : Tr), ts[i]? = some p → p.2 = memS gone p.1.nm) {a : Nat} {p : Tr} (hp : ts[a]? = some p) (hg : p.2 = false) :
    (bitsN b.things (memS p.1.needs) &&& (18446744073709551615 - (bitsN b.things (freeL ts) + bitsN b.things (memS p.1.has))) = 0) ↔ Can b.bs a gone := by
  have hb := map_at h hp
  have hab : a < b.bs.length := (List.getElem?_eq_some_iff.1 hb).1
  have hb2 : b.bs[a] = p.1 := by rw [List.getElem?_eq_getElem hab] at hb; exact Option.some.inj hb
  rw [bitsN_add (fun t _ h1 => (freeL_iff _ _).1 h1 a p hp hg), bitsN_not hok.1.1,
    ← can_bits hok hab (gone := gone) (G := fun i => (ts[i]?.map (·.2)).getD false) (fun i hi => ?_) (by simp [hp, hg]), hb2]
  · constructor
    · intro h1 t ht hn; rw [← freeL_eq h]; exact h1 t ht hn
    · intro h1 t ht hn; have := h1 t ht hn; rwa [← freeL_eq h] at this
  · have hi' : i < ts.length := by rw [← h] at hi; simpa using hi
    have e := map_at h (List.getElem?_eq_getElem hi')
    rw [List.getElem?_eq_getElem hi] at e
    rw [List.getElem?_eq_getElem hi']
    simp only [Option.map_some, Option.getD_some]
    rw [hG i _ (List.getElem?_eq_getElem hi'), Option.some.inj e]
end Go.Proofs.YtialglmnfchfmadGreatDoor
