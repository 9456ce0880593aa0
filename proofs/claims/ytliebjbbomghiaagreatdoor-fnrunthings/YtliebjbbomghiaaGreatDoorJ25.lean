/- Books that change, in plain: needing less, asking. -/
import Derived.Test.YtliebjbbomghiaaGreatDoorJ20
import Derived.Test.YtliebjbbomghiaaGreatDoorJ3
import Derived.Test.YtliebjbbomghiaaGreatDoorJ24
namespace Go.Proofs.YtliebjbbomghiaaGreatDoor

/-- One batch is changed. -/
def chg (b : Bk) (p : Nat) (f : Ba → Ba) : Bk := match b.bs[p]? with
  | some x => ⟨b.things, b.bs.set p (f x)⟩
  | none => b
theorem chg_at {b : Bk} {p : Nat} {f : Ba → Ba} {x : Ba} (h : b.bs[p]? = some x) : chg b p f = ⟨b.things, b.bs.set p (f x)⟩ := by simp [chg, h]
def needsAt (b : Bk) (nm : ByteArray) : List ByteArray := ((b.bs[plN b nm]?).map (·.needs)).getD []
theorem needsAt_at {b : Bk} {nm : ByteArray} {x : Ba} (h : b.bs[plN b nm]? = some x) : needsAt b nm = x.needs := by simp [needsAt, h]
def lessF (needs : List ByteArray) (x : Ba) : Ba := ⟨x.nm, x.has.filter (memS needs), needs⟩
def insAll (has things : List ByteArray) : List ByteArray := things.foldl insL has
def askF (things : List ByteArray) (x : Ba) : Ba := ⟨x.nm, insAll x.has things, x.needs⟩
theorem insAll_take (has things : List ByteArray) (k : Nat) (hk : k < things.length) : insAll has (things.take (k + 1)) = insL (insAll has (things.take k)) things[k] := by
  unfold insAll; rw [List.take_succ_eq_append_getElem hk, List.foldl_append]; rfl
theorem insAll_len (has : List ByteArray) : ∀ things : List ByteArray, (insAll has things).length ≤ has.length + things.length := by
  intro things
  induction things generalizing has with
  | nil => simp [insAll]
  | cons x r ih =>
    have h1 := ih (insL has x)
    have h2 := insL_len has x
    simp only [insAll, List.foldl_cons, List.length_cons] at *
    omega
theorem insL_mem (ss : List ByteArray) (x : ByteArray) : ∀ s ∈ insL ss x, s ∈ ss ∨ s = x := by
  induction ss with
  | nil => intro s hs; simp [insL] at hs; exact .inr hs
  | cons y r ih =>
    intro s hs
    simp only [insL] at hs
    split at hs
    · rcases List.mem_cons.1 hs with h | h
      · exact .inl (by simp [h])
      · rcases ih s h with h | h
        · exact .inl (by simp [h])
        · exact .inr h
    · split at hs
      · exact .inl hs
      · rcases List.mem_cons.1 hs with h | h
        · exact .inr h
        · exact .inl h
theorem insAll_mem (has : List ByteArray) : ∀ things : List ByteArray, ∀ s ∈ insAll has things, s ∈ has ∨ s ∈ things := by
  intro things
  induction things generalizing has with
  | nil => intro s hs; exact .inl hs
  | cons x r ih =>
    intro s hs
    rcases ih (insL has x) s hs with h | h
    · rcases insL_mem has x s h with h | h
      · exact .inl h
      · exact .inr (by simp [h])
    · exact .inr (by simp [h])
noncomputable def lsnC (b : Bk) (nm : ByteArray) (needs : List ByteArray) : Int :=
  if bookB b = false then 1 else if memS (nms b.bs) nm = false then 3 else if pB (PartOk needs (needsAt b nm)) = false then 2 else 0
noncomputable def lsnB (b : Bk) (nm : ByteArray) (needs : List ByteArray) : Bk :=
  if bookB b = false then nobody else if lsnC b nm needs = 0 then chg b (plN b nm) (lessF needs) else b
theorem less_no {b : Bk} {nm : ByteArray} {needs : List ByteArray} (h : bookB b = false) : lsnC b nm needs = 1 ∧ lsnB b nm needs = nobody := by simp [lsnC, lsnB, h]
theorem less_none {b : Bk} {nm : ByteArray} {needs : List ByteArray} (h : bookB b = true) (hm : memS (nms b.bs) nm = false) : lsnC b nm needs = 3 ∧ lsnB b nm needs = b := by simp [lsnC, lsnB, h, hm]
theorem less_two {b : Bk} {nm : ByteArray} {needs : List ByteArray} (h : bookB b = true) (hm : memS (nms b.bs) nm = true) (hp : pB (PartOk needs (needsAt b nm)) = false) : lsnC b nm needs = 2 ∧ lsnB b nm needs = b := by simp [lsnC, lsnB, h, hm, hp]
theorem less_yes {b : Bk} {nm : ByteArray} {needs : List ByteArray} (h : bookB b = true) (hm : memS (nms b.bs) nm = true) (hp : pB (PartOk needs (needsAt b nm)) = true) : lsnC b nm needs = 0 ∧ lsnB b nm needs = chg b (plN b nm) (lessF needs) := by
  have hc : lsnC b nm needs = 0 := by simp [lsnC, h, hm, hp]
  exact ⟨hc, by rw [lsnB, h, if_neg (by simp), if_pos hc]⟩
theorem filter_take {ss : List ByteArray} {f : ByteArray → Bool} {k : Nat} (hk : k < ss.length) : (ss.take (k + 1)).filter f = (ss.take k).filter f ++ (if f ss[k] = true then [ss[k]] else []) := by
  rw [List.take_succ_eq_append_getElem hk, List.filter_append]
  congr 1
  by_cases h : f ss[k] = true
  · simp [h]
  · simp [h]
end Go.Proofs.YtliebjbbomghiaaGreatDoor

/- A row of batches, a list of one of them turned. -/
namespace Go.Proofs.YtliebjbbomghiaaGreatDoor
open Go.RowKit

theorem rowsB_set1 : ∀ (ps : List Bv) (k : Nat) (p : Bv) (u : Value) (x : Ba), ps[k]? = some p → x.nm = p.1.nm → (rowsB ps).set (k * 3 + 1) u = rowsB (ps.set k (x, u, p.2.2))
  | q :: r, 0, p, u, x, hp, hx => by
    simp at hp; subst hp
    simp [rowsB, rowB, hx]
  | q :: r, k + 1, p, u, x, hp, hx => by
    have ih := rowsB_set1 r k p u x (by simpa using hp) hx
    have hl : (rowB q).length = 3 := rfl
    rw [List.set_cons_succ, rowsB, rowsB, ← ih, List.set_append_right _ _ (by rw [hl]; omega), hl, show (k + 1) * 3 + 1 - 3 = k * 3 + 1 by omega]
theorem rowsB_set2 : ∀ (ps : List Bv) (k : Nat) (p : Bv) (u : Value) (x : Ba), ps[k]? = some p → x.nm = p.1.nm → (rowsB ps).set (k * 3 + 2) u = rowsB (ps.set k (x, p.2.1, u))
  | q :: r, 0, p, u, x, hp, hx => by
    simp at hp; subst hp
    simp [rowsB, rowB, hx]
  | q :: r, k + 1, p, u, x, hp, hx => by
    have ih := rowsB_set2 r k p u x (by simpa using hp) hx
    have hl : (rowB q).length = 3 := rfl
    rw [List.set_cons_succ, rowsB, rowsB, ← ih, List.set_append_right _ _ (by rw [hl]; omega), hl, show (k + 1) * 3 + 2 - 3 = k * 3 + 2 by omega]

end Go.Proofs.YtliebjbbomghiaaGreatDoor

/- The specification's walk of l13Insert (chapter 13). -/
namespace Go.Proofs.YtliebjbbomghiaaGreatDoor
open Go.RowKit

set_option maxHeartbeats 2000000 in
theorem insert13_any (ss : List ByteArray) (v : Value) (nm : ByteArray) (w : World) (h : Txt w v ss) (hn : ss.length ≤ 1000) :
    Calls Tryz.prog 132 #[v, .string nm] w fun e w' => (∃ u, e = .returned u ∧ Txt w' u (insL ss nm) ∧ (u = v ∧ insL ss nm = ss ∨ OwnT w' w.heap.size u (insL ss nm))) ∧ Below w.heap.size w w' := by
  have hT := h
  obtain ⟨g, c, rfl, hS, hg, hc, hc9⟩ := h
  unfold maxLen at hc9
  obtain ⟨ii, hi, iz0, iz1, iz2⟩ := info_parts infoStr
  have HT : Hid (Txt w (.slice (some ⟨g, 0, none⟩) ss.length c) ss) := hT
  clear hT
  go_enter Tryz.func132, Tryz.ntmps132
  go_wp2_with fail
  go_loop [5] (fun i => ∃ k : Nat, k ≤ ss.length ∧ i = .int .i64 k ∧ lowL ss nm k) (fun i => ss.length - (intOf i).toNat)
  case atStart => exact ⟨0, by omega, rfl, fun j s hj => by omega⟩
  case round =>
    obtain ⟨k, hk, rfl, hlow⟩ := hrel
    have Hlow : Hid (lowL ss nm k) := hlow
    clear hlow
    by_cases hp : k < ss.length
    · have c0 := hS k ss[k] (by simp [hp])
      simp only [Nat.zero_add] at c0
      cases hl : Op.bytesLess (ss[k]).toList nm.toList
      case true =>
        have Hl : Hid (lessB ss[k] nm = true) := hl
        go_wp2_with fail
        go_round
        case rel => exact ⟨k + 1, by omega, by go_num, lowL_succ Hlow.out hp Hl.out⟩
        case measure => simp [intOf]; omega
      have Hl : Hid (lessB ss[k] nm = false) := hl
      cases hq : ((ss[k]).toList == nm.toList)
      case true =>
        have Hq : Hid (insL ss nm = ss) := insL_old ss nm k Hlow.out ⟨ss[k], by simp [hp], Hl.out, hq⟩
        go_wp2_with fail
        go_ret
        exact ⟨⟨_, rfl, by rw [Hq.out]; exact HT.out, .inl ⟨rfl, Hq.out⟩⟩, Below.refl _ _⟩
      have Hq : Hid (insL ss nm = ss.take k ++ nm :: ss.drop k) := insL_new ss nm k Hlow.out hk (fun s hs => by
        obtain ⟨_, rfl⟩ := List.getElem?_eq_some_iff.1 hs
        exact ⟨Hl.out, hq⟩)
      go_wp2_with fail
      obtain ⟨o2, ho2⟩ : ∃ o2 : Nat, (if c = k then some (⟨g, 0, none⟩ : Addr) else some ⟨g, k, none⟩) = some ⟨g, o2, none⟩ ∧ StrsAt w g o2 (ss.drop k) := by
        by_cases h7 : c = k
        · exact ⟨0, by rw [if_pos h7], fun i s hs => by
            have := (List.getElem?_eq_some_iff.1 hs).1; simp at this; omega⟩
        · exact ⟨k, by rw [if_neg h7], by have := hS.drop k; simpa using this⟩
      obtain ⟨ho2, -⟩ := ho2
      have Nb : ((w.alloc (.cells #[] 9)).alloc (.cells #[.string nm] 9)).drew.cell? ⟨w.heap.size + 1, 0, none⟩ = some (.string nm) := by simp [go_sem]
      have nb1 : some (w.heap.size + 1) ≠ (Value.slice (some ⟨w.heap.size, 0, none⟩) 0 0).ownBlock := by simp [Value.ownBlock]
      have Nc : ((w.alloc (.cells #[.string nm] 9)).alloc (.cells #[] 9)).drew.cell? ⟨w.heap.size, 0, none⟩ = some (.string nm) := by simp [go_sem]
      have nc1 : some w.heap.size ≠ (Value.slice (some ⟨w.heap.size + 1, 0, none⟩) 0 0).ownBlock := by simp [Value.ownBlock]
      have hkc : k ≤ c := by omega
      have Fa := (ow_lit hS (Below.refl w.heap.size w)).drew
      have Fb := ((ow_lit hS (Below.refl w.heap.size w)).alloc (.cells #[.string nm] 9)).drew
      have Fc := (ow_lit (hS.alloc (.cells #[.string nm] 9)) ((Below.refl w.heap.size w).alloc (Nat.le_refl _) (.cells #[.string nm] 9))).drew
      rw [show (w.alloc (.cells #[.string nm] 9)).heap.size = w.heap.size + 1 by simp] at Fc
      go_region_law (first
        | (revert h2; intro h2; refine step_append_own rfl _ _ 29 rfl w.heap.size 9 ii _ 1 16 Tryz.underlying29 hi iz0 iz1 iz2 rfl (by decide) _ _ _ rfl h2.1 ⟨g, o2, none⟩ (ss.length - k) _ ((ss.drop k).map Value.string) rfl (by simp) (news_of (strs_drop h2.2.1 ho2 hc)) (oneS _) (by unfold maxLen; omega) (by omega) h2.2.2.size ?_; intro v3 w3 hown3 hgrow3; have h3 := h2.grow hg hgrow3 hown3; clear h2 hown3 hgrow3)
        | (revert h1; intro h1; refine step_append_own rfl _ _ 29 rfl w.heap.size 9 ii _ 1 16 Tryz.underlying29 hi iz0 iz1 iz2 rfl (by decide) _ _ _ rfl (by first | exact h1.1 | exact (h1.alloc _).1) _ 1 1 [.string nm] rfl rfl (by first | exact one_new _ _ _ | exact one_old hN1) (oneV nm) (by unfold maxLen; omega) (by omega) (by first | exact h1.2.2.size | exact (h1.alloc _).2.2.size) ?_; intro v2 w2 hown2 hgrow2; first | have h2 := h1.grow hg hgrow2 hown2 | have h2 := (h1.alloc _).grow hg hgrow2 hown2; clear h1 hown2 hgrow2)
        | (refine step_append_own rfl _ _ 29 rfl w.heap.size 9 ii _ 1 16 Tryz.underlying29 hi iz0 iz1 iz2 rfl (by decide) _ 0 [] rfl (by first | exact Fa.1 | exact Fb.1 | exact Fc.1) ⟨g, 0, none⟩ k _ ((ss.take k).map Value.string) rfl (by simp; omega) (by first | exact news_of (Fa.2.1.take k) | exact news_of (Fb.2.1.take k) | exact news_of (Fc.2.1.take k)) (oneS _) (by unfold maxLen; omega) (by omega) (by first | exact Fa.2.2.size | exact Fb.2.2.size | exact Fc.2.2.size) ?_; intro v1 w1 hown1 hgrow1; first | (have h1 := Fa.grow hg hgrow1 hown1) | (have h1 := Fb.grow hg hgrow1 hown1; have hN1 := hgrow1.cell Nb nb1) | (have h1 := Fc.grow hg hgrow1 hown1; have hN1 := hgrow1.cell Nc nc1); clear hown1 hgrow1))
      all_goals
        have HT3 : Txt w3 v3 (insL ss nm) := by
          rw [Hq.out]
          exact Txt.own (n := 0 + k + 1 + (ss.length - k)) (by simpa using h3.1) (by simp; omega) (own_ptr2 h3.1 (by omega))
        have hO3 : OwnT w3 w.heap.size v3 (insL ss nm) := by
          unfold OwnT
          rw [Hq.out]
          have := h3.1
          have e1 : (ss.take k ++ nm :: ss.drop k).length = 0 + k + 1 + (ss.length - k) := by simp; omega
          rw [e1]
          simpa using this
        have hB3 := h3.2.2
        clear h3
        go_wp2_with fail
        go_ret
        exact ⟨⟨_, rfl, HT3, .inr hO3⟩, hB3⟩
    · have Hq : Hid (insL ss nm = ss.take k ++ nm :: ss.drop k) := insL_new ss nm k Hlow.out hk (fun s hs => by
        have := (List.getElem?_eq_some_iff.1 hs).1; omega)
      go_wp2_with fail
      obtain ⟨o2, ho2⟩ : ∃ o2 : Nat, (if c = k then some (⟨g, 0, none⟩ : Addr) else some ⟨g, k, none⟩) = some ⟨g, o2, none⟩ ∧ StrsAt w g o2 (ss.drop k) := by
        by_cases h7 : c = k
        · exact ⟨0, by rw [if_pos h7], fun i s hs => by
            have := (List.getElem?_eq_some_iff.1 hs).1; simp at this; omega⟩
        · exact ⟨k, by rw [if_neg h7], by have := hS.drop k; simpa using this⟩
      obtain ⟨ho2, -⟩ := ho2
      have Nb : ((w.alloc (.cells #[] 9)).alloc (.cells #[.string nm] 9)).drew.cell? ⟨w.heap.size + 1, 0, none⟩ = some (.string nm) := by simp [go_sem]
      have nb1 : some (w.heap.size + 1) ≠ (Value.slice (some ⟨w.heap.size, 0, none⟩) 0 0).ownBlock := by simp [Value.ownBlock]
      have Nc : ((w.alloc (.cells #[.string nm] 9)).alloc (.cells #[] 9)).drew.cell? ⟨w.heap.size, 0, none⟩ = some (.string nm) := by simp [go_sem]
      have nc1 : some w.heap.size ≠ (Value.slice (some ⟨w.heap.size + 1, 0, none⟩) 0 0).ownBlock := by simp [Value.ownBlock]
      have hkc : k ≤ c := by omega
      have Fa := (ow_lit hS (Below.refl w.heap.size w)).drew
      have Fb := ((ow_lit hS (Below.refl w.heap.size w)).alloc (.cells #[.string nm] 9)).drew
      have Fc := (ow_lit (hS.alloc (.cells #[.string nm] 9)) ((Below.refl w.heap.size w).alloc (Nat.le_refl _) (.cells #[.string nm] 9))).drew
      rw [show (w.alloc (.cells #[.string nm] 9)).heap.size = w.heap.size + 1 by simp] at Fc
      go_region_law (first
        | (revert h2; intro h2; refine step_append_own rfl _ _ 29 rfl w.heap.size 9 ii _ 1 16 Tryz.underlying29 hi iz0 iz1 iz2 rfl (by decide) _ _ _ rfl h2.1 ⟨g, o2, none⟩ (ss.length - k) _ ((ss.drop k).map Value.string) rfl (by simp) (news_of (strs_drop h2.2.1 ho2 hc)) (oneS _) (by unfold maxLen; omega) (by omega) h2.2.2.size ?_; intro v3 w3 hown3 hgrow3; have h3 := h2.grow hg hgrow3 hown3; clear h2 hown3 hgrow3)
        | (revert h1; intro h1; refine step_append_own rfl _ _ 29 rfl w.heap.size 9 ii _ 1 16 Tryz.underlying29 hi iz0 iz1 iz2 rfl (by decide) _ _ _ rfl (by first | exact h1.1 | exact (h1.alloc _).1) _ 1 1 [.string nm] rfl rfl (by first | exact one_new _ _ _ | exact one_old hN1) (oneV nm) (by unfold maxLen; omega) (by omega) (by first | exact h1.2.2.size | exact (h1.alloc _).2.2.size) ?_; intro v2 w2 hown2 hgrow2; first | have h2 := h1.grow hg hgrow2 hown2 | have h2 := (h1.alloc _).grow hg hgrow2 hown2; clear h1 hown2 hgrow2)
        | (refine step_append_own rfl _ _ 29 rfl w.heap.size 9 ii _ 1 16 Tryz.underlying29 hi iz0 iz1 iz2 rfl (by decide) _ 0 [] rfl (by first | exact Fa.1 | exact Fb.1 | exact Fc.1) ⟨g, 0, none⟩ k _ ((ss.take k).map Value.string) rfl (by simp; omega) (by first | exact news_of (Fa.2.1.take k) | exact news_of (Fb.2.1.take k) | exact news_of (Fc.2.1.take k)) (oneS _) (by unfold maxLen; omega) (by omega) (by first | exact Fa.2.2.size | exact Fb.2.2.size | exact Fc.2.2.size) ?_; intro v1 w1 hown1 hgrow1; first | (have h1 := Fa.grow hg hgrow1 hown1) | (have h1 := Fb.grow hg hgrow1 hown1; have hN1 := hgrow1.cell Nb nb1) | (have h1 := Fc.grow hg hgrow1 hown1; have hN1 := hgrow1.cell Nc nc1); clear hown1 hgrow1))
      all_goals
        have HT3 : Txt w3 v3 (insL ss nm) := by
          rw [Hq.out]
          exact Txt.own (n := 0 + k + 1 + (ss.length - k)) (by simpa using h3.1) (by simp; omega) (own_ptr2 h3.1 (by omega))
        have hO3 : OwnT w3 w.heap.size v3 (insL ss nm) := by
          unfold OwnT
          rw [Hq.out]
          have := h3.1
          have e1 : (ss.take k ++ nm :: ss.drop k).length = 0 + k + 1 + (ss.length - k) := by simp; omega
          rw [e1]
          simpa using this
        have hB3 := h3.2.2
        clear h3
        go_wp2_with fail
        go_ret
        exact ⟨⟨_, rfl, HT3, .inr hO3⟩, hB3⟩
end Go.Proofs.YtliebjbbomghiaaGreatDoor
