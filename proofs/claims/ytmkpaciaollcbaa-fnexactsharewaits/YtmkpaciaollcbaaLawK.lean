/- The laws' own helpers over lists of texts and books. -/
import Derived.Test.YtmkpaciaollcbaaJ17
namespace Go.Proofs.Ytmkpaciaollcbaa
open Go.RowKit

set_option maxHeartbeats 1000000 in
theorem szBatch_any (x : Ba) (hv nv : Value) (l : Int) (w : World) (h1 : Ls w hv x.has) (h2 : Ls w nv x.needs) (hz : x.nm.size ≤ maxLen) (hl : 0 ≤ l) (hl' : l ≤ 1048576) :
    Calls Try.prog 33 #[.agg #[.string x.nm, hv, nv], .int .i64 l] w fun e w' => (∃ y : Int, e = .returned (.int .i64 y) ∧ y ≤ l ∧ (0 ≤ y → x.has.length ≤ 1048576 ∧ x.needs.length ≤ 1048576)) ∧ Below w.heap.size w w' := by
  obtain ⟨a1, c1, rfl, -⟩ := id h1
  obtain ⟨a2, c2, rfl, -⟩ := id h2
  unfold maxLen at hz
  have hB0 := (Below.refl w.heap.size w).alloc (Nat.le_refl _) (.cells #[.string x.nm, .slice a1 x.has.length c1, .slice a2 x.needs.length c2] 64)
  by_cases h0 : l - x.nm.size < 0
  · go_enter Try.func33, Try.ntmps33
    go_wp2
    go_ret
    exact ⟨⟨_, rfl, by omega, by omega⟩, hB0⟩
  go_enter Try.func33, Try.ntmps33
  go_wp2_with fail
  refine (szStr_any x.has _ _ _ (h1.up hB0) (by omega) (by omega)).mono ?_
  rintro e w' ⟨⟨y1, rfl, hy1, hy1'⟩, hw⟩
  obtain rfl := hw.symm
  by_cases g1 : y1 < 0
  · go_wp2_with fail
    go_ret
    exact ⟨⟨_, rfl, by omega, by omega⟩, hB0⟩
  go_wp2_with fail
  refine (szStr_any x.needs _ _ _ (h2.up hB0) (by omega) (by omega)).mono ?_
  rintro e w' ⟨⟨y2, rfl, hy2, hy2'⟩, hw⟩
  obtain rfl := hw.symm
  by_cases g2 : y2 < 0
  · go_wp2_with fail
    go_ret
    exact ⟨⟨_, rfl, by omega, by omega⟩, hB0⟩
  go_wp2_with fail
  go_ret
  exact ⟨⟨_, rfl, by omega, fun _ => ⟨by omega, by omega⟩⟩, hB0⟩

/-- How long a book's lists are. -/
def Small (b : Bk) : Prop := b.things.length ≤ 1048576 ∧ b.bs.length ≤ 1048576 ∧ ∀ x ∈ b.bs, x.has.length ≤ 1048576 ∧ x.needs.length ≤ 1048576

set_option maxHeartbeats 1000000 in
theorem szBatchS_any (bs : List Ba) (v : Value) (l : Int) (w : World) (h : Bs w v bs) (hl : 0 ≤ l) (hl' : l ≤ 1048576) :
    Calls Try.prog 17 #[v, .int .i64 l] w fun e w' => (∃ x : Int, e = .returned (.int .i64 x) ∧ x ≤ l ∧ (0 ≤ x → bs.length ≤ 1048576 ∧ ∀ y ∈ bs, y.has.length ≤ 1048576 ∧ y.needs.length ≤ 1048576)) ∧ Below w.heap.size w w' := by
  obtain ⟨a, c, rfl, hn, hpos⟩ := h
  unfold maxLen at hn
  by_cases h0 : l - bs.length < 0
  · go_enter Try.func17, Try.ntmps17
    go_wp2
    go_ret
    exact ⟨⟨_, rfl, by omega, by omega⟩, Below.refl _ _⟩
  have H0 : Hid ((bs.length : Int) ≤ l) := by show _ ≤ _; omega
  go_enter Try.func17, Try.ntmps17
  go_wp2
  go_loopw [1, 5] (fun x i w' => ∃ (k : Nat) (y : Int), k ≤ bs.length ∧ i = .int .i64 k ∧ x = .int .i64 y ∧ 0 ≤ y ∧ y ≤ l ∧ (∀ (j : Nat) (z : Ba), j < k → bs[j]? = some z → z.has.length ≤ 1048576 ∧ z.needs.length ≤ 1048576) ∧ Below w.heap.size w w') (fun _ i _ => bs.length - (intOf i).toNat)
  case atStart => exact ⟨0, _, by omega, rfl, rfl, by omega, by omega, fun j z hj => by omega, Below.refl _ _⟩
  case round =>
    obtain ⟨k, y, hk, rfl, rfl, hy, hy', hall, hB⟩ := hrel
    have Hall : Hid (∀ (j : Nat) (z : Ba), j < k → bs[j]? = some z → z.has.length ≤ 1048576 ∧ z.needs.length ≤ 1048576) := hall
    clear hall
    by_cases hp : k < bs.length
    · obtain ⟨b, o, rfl, hS, hb⟩ := hpos (by omega)
      obtain ⟨a1, d1, a2, d2, c0, c1, c2, l1, l2, z0⟩ := ((hS.at hp).up hB hb).cells
      have Hx : Hid (bs[k]? = some bs[k]) := List.getElem?_eq_getElem hp
      generalize bs[k] = x0 at *
      go_wp2_with fail
      refine (szBatch_any x0 _ _ _ _ l1 l2 z0 hy (by omega)).mono ?_
      rintro e w1 ⟨⟨y1, rfl, hy1, hy1'⟩, hb1⟩
      have hB1 := up_trans hB hb1
      clear c0 c1 c2 l1 l2 hS
      by_cases g1 : y1 < 0
      · go_wp2_with fail
        go_ret
        exact ⟨⟨_, rfl, by omega, by omega⟩, hB1⟩
      · have H1 : Hid (x0.has.length ≤ 1048576 ∧ x0.needs.length ≤ 1048576) := hy1' (by omega)
        clear hy1'
        go_wp2_with fail
        go_roundw
        case rel =>
          refine ⟨k + 1, y1, by omega, by go_num, rfl, by omega, by omega, fun j z hj hz => ?_, hB1⟩
          by_cases e : j = k
          · subst e
            rw [Hx.out] at hz
            obtain rfl := Option.some.inj hz
            exact H1.out
          · exact Hall.out j z (by omega) hz
        case measure => simp [intOf]; omega
    · go_wp2_with fail
      go_ret
      refine ⟨⟨_, rfl, by omega, fun _ => ⟨by have := H0.out; omega, fun z hz => ?_⟩⟩, hB⟩
      obtain ⟨j, hj, rfl⟩ := List.getElem_of_mem hz
      exact Hall.out j _ (by omega) (by rw [List.getElem?_eq_getElem])

set_option maxHeartbeats 1000000 in
theorem szBook_any (b : Bk) (v : Value) (l : Int) (w : World) (h : BkV w v b) (hl : 0 ≤ l) (hl' : l ≤ 1048576) :
    Calls Try.prog 5 #[v, .int .i64 l] w fun e w' => (∃ x : Int, e = .returned (.int .i64 x) ∧ x ≤ l ∧ (0 ≤ x → Small b)) ∧ Below w.heap.size w w' := by
  obtain ⟨a1, c1, a2, c2, rfl, h1, h2⟩ := h.parts
  have hB0 := (Below.refl w.heap.size w).alloc (Nat.le_refl _) (.cells #[.slice a1 b.things.length c1, .slice a2 b.bs.length c2] 25)
  go_enter Try.func5, Try.ntmps5
  go_wp2_with fail
  refine (szStr_any b.things _ _ _ (h1.up hB0) hl hl').mono ?_
  rintro e w' ⟨⟨y1, rfl, hy1, hy1'⟩, hw⟩
  obtain rfl := hw.symm
  by_cases g1 : y1 < 0
  · go_wp2_with fail
    go_ret
    exact ⟨⟨_, rfl, by omega, by omega⟩, hB0⟩
  go_wp2_with fail
  refine (szBatchS_any b.bs _ _ _ (h2.up hB0) (by omega) (by omega)).mono ?_
  rintro e w1 ⟨⟨y2, rfl, hy2, hy2'⟩, hb1⟩
  have hB1 := up_trans hB0 hb1
  by_cases g2 : y2 < 0
  · go_wp2_with fail
    go_ret
    exact ⟨⟨_, rfl, by omega, by omega⟩, hB1⟩
  have H2 := hy2' (by omega)
  clear hy2'
  go_wp2_with fail
  go_ret
  exact ⟨⟨_, rfl, by omega, fun _ => ⟨by omega, H2.1, H2.2⟩⟩, hB1⟩
end Go.Proofs.Ytmkpaciaollcbaa
