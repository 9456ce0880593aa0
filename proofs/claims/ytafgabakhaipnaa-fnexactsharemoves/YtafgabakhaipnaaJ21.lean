/- The laws' own helpers over lists of texts. -/
import Derived.Test.YtafgabakhaipnaaJ17
namespace Go.Proofs.Ytafgabakhaipnaa
open Go.RowKit

set_option maxHeartbeats 1000000 in
theorem szStr_any (ss : List ByteArray) (v : Value) (l : Int) (w : World) (h : Ls w v ss) (hl : 0 ≤ l) (hl' : l ≤ 1048576) :
    Calls Try.prog 13 #[v, .int .i64 l] w fun e w' => (∃ x : Int, e = .returned (.int .i64 x) ∧ x ≤ l ∧ (0 ≤ x → (ss.length : Int) ≤ l)) ∧ w' = w := by
  obtain ⟨a, c, rfl, hn, hz, hpos⟩ := h
  unfold maxLen at hn hz
  by_cases h0 : l - ss.length < 0
  · go_enter Try.func13, Try.ntmps13
    go_wp2
    go_ret
    exact ⟨⟨_, rfl, by omega, by omega⟩, rfl⟩
  have H0 : Hid ((ss.length : Int) ≤ l) := by show _ ≤ _; omega
  go_enter Try.func13, Try.ntmps13
  go_wp2
  go_loop [1, 5] (fun x i => ∃ (k : Nat) (y : Int), k ≤ ss.length ∧ i = .int .i64 k ∧ x = .int .i64 y ∧ 0 ≤ y ∧ y ≤ l) (fun _ i => ss.length - (intOf i).toNat)
  case atStart => exact ⟨0, _, by omega, rfl, rfl, by omega, by omega⟩
  case round =>
    obtain ⟨k, y, hk, rfl, rfl, hy, hy'⟩ := hrel
    by_cases hp : k < ss.length
    · obtain ⟨b, o, rfl, hS, hb⟩ := hpos (by omega)
      have c0 := hS.cell hp
      have z0 := hz ss[k] (by simp)
      generalize ss[k] = s0 at *
      by_cases hq : y - s0.size < 0
      · go_wp2
        go_ret
        exact ⟨⟨_, rfl, by omega, by omega⟩, rfl⟩
      · go_wp2
        go_round
        case rel => exact ⟨k + 1, _, by omega, by go_num, rfl, by omega, by omega⟩
        case measure => simp [intOf]; omega
    · go_wp2
      go_ret
      exact ⟨⟨_, rfl, by omega, fun _ => H0.out⟩, rfl⟩

theorem sizeStr : (Try.prog.info? 9).map (·.size) = some 1 := by kernel_rfl
theorem run_makeStrs (n : Nat) (hn : n ≤ 1048576) : ∃ C : Array Value, C.size = n ∧ ∀ w, (Instr.makeSlice 22 (.int .i64 (n : Int)) (.int .i64 (n : Int))).run Try.prog w = .ok (.slice (some ⟨w.heap.size, 0, none⟩) n n) (w.alloc (.cells C 9)) := by
  obtain ⟨i, hi, hz⟩ := Option.map_eq_some_iff.1 infoStr
  simp only [Prod.mk.injEq] at hz
  obtain ⟨hz, hs, hb⟩ := hz
  refine ⟨madeCells (Value.string ⟨#[]⟩).cells (n * 1), by rw [size_madeCells, Nat.mul_one], fun w => ?_⟩
  have := run_make (P := Try.prog) w 22 9 i _ Try.underlying22 hi hz .i64 .i64 (n : Int) (n : Int) (by omega) (by omega) (by rw [hb]; omega) (by omega)
  simp only [Int.toNat_natCast, hs] at this
  exact this
theorem strs_store {w1 : World} {b k : Nat} {ss : List ByteArray} (hk : k < ss.length) (h : StrsAt w1 b 0 (ss.take k)) (ht : w1.there b 0 ss.length) : StrsAt (w1.setCell ⟨b, k, none⟩ (.string ss[k])) b 0 (ss.take (k + 1)) := by
  intro i s hs
  rw [Nat.zero_add]
  by_cases hi : i = k
  · subst hi
    rw [List.getElem?_take, if_pos (by omega), List.getElem?_eq_getElem hk] at hs
    obtain rfl := Option.some.inj hs
    have h1 := (ht i hk).1
    rw [Nat.zero_add] at h1
    obtain ⟨x, hx⟩ := Option.isSome_iff_exists.1 h1
    exact World.cell?_setCell_same _ _ _ hx
  · rw [World.cell?_setCell_other _ _ _ _ (by simp <;> omega)]
    have := h i s (by
      rw [List.getElem?_take] at hs ⊢
      split at hs
      · rw [if_pos (by omega)]; exact hs
      · cases hs)
    rwa [Nat.zero_add] at this
theorem there_set1 {w : World} {b n j : Nat} {u : Value} (h : w.there b 0 n) : (w.setCell ⟨b, j, none⟩ u).there b 0 n := by
  have := World.there_setCells h b j [u]
  simpa [World.setCells] using this
theorem below_set1 {B : Nat} {a w : World} {b j : Nat} (h : Below B a w) (hb : B ≤ b) (u : Value) : Below B a (w.setCell ⟨b, j, none⟩ u) := h.setCell (p := ⟨b, j, none⟩) hb u

set_option maxHeartbeats 1000000 in
theorem toStr_any (ss : List ByteArray) (v : Value) (w : World) (h : Ls w v ss) (hn : ss.length ≤ 1048576) :
    Calls Try.prog 17 #[v] w fun e w' => (∃ u, e = .returned u ∧ LsO w' w.heap.size u ss) ∧ Below w.heap.size w w' := by
  obtain ⟨a, c, rfl, hm, hz, hpos⟩ := h
  have Hz : Hid (ss.length ≤ maxLen ∧ ∀ s ∈ ss, s.size ≤ maxLen) := ⟨hm, hz⟩
  clear hm hz
  obtain ⟨C, hC, hmk⟩ := run_makeStrs ss.length hn
  have HC : Hid (C.size = ss.length) := hC
  clear hC
  go_enter Try.func17, Try.ntmps17
  go_wp2
  go_loopw [4] (fun i w' => ∃ k : Nat, k ≤ ss.length ∧ i = .int .i64 k ∧ StrsAt w' w.heap.size 0 (ss.take k) ∧ w'.there w.heap.size 0 ss.length ∧ w.heap.size < w'.heap.size ∧ Below w.heap.size w w') (fun i _ => ss.length - (intOf i).toNat)
  case atStart => exact ⟨0, by omega, rfl, fun i p hp => by simp at hp, by rw [← HC.out]; exact there_alloc _ _ _, by simp, by go_grown⟩
  case round =>
    obtain ⟨k, hk, rfl, hra, hth, hlt, hB⟩ := hrel
    by_cases hp : k < ss.length
    · obtain ⟨b, o, rfl, hS, hb⟩ := hpos (by omega)
      have c0 := (hB.cell (p := ⟨b, o + k, none⟩) hb).trans (hS.cell hp)
      have Hst : Hid (StrsAt (wr.setCell ⟨w.heap.size, k, none⟩ (.string ss[k])) w.heap.size 0 (ss.take (k + 1)) ∧ (wr.setCell ⟨w.heap.size, k, none⟩ (.string ss[k])).there w.heap.size 0 ss.length ∧ Below w.heap.size w (wr.setCell ⟨w.heap.size, k, none⟩ (.string ss[k]))) := ⟨strs_store hp hra hth, there_set1 hth, below_set1 hB (Nat.le_refl _) _⟩
      obtain ⟨⟨x0, d0⟩, f0⟩ : (∃ x, wr.cell? ⟨w.heap.size, k, none⟩ = some x) ∧ wr.frozen? ⟨w.heap.size, k, none⟩ = false := by
        have := hth k hp
        rw [Nat.zero_add] at this
        exact ⟨Option.isSome_iff_exists.1 this.1, this.2⟩
      clear hra hth
      generalize ss[k] = s0 at *
      go_wp2_with fail
      go_roundw
      case rel => exact ⟨k + 1, by omega, by go_num, Hst.out.1, Hst.out.2.1, by simpa using hlt, Hst.out.2.2⟩
      case measure => simp [intOf]; omega
    · go_wp2_with fail
      go_ret
      exact ⟨⟨_, rfl, w.heap.size, rfl, by rwa [List.take_of_length_le (by omega)] at hra, hth, Nat.le_refl _, hlt, Hz.out⟩, hB⟩

theorem LsO.set {w : World} {base r j : Nat} {v u : Value} {ss : List ByteArray} (h : LsO w base v ss) (hr : r < base) : LsO (w.setCell ⟨r, j, none⟩ u) base v ss := h.kept (grown_setCell (grown_refl _ _) _) hr
theorem LsO.shape {w : World} {base : Nat} {v : Value} {ss : List ByteArray} (h : LsO w base v ss) : ∃ b, v = .slice (some ⟨b, 0, none⟩) ss.length ss.length := by
  obtain ⟨b, rfl, -⟩ := h; exact ⟨b, rfl⟩
set_option maxHeartbeats 1000000 in
theorem eqLs_any (ss : List ByteArray) (va vb : Value) (w : World) (ha : Ls w va ss) (hb : Ls w vb ss) :
    Calls Try.prog 8 #[va, vb] w fun e w' => e = .returned (.bool true) ∧ Below w.heap.size w w' := by
  obtain ⟨a1, c1, rfl, hn, -, hp1⟩ := ha
  obtain ⟨a2, c2, rfl, -, -, hp2⟩ := hb
  unfold maxLen at hn
  go_enter Try.func8, Try.ntmps8
  go_wp2
  go_loopw [5] (fun i w' => ∃ k : Nat, k ≤ ss.length ∧ i = .int .i64 k ∧ Below w.heap.size w w') (fun i _ => ss.length - (intOf i).toNat)
  case atStart => exact ⟨0, by omega, rfl, Below.refl _ _⟩
  case round =>
    obtain ⟨k, hk, rfl, hB⟩ := hrel
    by_cases hp : k < ss.length
    · obtain ⟨g1, o1, rfl, hS1, hg1⟩ := hp1 (by omega)
      obtain ⟨g2, o2, rfl, hS2, hg2⟩ := hp2 (by omega)
      have c1 := (hS1.up hB hg1).cell hp
      have c2 := (hS2.up hB hg2).cell hp
      go_wp2_with fail
      go_quiet (fail)
      go_wp2_with fail
      go_roundw
      case rel => exact ⟨k + 1, by omega, by go_num, below_drewN hB nq⟩
      case measure => simp [intOf]; omega
    · go_wp2_with fail
      go_ret
      exact ⟨rfl, hB⟩
end Go.Proofs.Ytafgabakhaipnaa

/- The laws' own helpers over lists of texts and books. -/
namespace Go.Proofs.Ytafgabakhaipnaa
open Go.RowKit

set_option maxHeartbeats 1000000 in
theorem szBatch_any (x : Ba) (hv nv : Value) (l : Int) (w : World) (h1 : Ls w hv x.has) (h2 : Ls w nv x.needs) (hz : x.nm.size ≤ maxLen) (hl : 0 ≤ l) (hl' : l ≤ 1048576) :
    Calls Try.prog 26 #[.agg #[.string x.nm, hv, nv], .int .i64 l] w fun e w' => (∃ y : Int, e = .returned (.int .i64 y) ∧ y ≤ l ∧ (0 ≤ y → x.has.length ≤ 1048576 ∧ x.needs.length ≤ 1048576)) ∧ Below w.heap.size w w' := by
  obtain ⟨a1, c1, rfl, -⟩ := id h1
  obtain ⟨a2, c2, rfl, -⟩ := id h2
  unfold maxLen at hz
  have hB0 := (Below.refl w.heap.size w).alloc (Nat.le_refl _) (.cells #[.string x.nm, .slice a1 x.has.length c1, .slice a2 x.needs.length c2] 52)
  by_cases h0 : l - x.nm.size < 0
  · go_enter Try.func26, Try.ntmps26
    go_wp2
    go_ret
    exact ⟨⟨_, rfl, by omega, by omega⟩, hB0⟩
  go_enter Try.func26, Try.ntmps26
  go_wp2_with fail
  refine (szStr_any x.has _ _ _ (h1.up hB0) (by omega) (by omega)).mono ?_
  rintro e w' ⟨⟨y1, rfl, hy1, hy1'⟩, hw⟩
  obtain rfl := hw.symm
  by_cases g1 : y1 < 0
  · go_wp2_with fail
    go_ret
    exact ⟨⟨_, rfl, by omega, by omega⟩, hB0⟩
  go_wp2_with fail
  refine (szStr_any x.needs _ _ _ (h2.up hB0) (by omega) (by omega)).mono ?_
  rintro e w' ⟨⟨y2, rfl, hy2, hy2'⟩, hw⟩
  obtain rfl := hw.symm
  by_cases g2 : y2 < 0
  · go_wp2_with fail
    go_ret
    exact ⟨⟨_, rfl, by omega, by omega⟩, hB0⟩
  go_wp2_with fail
  go_ret
  exact ⟨⟨_, rfl, by omega, fun _ => ⟨by omega, by omega⟩⟩, hB0⟩

/-- How long a book's lists are. -/
def Small (b : Bk) : Prop := b.things.length ≤ 1048576 ∧ b.bs.length ≤ 1048576 ∧ ∀ x ∈ b.bs, x.has.length ≤ 1048576 ∧ x.needs.length ≤ 1048576

set_option maxHeartbeats 1000000 in
theorem szBatchS_any (bs : List Ba) (v : Value) (l : Int) (w : World) (h : Bs w v bs) (hl : 0 ≤ l) (hl' : l ≤ 1048576) :
    Calls Try.prog 14 #[v, .int .i64 l] w fun e w' => (∃ x : Int, e = .returned (.int .i64 x) ∧ x ≤ l ∧ (0 ≤ x → bs.length ≤ 1048576 ∧ ∀ y ∈ bs, y.has.length ≤ 1048576 ∧ y.needs.length ≤ 1048576)) ∧ Below w.heap.size w w' := by
  obtain ⟨a, c, rfl, hn, hpos⟩ := h
  unfold maxLen at hn
  by_cases h0 : l - bs.length < 0
  · go_enter Try.func14, Try.ntmps14
    go_wp2
    go_ret
    exact ⟨⟨_, rfl, by omega, by omega⟩, Below.refl _ _⟩
  have H0 : Hid ((bs.length : Int) ≤ l) := by show _ ≤ _; omega
  go_enter Try.func14, Try.ntmps14
  go_wp2
  go_loopw [1, 5] (fun x i w' => ∃ (k : Nat) (y : Int), k ≤ bs.length ∧ i = .int .i64 k ∧ x = .int .i64 y ∧ 0 ≤ y ∧ y ≤ l ∧ (∀ (j : Nat) (z : Ba), j < k → bs[j]? = some z → z.has.length ≤ 1048576 ∧ z.needs.length ≤ 1048576) ∧ Below w.heap.size w w') (fun _ i _ => bs.length - (intOf i).toNat)
  case atStart => exact ⟨0, _, by omega, rfl, rfl, by omega, by omega, fun j z hj => by omega, Below.refl _ _⟩
  case round =>
    obtain ⟨k, y, hk, rfl, rfl, hy, hy', hall, hB⟩ := hrel
    have Hall : Hid (∀ (j : Nat) (z : Ba), j < k → bs[j]? = some z → z.has.length ≤ 1048576 ∧ z.needs.length ≤ 1048576) := hall
    clear hall
    by_cases hp : k < bs.length
    · obtain ⟨b, o, rfl, hS, hb⟩ := hpos (by omega)
      obtain ⟨a1, d1, a2, d2, c0, c1, c2, l1, l2, z0⟩ := ((hS.at hp).up hB hb).cells
      have Hx : Hid (bs[k]? = some bs[k]) := List.getElem?_eq_getElem hp
      generalize bs[k] = x0 at *
      go_wp2_with fail
      refine (szBatch_any x0 _ _ _ _ l1 l2 z0 hy (by omega)).mono ?_
      rintro e w1 ⟨⟨y1, rfl, hy1, hy1'⟩, hb1⟩
      have hB1 := up_trans hB hb1
      clear c0 c1 c2 l1 l2 hS
      by_cases g1 : y1 < 0
      · go_wp2_with fail
        go_ret
        exact ⟨⟨_, rfl, by omega, by omega⟩, hB1⟩
      · have H1 : Hid (x0.has.length ≤ 1048576 ∧ x0.needs.length ≤ 1048576) := hy1' (by omega)
        clear hy1'
        go_wp2_with fail
        go_roundw
        case rel =>
          refine ⟨k + 1, y1, by omega, by go_num, rfl, by omega, by omega, fun j z hj hz => ?_, hB1⟩
          by_cases e : j = k
          · subst e
            rw [Hx.out] at hz
            obtain rfl := Option.some.inj hz
            exact H1.out
          · exact Hall.out j z (by omega) hz
        case measure => simp [intOf]; omega
    · go_wp2_with fail
      go_ret
      refine ⟨⟨_, rfl, by omega, fun _ => ⟨by have := H0.out; omega, fun z hz => ?_⟩⟩, hB⟩
      obtain ⟨j, hj, rfl⟩ := List.getElem_of_mem hz
      exact Hall.out j _ (by omega) (by rw [List.getElem?_eq_getElem])

set_option maxHeartbeats 1000000 in
theorem szBook_any (b : Bk) (v : Value) (l : Int) (w : World) (h : BkV w v b) (hl : 0 ≤ l) (hl' : l ≤ 1048576) :
    Calls Try.prog 4 #[v, .int .i64 l] w fun e w' => (∃ x : Int, e = .returned (.int .i64 x) ∧ x ≤ l ∧ (0 ≤ x → Small b)) ∧ Below w.heap.size w w' := by
  obtain ⟨a1, c1, a2, c2, rfl, h1, h2⟩ := h.parts
  have hB0 := (Below.refl w.heap.size w).alloc (Nat.le_refl _) (.cells #[.slice a1 b.things.length c1, .slice a2 b.bs.length c2] 25)
  go_enter Try.func4, Try.ntmps4
  go_wp2_with fail
  refine (szStr_any b.things _ _ _ (h1.up hB0) hl hl').mono ?_
  rintro e w' ⟨⟨y1, rfl, hy1, hy1'⟩, hw⟩
  obtain rfl := hw.symm
  by_cases g1 : y1 < 0
  · go_wp2_with fail
    go_ret
    exact ⟨⟨_, rfl, by omega, by omega⟩, hB0⟩
  go_wp2_with fail
  refine (szBatchS_any b.bs _ _ _ (h2.up hB0) (by omega) (by omega)).mono ?_
  rintro e w1 ⟨⟨y2, rfl, hy2, hy2'⟩, hb1⟩
  have hB1 := up_trans hB0 hb1
  by_cases g2 : y2 < 0
  · go_wp2_with fail
    go_ret
    exact ⟨⟨_, rfl, by omega, by omega⟩, hB1⟩
  have H2 := hy2' (by omega)
  clear hy2'
  go_wp2_with fail
  go_ret
  exact ⟨⟨_, rfl, by omega, fun _ => ⟨by omega, H2.1, H2.2⟩⟩, hB1⟩
end Go.Proofs.Ytafgabakhaipnaa
