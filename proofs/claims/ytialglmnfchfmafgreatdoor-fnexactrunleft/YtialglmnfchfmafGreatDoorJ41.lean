/- The laws' own helpers over lists of texts and books. -/
import Derived.Test.YtialglmnfchfmafGreatDoorJ40
import Derived.Test.YtialglmnfchfmafGreatDoorJ29
namespace Go.Proofs.YtialglmnfchfmafGreatDoor
open Go.RowKit

set_option maxHeartbeats 1000000 in
theorem szStr_any (ss : List ByteArray) (v : Value) (l : Int) (w : World) (h : Ls w v ss) (hl : 0 ≤ l) (hl' : l ≤ 1048576) :
    Calls Tryz.prog 83 #[v, .int .i64 l] w fun e w' => (∃ x : Int, e = .returned (.int .i64 x) ∧ x ≤ l ∧ (0 ≤ x → (ss.length : Int) ≤ l)) ∧ w' = w := by
  obtain ⟨a, c, rfl, hn, hz, hpos⟩ := h
  unfold maxLen at hn hz
  by_cases h0 : l - ss.length < 0
  · go_enter Tryz.func83, Tryz.ntmps83
    go_wp2
    go_ret
    exact ⟨⟨_, rfl, by omega, by omega⟩, rfl⟩
  have H0 : Hid ((ss.length : Int) ≤ l) := by show _ ≤ _; omega
  go_enter Tryz.func83, Tryz.ntmps83
  go_wp2
  go_loop [1, 5] (fun x i => ∃ (k : Nat) (y : Int), k ≤ ss.length ∧ i = .int .i64 k ∧ x = .int .i64 y ∧ 0 ≤ y ∧ y ≤ l) (fun _ i => ss.length - (intOf i).toNat)
  case atStart => exact ⟨0, _, by omega, rfl, rfl, by omega, by omega⟩
  case round =>
    obtain ⟨k, y, hk, rfl, rfl, hy, hy'⟩ := hrel
    by_cases hp : k < ss.length
    · obtain ⟨b, o, rfl, hS, hb⟩ := hpos (by omega)
      have c0 := hS.cell hp
      have z0 := hz ss[k] (by simp)
      generalize ss[k] = s0 at *
      by_cases hq : y - s0.size < 0
      · go_wp2
        go_ret
        exact ⟨⟨_, rfl, by omega, by omega⟩, rfl⟩
      · go_wp2
        go_round
        case rel => exact ⟨k + 1, _, by omega, by go_num, rfl, by omega, by omega⟩
        case measure => simp [intOf]; omega
    · go_wp2
      go_ret
      exact ⟨⟨_, rfl, by omega, fun _ => H0.out⟩, rfl⟩

set_option maxHeartbeats 1000000 in
theorem szBatch_any (x : Ba) (hv nv : Value) (l : Int) (w : World) (h1 : Ls w hv x.has) (h2 : Ls w nv x.needs) (hz : x.nm.size ≤ maxLen) (hl : 0 ≤ l) (hl' : l ≤ 1048576) :
    Calls Tryz.prog 116 #[.agg #[.string x.nm, hv, nv], .int .i64 l] w fun e w' => (∃ y : Int, e = .returned (.int .i64 y) ∧ y ≤ l ∧ (0 ≤ y → x.has.length ≤ 1048576 ∧ x.needs.length ≤ 1048576)) ∧ Below w.heap.size w w' := by
  obtain ⟨a1, c1, rfl, -⟩ := id h1
  obtain ⟨a2, c2, rfl, -⟩ := id h2
  unfold maxLen at hz
  have hB0 := (Below.refl w.heap.size w).alloc (Nat.le_refl _) (.cells #[.string x.nm, .slice a1 x.has.length c1, .slice a2 x.needs.length c2] 168)
  by_cases h0 : l - x.nm.size < 0
  · go_enter Tryz.func116, Tryz.ntmps116
    go_wp2
    go_ret
    exact ⟨⟨_, rfl, by omega, by omega⟩, hB0⟩
  go_enter Tryz.func116, Tryz.ntmps116
  go_wp2_with fail
  refine (szStr_any x.has _ _ _ (h1.up hB0) (by omega) (by omega)).mono ?_
  rintro e w' ⟨⟨y1, rfl, hy1, hy1'⟩, hw⟩
  obtain rfl := hw.symm
  by_cases g1 : y1 < 0
  · go_wp2_with fail
    go_ret
    exact ⟨⟨_, rfl, by omega, by omega⟩, hB0⟩
  go_wp2_with fail
  refine (szStr_any x.needs _ _ _ (h2.up hB0) (by omega) (by omega)).mono ?_
  rintro e w' ⟨⟨y2, rfl, hy2, hy2'⟩, hw⟩
  obtain rfl := hw.symm
  by_cases g2 : y2 < 0
  · go_wp2_with fail
    go_ret
    exact ⟨⟨_, rfl, by omega, by omega⟩, hB0⟩
  go_wp2_with fail
  go_ret
  exact ⟨⟨_, rfl, by omega, fun _ => ⟨by omega, by omega⟩⟩, hB0⟩

/-- How long a book's lists are. -/
def Small (b : Bk) : Prop := b.things.length ≤ 1048576 ∧ b.bs.length ≤ 1048576 ∧ ∀ x ∈ b.bs, x.has.length ≤ 1048576 ∧ x.needs.length ≤ 1048576

set_option maxHeartbeats 1000000 in
theorem szBatchS_any (bs : List Ba) (v : Value) (l : Int) (w : World) (h : Bs w v bs) (hl : 0 ≤ l) (hl' : l ≤ 1048576) :
    Calls Tryz.prog 84 #[v, .int .i64 l] w fun e w' => (∃ x : Int, e = .returned (.int .i64 x) ∧ x ≤ l ∧ (0 ≤ x → bs.length ≤ 1048576 ∧ ∀ y ∈ bs, y.has.length ≤ 1048576 ∧ y.needs.length ≤ 1048576)) ∧ Below w.heap.size w w' := by
  obtain ⟨a, c, rfl, hn, hpos⟩ := h
  unfold maxLen at hn
  by_cases h0 : l - bs.length < 0
  · go_enter Tryz.func84, Tryz.ntmps84
    go_wp2
    go_ret
    exact ⟨⟨_, rfl, by omega, by omega⟩, Below.refl _ _⟩
  have H0 : Hid ((bs.length : Int) ≤ l) := by show _ ≤ _; omega
  go_enter Tryz.func84, Tryz.ntmps84
  go_wp2
  go_loopw [1, 5] (fun x i w' => ∃ (k : Nat) (y : Int), k ≤ bs.length ∧ i = .int .i64 k ∧ x = .int .i64 y ∧ 0 ≤ y ∧ y ≤ l ∧ (∀ (j : Nat) (z : Ba), j < k → bs[j]? = some z → z.has.length ≤ 1048576 ∧ z.needs.length ≤ 1048576) ∧ Below w.heap.size w w') (fun _ i _ => bs.length - (intOf i).toNat)
  case atStart => exact ⟨0, _, by omega, rfl, rfl, by omega, by omega, fun j z hj => by omega, Below.refl _ _⟩
  case round =>
    obtain ⟨k, y, hk, rfl, rfl, hy, hy', hall, hB⟩ := hrel
    have Hall : Hid (∀ (j : Nat) (z : Ba), j < k → bs[j]? = some z → z.has.length ≤ 1048576 ∧ z.needs.length ≤ 1048576) := hall
    clear hall
    by_cases hp : k < bs.length
    · obtain ⟨b, o, rfl, hS, hb⟩ := hpos (by omega)
      obtain ⟨a1, d1, a2, d2, c0, c1, c2, l1, l2, z0⟩ := ((hS.at hp).up hB hb).cells
      have Hx : Hid (bs[k]? = some bs[k]) := List.getElem?_eq_getElem hp
      generalize bs[k] = x0 at *
      go_wp2_with fail
      refine (szBatch_any x0 _ _ _ _ l1 l2 z0 hy (by omega)).mono ?_
      rintro e w1 ⟨⟨y1, rfl, hy1, hy1'⟩, hb1⟩
      have hB1 := up_trans hB hb1
      clear c0 c1 c2 l1 l2 hS
      by_cases g1 : y1 < 0
      · go_wp2_with fail
        go_ret
        exact ⟨⟨_, rfl, by omega, by omega⟩, hB1⟩
      · have H1 : Hid (x0.has.length ≤ 1048576 ∧ x0.needs.length ≤ 1048576) := hy1' (by omega)
        clear hy1'
        go_wp2_with fail
        go_roundw
        case rel =>
          refine ⟨k + 1, y1, by omega, by go_num, rfl, by omega, by omega, fun j z hj hz => ?_, hB1⟩
          by_cases e : j = k
          · subst e
            rw [Hx.out] at hz
            obtain rfl := Option.some.inj hz
            exact H1.out
          · exact Hall.out j z (by omega) hz
        case measure => simp [intOf]; omega
    · go_wp2_with fail
      go_ret
      refine ⟨⟨_, rfl, by omega, fun _ => ⟨by have := H0.out; omega, fun z hz => ?_⟩⟩, hB⟩
      obtain ⟨j, hj, rfl⟩ := List.getElem_of_mem hz
      exact Hall.out j _ (by omega) (by rw [List.getElem?_eq_getElem])

set_option maxHeartbeats 1000000 in
theorem szBook_any (b : Bk) (v : Value) (l : Int) (w : World) (h : BkV w v b) (hl : 0 ≤ l) (hl' : l ≤ 1048576) :
    Calls Tryz.prog 40 #[v, .int .i64 l] w fun e w' => (∃ x : Int, e = .returned (.int .i64 x) ∧ x ≤ l ∧ (0 ≤ x → Small b)) ∧ Below w.heap.size w w' := by
  obtain ⟨a1, c1, a2, c2, rfl, h1, h2⟩ := h.parts
  have hB0 := (Below.refl w.heap.size w).alloc (Nat.le_refl _) (.cells #[.slice a1 b.things.length c1, .slice a2 b.bs.length c2] 41)
  go_enter Tryz.func40, Tryz.ntmps40
  go_wp2_with fail
  refine (szStr_any b.things _ _ _ (h1.up hB0) hl hl').mono ?_
  rintro e w' ⟨⟨y1, rfl, hy1, hy1'⟩, hw⟩
  obtain rfl := hw.symm
  by_cases g1 : y1 < 0
  · go_wp2_with fail
    go_ret
    exact ⟨⟨_, rfl, by omega, by omega⟩, hB0⟩
  go_wp2_with fail
  refine (szBatchS_any b.bs _ _ _ (h2.up hB0) (by omega) (by omega)).mono ?_
  rintro e w1 ⟨⟨y2, rfl, hy2, hy2'⟩, hb1⟩
  have hB1 := up_trans hB0 hb1
  by_cases g2 : y2 < 0
  · go_wp2_with fail
    go_ret
    exact ⟨⟨_, rfl, by omega, by omega⟩, hB1⟩
  have H2 := hy2' (by omega)
  clear hy2'
  go_wp2_with fail
  go_ret
  exact ⟨⟨_, rfl, by omega, fun _ => ⟨by omega, H2.1, H2.2⟩⟩, hB1⟩
end Go.Proofs.YtialglmnfchfmafGreatDoor

/- The laws' copies of lists of texts and books. -/
namespace Go.Proofs.YtialglmnfchfmafGreatDoor
open Go.RowKit

theorem sizeStr : (Tryz.prog.info? 9).map (·.size) = some 1 := by kernel_rfl
theorem run_makeStrs (n : Nat) (hn : n ≤ 1048576) : ∃ C : Array Value, C.size = n ∧ ∀ w, (Instr.makeSlice 27 (.int .i64 (n : Int)) (.int .i64 (n : Int))).run Tryz.prog w = .ok (.slice (some ⟨w.heap.size, 0, none⟩) n n) (w.alloc (.cells C 9)) := by
  obtain ⟨i, hi, hz⟩ := Option.map_eq_some_iff.1 infoStr
  simp only [Prod.mk.injEq] at hz
  obtain ⟨hz, hs, hb⟩ := hz
  refine ⟨madeCells (Value.string ⟨#[]⟩).cells (n * 1), by rw [size_madeCells, Nat.mul_one], fun w => ?_⟩
  have := run_make (P := Tryz.prog) w 27 9 i _ Tryz.underlying27 hi hz .i64 .i64 (n : Int) (n : Int) (by omega) (by omega) (by rw [hb]; omega) (by omega)
  simp only [Int.toNat_natCast, hs] at this
  exact this
theorem strs_store {w1 : World} {b k : Nat} {ss : List ByteArray} (hk : k < ss.length) (h : StrsAt w1 b 0 (ss.take k)) (ht : w1.there b 0 ss.length) : StrsAt (w1.setCell ⟨b, k, none⟩ (.string ss[k])) b 0 (ss.take (k + 1)) := by
  intro i s hs
  rw [Nat.zero_add]
  by_cases hi : i = k
  · subst hi
    rw [List.getElem?_take, if_pos (by omega), List.getElem?_eq_getElem hk] at hs
    obtain rfl := Option.some.inj hs
    have h1 := (ht i hk).1
    rw [Nat.zero_add] at h1
    obtain ⟨x, hx⟩ := Option.isSome_iff_exists.1 h1
    exact World.cell?_setCell_same _ _ _ hx
  · rw [World.cell?_setCell_other _ _ _ _ (by simp <;> omega)]
    have := h i s (by
      rw [List.getElem?_take] at hs ⊢
      split at hs
      · rw [if_pos (by omega)]; exact hs
      · cases hs)
    rwa [Nat.zero_add] at this
theorem there_set1 {w : World} {b n j : Nat} {u : Value} (h : w.there b 0 n) : (w.setCell ⟨b, j, none⟩ u).there b 0 n := by
  have := World.there_setCells h b j [u]
  simpa [World.setCells] using this
theorem below_set1 {B : Nat} {a w : World} {b j : Nat} (h : Below B a w) (hb : B ≤ b) (u : Value) : Below B a (w.setCell ⟨b, j, none⟩ u) := h.setCell (p := ⟨b, j, none⟩) hb u

set_option maxHeartbeats 1000000 in
theorem toStr_any (ss : List ByteArray) (v : Value) (w : World) (h : Ls w v ss) (hn : ss.length ≤ 1048576) :
    Calls Tryz.prog 91 #[v] w fun e w' => (∃ u, e = .returned u ∧ LsO w' w.heap.size u ss) ∧ Below w.heap.size w w' := by
  obtain ⟨a, c, rfl, hm, hz, hpos⟩ := h
  have Hz : Hid (ss.length ≤ maxLen ∧ ∀ s ∈ ss, s.size ≤ maxLen) := ⟨hm, hz⟩
  clear hm hz
  obtain ⟨C, hC, hmk⟩ := run_makeStrs ss.length hn
  have HC : Hid (C.size = ss.length) := hC
  clear hC
  go_enter Tryz.func91, Tryz.ntmps91
  go_wp2
  go_loopw [4] (fun i w' => ∃ k : Nat, k ≤ ss.length ∧ i = .int .i64 k ∧ StrsAt w' w.heap.size 0 (ss.take k) ∧ w'.there w.heap.size 0 ss.length ∧ w.heap.size < w'.heap.size ∧ Below w.heap.size w w') (fun i _ => ss.length - (intOf i).toNat)
  case atStart => exact ⟨0, by omega, rfl, fun i p hp => by simp at hp, by rw [← HC.out]; exact there_alloc _ _ _, by simp, by go_grown⟩
  case round =>
    obtain ⟨k, hk, rfl, hra, hth, hlt, hB⟩ := hrel
    by_cases hp : k < ss.length
    · obtain ⟨b, o, rfl, hS, hb⟩ := hpos (by omega)
      have c0 := (hB.cell (p := ⟨b, o + k, none⟩) hb).trans (hS.cell hp)
      have Hst : Hid (StrsAt (wr.setCell ⟨w.heap.size, k, none⟩ (.string ss[k])) w.heap.size 0 (ss.take (k + 1)) ∧ (wr.setCell ⟨w.heap.size, k, none⟩ (.string ss[k])).there w.heap.size 0 ss.length ∧ Below w.heap.size w (wr.setCell ⟨w.heap.size, k, none⟩ (.string ss[k]))) := ⟨strs_store hp hra hth, there_set1 hth, below_set1 hB (Nat.le_refl _) _⟩
      obtain ⟨⟨x0, d0⟩, f0⟩ : (∃ x, wr.cell? ⟨w.heap.size, k, none⟩ = some x) ∧ wr.frozen? ⟨w.heap.size, k, none⟩ = false := by
        have := hth k hp
        rw [Nat.zero_add] at this
        exact ⟨Option.isSome_iff_exists.1 this.1, this.2⟩
      clear hra hth
      generalize ss[k] = s0 at *
      go_wp2_with fail
      go_roundw
      case rel => exact ⟨k + 1, by omega, by go_num, Hst.out.1, Hst.out.2.1, by simpa using hlt, Hst.out.2.2⟩
      case measure => simp [intOf]; omega
    · go_wp2_with fail
      go_ret
      exact ⟨⟨_, rfl, w.heap.size, rfl, by rwa [List.take_of_length_le (by omega)] at hra, hth, Nat.le_refl _, hlt, Hz.out⟩, hB⟩

theorem sizeBat : (Tryz.prog.info? 132).map (·.size) = some 3 := by kernel_rfl
theorem sizeBk : (Tryz.prog.info? 50).map (·.size) = some 2 := by kernel_rfl
theorem LsO.set {w : World} {base r j : Nat} {v u : Value} {ss : List ByteArray} (h : LsO w base v ss) (hr : r < base) : LsO (w.setCell ⟨r, j, none⟩ u) base v ss := h.kept (grown_setCell (grown_refl _ _) _) hr
theorem LsO.shape {w : World} {base : Nat} {v : Value} {ss : List ByteArray} (h : LsO w base v ss) : ∃ b, v = .slice (some ⟨b, 0, none⟩) ss.length ss.length := by
  obtain ⟨b, rfl, -⟩ := h; exact ⟨b, rfl⟩

set_option maxHeartbeats 1000000 in
theorem toBatch_any (x : Ba) (hv nv : Value) (w : World) (h1 : Ls w hv x.has) (h2 : Ls w nv x.needs) (hn : x.has.length ≤ 1048576) (hn2 : x.needs.length ≤ 1048576) :
    Calls Tryz.prog 120 #[.agg #[.string x.nm, hv, nv]] w fun e w' => (∃ hu nu, e = .returned (.agg #[.string x.nm, hu, nu]) ∧ LsO w' w.heap.size hu x.has ∧ LsO w' w.heap.size nu x.needs) ∧ Below w.heap.size w w' := by
  obtain ⟨a1, c1, rfl, -⟩ := id h1
  obtain ⟨a2, c2, rfl, -⟩ := id h2
  go_enter Tryz.func120, Tryz.ntmps120
  go_upto_region 2 with fail
  obtain ⟨W1, hW1, kP, kR, kO, hB1, hs1⟩ : ∃ W1, ((w.alloc (.cells #[.string x.nm, .slice a1 x.has.length c1, .slice a2 x.needs.length c2] 168)).alloc (.cells #[.string ⟨#[]⟩, .slice none 0 0, .slice none 0 0] 132)).alloc (.cells #[.string ⟨#[]⟩, .slice none 0 0, .slice none 0 0] 132) = W1 ∧ CB W1 w.heap.size [.string x.nm, .slice a1 x.has.length c1, .slice a2 x.needs.length c2] ∧ CB W1 (w.heap.size + 1) [.string ⟨#[]⟩, .slice none 0 0, .slice none 0 0] ∧ CB W1 (w.heap.size + 2) [.string ⟨#[]⟩, .slice none 0 0, .slice none 0 0] ∧ Below w.heap.size w W1 ∧ W1.heap.size = w.heap.size + 3 := ⟨_, rfl, cb3 w _ _ _ _ _ _⟩
  rw [hW1]
  clear hW1
  obtain ⟨W2, hW2, kP2, kR2, kO2, hB2, hs2⟩ : ∃ W2, W1.setCell ⟨w.heap.size + 2, 0, none⟩ (.string x.nm) = W2 ∧ CB W2 w.heap.size [.string x.nm, .slice a1 x.has.length c1, .slice a2 x.needs.length c2] ∧ CB W2 (w.heap.size + 1) [.string ⟨#[]⟩, .slice none 0 0, .slice none 0 0] ∧ CB W2 (w.heap.size + 2) [.string x.nm, .slice none 0 0, .slice none 0 0] ∧ Below w.heap.size w W2 ∧ W2.heap.size = w.heap.size + 3 := ⟨_, rfl, kP.other (by omega), kR.other (by omega), kO.set (j := 0) (by simp), below_set1 hB1 (by omega) _, by simpa using hs1⟩
  obtain ⟨⟨p0, p1, p2⟩, -⟩ := kP.c3
  obtain ⟨⟨o0, o1, o2⟩, f0, f1, f2⟩ := kO.c3
  go_upto_region 3 with fail
  try rw [hW2]
  clear hW2 p0 p1 p2 o0 o1 o2 f0 f1 f2 kP kR kO hB1 hs1
  obtain ⟨⟨p0, p1, p2⟩, -⟩ := kP2.c3
  go_wp2_with fail
  refine (toStr_any x.has _ _ (h1.up hB2) hn).mono ?_
  rintro e w3 ⟨⟨hu, rfl, ho1⟩, hb3⟩
  rw [hs2] at ho1
  have hz3 := hb3.size
  have kP3 := kP2.up hb3 (by omega)
  have kR3 := kR2.up hb3 (by omega)
  have kO3 := kO2.up hb3 (by omega)
  have hB3 := up_trans hB2 hb3
  obtain ⟨b1, hb1⟩ := ho1.shape
  subst hb1
  clear p0 p1 p2 kP2 kR2 kO2 hB2 hb3
  obtain ⟨W4, hW4, kP4, kR4, kO4, ho4, hB4, hs4⟩ : ∃ W4, w3.setCell ⟨w.heap.size + 2, 1, none⟩ (.slice (some ⟨b1, 0, none⟩) x.has.length x.has.length) = W4 ∧ CB W4 w.heap.size [.string x.nm, .slice a1 x.has.length c1, .slice a2 x.needs.length c2] ∧ CB W4 (w.heap.size + 1) [.string ⟨#[]⟩, .slice none 0 0, .slice none 0 0] ∧ CB W4 (w.heap.size + 2) [.string x.nm, .slice (some ⟨b1, 0, none⟩) x.has.length x.has.length, .slice none 0 0] ∧ LsO W4 (w.heap.size + 3) (.slice (some ⟨b1, 0, none⟩) x.has.length x.has.length) x.has ∧ Below w.heap.size w W4 ∧ W4.heap.size = w3.heap.size := ⟨_, rfl, kP3.other (by omega), kR3.other (by omega), kO3.set (j := 1) (by simp), ho1.set (by omega), below_set1 hB3 (by omega) _, by simp⟩
  obtain ⟨⟨o0, o1, o2⟩, f0, f1, f2⟩ := kO3.c3
  go_upto_region 4 with fail
  try rw [hW4]
  clear hW4 o0 o1 o2 f0 f1 f2 kP3 kR3 kO3 ho1 hB3
  obtain ⟨⟨p0, p1, p2⟩, -⟩ := kP4.c3
  go_wp2_with fail
  refine (toStr_any x.needs _ _ (h2.up hB4) hn2).mono ?_
  rintro e w5 ⟨⟨nu, rfl, ho2⟩, hb5⟩
  have hz5 := hb5.size
  have kR5 := kR4.up hb5 (by omega)
  have kO5 := kO4.up hb5 (by omega)
  have ho5 := ho4.up hb5
  have ho6 := ho2.low (base' := w.heap.size + 3) (by omega)
  have hB5 := up_trans hB4 hb5
  obtain ⟨b2, hb2⟩ := ho2.shape
  subst hb2
  clear p0 p1 p2 kP4 kR4 kO4 hB4 hb5 ho4 ho2
  obtain ⟨⟨o0, o1, o2⟩, f0, f1, f2⟩ := kO5.c3
  obtain ⟨⟨r0, r1, r2⟩, g0, g1, g2⟩ := kR5.c3
  have hR6 := kR5.other (q := w.heap.size + 2) (j := 2) (u := .slice (some ⟨b2, 0, none⟩) x.needs.length x.needs.length) (by omega)
  go_wp2_with fail
  refine end_cb3 Tryz.results120 Tryz.underlying132 rfl sizeBat hR6 rfl ?_
  refine ⟨⟨_, _, rfl, ?_, ?_⟩, below_set3 (below_set1 hB5 (by omega) _) (by omega) _ _ _⟩
  · exact ((((ho5.set (by omega)).set (by omega)).set (by omega)).set (by omega)).low (by omega)
  · exact ((((ho6.set (by omega)).set (by omega)).set (by omega)).set (by omega)).low (by omega)
end Go.Proofs.YtialglmnfchfmafGreatDoor

/- The laws' copies of books; two books that are alike. -/
namespace Go.Proofs.YtialglmnfchfmafGreatDoor
open Go.RowKit

theorem infoBat : (Tryz.prog.info? 132).map (fun i => (i.zero, i.size, i.bytes)) = some (some (.agg #[.string ⟨#[]⟩, .slice none 0 0, .slice none 0 0]), 3, 64) := by kernel_rfl
theorem run_makeBats (n : Nat) (hn : n ≤ 1048576) : ∃ C : Array Value, C.size = n * 3 ∧ ∀ w, (Instr.makeSlice 48 (.int .i64 (n : Int)) (.int .i64 (n : Int))).run Tryz.prog w = .ok (.slice (some ⟨w.heap.size, 0, none⟩) n n) (w.alloc (.cells C 132)) := by
  obtain ⟨i, hi, hz⟩ := Option.map_eq_some_iff.1 infoBat
  simp only [Prod.mk.injEq] at hz
  obtain ⟨hz, hs, hb⟩ := hz
  refine ⟨madeCells (Value.agg #[.string ⟨#[]⟩, .slice none 0 0, .slice none 0 0]).cells (n * 3), size_madeCells _ _, fun w => ?_⟩
  have := run_make (P := Tryz.prog) w 48 132 i _ Tryz.underlying48 hi hz .i64 .i64 (n : Int) (n : Int) (by omega) (by omega) (by rw [hb]; omega) (by omega)
  simp only [Int.toNat_natCast, hs] at this
  exact this

set_option maxHeartbeats 1000000 in
theorem toBatchS_any (bs : List Ba) (v : Value) (w : World) (h : Bs w v bs) (hn : bs.length ≤ 1048576) (hsm : ∀ y ∈ bs, y.has.length ≤ 1048576 ∧ y.needs.length ≤ 1048576) :
    Calls Tryz.prog 92 #[v] w fun e w' => (∃ u, e = .returned u ∧ BsO w' w.heap.size u bs) ∧ Below w.heap.size w w' := by
  obtain ⟨a, c, rfl, hm, hpos⟩ := h
  obtain ⟨C, hC, hmk⟩ := run_makeBats bs.length hn
  have HC : Hid (C.size = bs.length * 3) := hC
  have Hm : Hid (bs.length ≤ maxLen) := hm
  clear hC hm
  go_enter Tryz.func92, Tryz.ntmps92
  go_wp2
  go_loopw [4] (fun i w' => ∃ k : Nat, k ≤ bs.length ∧ i = .int .i64 k ∧ BsOAt w' w.heap.size (bs.take k) ∧ w'.there w.heap.size 0 (bs.length * 3) ∧ w.heap.size < w'.heap.size ∧ Below w.heap.size w w') (fun i _ => bs.length - (intOf i).toNat)
  case atStart => exact ⟨0, by omega, rfl, fun i p hp => by simp at hp, by rw [← HC.out]; exact there_alloc _ _ _, by simp, by go_grown⟩
  case round =>
    obtain ⟨k, hk, rfl, hra, hth, hlt, hB⟩ := hrel
    have Hra : Hid (BsOAt wr w.heap.size (bs.take k)) := hra
    have Hth : Hid (wr.there w.heap.size 0 (bs.length * 3)) := hth
    clear hra hth
    by_cases hp : k < bs.length
    · obtain ⟨b, o, rfl, hS, hb⟩ := hpos (by omega)
      obtain ⟨a1, d1, a2, d2, c0, c1, c2, l1, l2, z0⟩ := ((hS.at hp).up hB hb).cells
      obtain ⟨s1, s2⟩ := hsm bs[k] (by simp)
      have HS : Hid (∀ (w1 : World) (hu nu : Value), BsOAt w1 w.heap.size (bs.take k) → w1.there w.heap.size 0 (bs.length * 3) → LsO w1 (w.heap.size + 1) hu (bs[k]).has → LsO w1 (w.heap.size + 1) nu (bs[k]).needs → BsOAt (w1.setCells w.heap.size (k * 3) [.string (bs[k]).nm, hu, nu]) w.heap.size (bs.take (k + 1))) := fun w1 hu nu g1 g2 g3 g4 => bsO_store hp g1 g2 g3 g4 z0
      generalize bs[k] = x0 at *
      go_wp2_with fail
      refine (toBatch_any x0 _ _ _ l1 l2 s1 s2).mono ?_
      rintro e w1 ⟨⟨hu, nu, rfl, ho1, ho2⟩, hb1⟩
      have HS1 : Hid (BsOAt (w1.setCells w.heap.size (k * 3) [.string x0.nm, hu, nu]) w.heap.size (bs.take (k + 1))) := HS.out w1 hu nu (Hra.out.up hb1 hlt) (there_up Hth.out hb1 hlt) (ho1.low (by omega)) (ho2.low (by omega))
      have hB1 := up_trans hB hb1
      have hlt1 := Nat.lt_of_lt_of_le hlt hb1.size
      have Hth1 : Hid (w1.there w.heap.size 0 (bs.length * 3)) := there_up Hth.out hb1 hlt
      obtain ⟨b1, rfl⟩ := ho1.shape
      obtain ⟨b2, rfl⟩ := ho2.shape
      clear c0 c1 c2 l1 l2 hS HS ho1 ho2 hb1 hB Hra Hth
      go_wp2_with (refine wpList_store_mid rfl 132 _ _ rfl w.heap.size (k * 3) _ rfl rfl (fun j hj => by
          have := Hth1.out (k * 3 + j) (by simp at hj; omega)
          simpa using this) sizeBat (by simp [Value.oneCell']) ?_)
      go_roundw
      case rel => exact ⟨k + 1, by omega, by go_num, HS1.out, World.there_setCells Hth1.out _ _ _, Nat.lt_of_lt_of_le hlt1 (size_setCells _ _ _ _), below_setCells _ _ _ _ _ _ hB1 (Nat.le_refl _)⟩
      case measure => simp [intOf]; omega
    · go_wp2_with fail
      go_ret
      exact ⟨⟨_, rfl, w.heap.size, rfl, by have := Hra.out; rwa [List.take_of_length_le (by omega)] at this, Hth.out, Nat.le_refl _, hlt, Hm.out⟩, hB⟩

theorem BsO.shape {w : World} {base : Nat} {v : Value} {bs : List Ba} (h : BsO w base v bs) : ∃ b, v = .slice (some ⟨b, 0, none⟩) bs.length bs.length := by
  obtain ⟨b, rfl, -⟩ := h; exact ⟨b, rfl⟩
theorem BaO.set {w : World} {b o r j : Nat} {u : Value} {x : Ba} (h : BaO w b o x) (hr : r < b) : BaO (w.setCell ⟨r, j, none⟩ u) b o x := by
  obtain ⟨hv, nv, hg, h1, h2, h3⟩ := h
  refine ⟨hv, nv, fun i v hi => ?_, h1.set (by omega), h2.set (by omega), h3⟩
  rw [World.cell?_setCell_other _ _ _ _ (by simp <;> omega)]; exact hg i v hi
theorem BsO.set {w : World} {base r j : Nat} {v u : Value} {bs : List Ba} (h : BsO w base v bs) (hr : r < base) : BsO (w.setCell ⟨r, j, none⟩ u) base v bs := by
  obtain ⟨b, rfl, h1, ht, h0, h2, h3⟩ := h
  exact ⟨b, rfl, fun i x hx => (h1 i x hx).set (by omega), there_kept ht (grown_setCell (grown_refl _ (some r)) u) h2 (by simp; omega), h0, by simpa using h2, h3⟩
theorem BsO.low {w : World} {base base' : Nat} {v : Value} {bs : List Ba} (h : BsO w base v bs) (hb : base' ≤ base) : BsO w base' v bs := by
  obtain ⟨b, rfl, h1, ht, h0, h2⟩ := h
  exact ⟨b, rfl, h1, ht, by omega, h2⟩

set_option maxHeartbeats 1000000 in
theorem toBook_any (b : Bk) (v : Value) (w : World) (h : BkV w v b) (hs : Small b) :
    Calls Tryz.prog 48 #[v] w fun e w' => (∃ u, e = .returned u ∧ BkO w' w.heap.size u b) ∧ Below w.heap.size w w' := by
  obtain ⟨a1, c1, a2, c2, rfl, h1, h2⟩ := h.parts
  obtain ⟨g1, g2, g3⟩ := hs
  go_enter Tryz.func48, Tryz.ntmps48
  go_upto_region 2 with fail
  obtain ⟨W1, hW1, kP, kR, kO, hB1, hs1⟩ : ∃ W1, ((w.alloc (.cells #[.slice a1 b.things.length c1, .slice a2 b.bs.length c2] 41)).alloc (.cells #[.slice none 0 0, .slice none 0 0] 50)).alloc (.cells #[.slice none 0 0, .slice none 0 0] 50) = W1 ∧ CB W1 w.heap.size [.slice a1 b.things.length c1, .slice a2 b.bs.length c2] ∧ CB W1 (w.heap.size + 1) [.slice none 0 0, .slice none 0 0] ∧ CB W1 (w.heap.size + 2) [.slice none 0 0, .slice none 0 0] ∧ Below w.heap.size w W1 ∧ W1.heap.size = w.heap.size + 3 := ⟨_, rfl, cb3 w _ _ _ _ _ _⟩
  try rw [hW1]
  clear hW1
  obtain ⟨⟨p0, p1⟩, -⟩ := kP.c2
  go_wp2_with fail
  refine (toStr_any b.things _ _ (h1.up hB1) g1).mono ?_
  rintro e w3 ⟨⟨tu, rfl, ho1⟩, hb3⟩
  rw [hs1] at ho1
  have hz3 := hb3.size
  have kP3 := kP.up hb3 (by omega)
  have kR3 := kR.up hb3 (by omega)
  have kO3 := kO.up hb3 (by omega)
  have hB3 := up_trans hB1 hb3
  obtain ⟨b1, hb1⟩ := ho1.shape
  subst hb1
  clear p0 p1 kP kR kO hB1 hb3
  obtain ⟨W4, hW4, kP4, kR4, kO4, ho4, hB4, hs4⟩ : ∃ W4, w3.setCell ⟨w.heap.size + 2, 0, none⟩ (.slice (some ⟨b1, 0, none⟩) b.things.length b.things.length) = W4 ∧ CB W4 w.heap.size [.slice a1 b.things.length c1, .slice a2 b.bs.length c2] ∧ CB W4 (w.heap.size + 1) [.slice none 0 0, .slice none 0 0] ∧ CB W4 (w.heap.size + 2) [.slice (some ⟨b1, 0, none⟩) b.things.length b.things.length, .slice none 0 0] ∧ LsO W4 (w.heap.size + 3) (.slice (some ⟨b1, 0, none⟩) b.things.length b.things.length) b.things ∧ Below w.heap.size w W4 ∧ W4.heap.size = w3.heap.size := ⟨_, rfl, kP3.other (by omega), kR3.other (by omega), kO3.set (j := 0) (by simp), ho1.set (by omega), below_set1 hB3 (by omega) _, by simp⟩
  obtain ⟨⟨o0, o1⟩, f0, f1⟩ := kO3.c2
  go_upto_region 3 with fail
  try rw [hW4]
  clear hW4 o0 o1 f0 f1 kP3 kR3 kO3 ho1 hB3
  obtain ⟨⟨p0, p1⟩, -⟩ := kP4.c2
  go_wp2_with fail
  refine (toBatchS_any b.bs _ _ (h2.up hB4) g2 g3).mono ?_
  rintro e w5 ⟨⟨nu, rfl, ho2⟩, hb5⟩
  have hz5 := hb5.size
  have kR5 := kR4.up hb5 (by omega)
  have kO5 := kO4.up hb5 (by omega)
  have ho5 := ho4.up hb5
  have hb1m : b1 < W4.heap.size := by
    obtain ⟨b', e, -, -, -, hlt, -⟩ := ho4
    have : b1 = b' := by simpa using e
    omega
  have hB5 := up_trans hB4 hb5
  obtain ⟨b2, hb2⟩ := ho2.shape
  subst hb2
  clear p0 p1 kP4 kR4 kO4 hB4 hb5 ho4
  obtain ⟨⟨o0, o1⟩, f0, f1⟩ := kO5.c2
  obtain ⟨⟨r0, r1⟩, g0, g1⟩ := kR5.c2
  have hR6 := kR5.other (q := w.heap.size + 2) (j := 1) (u := .slice (some ⟨b2, 0, none⟩) b.bs.length b.bs.length) (by omega)
  go_wp2_with fail
  refine end_cb2 Tryz.results48 Tryz.underlying50 rfl sizeBk hR6 rfl ?_
  refine ⟨⟨_, rfl, _, _, W4.heap.size, rfl, ?_, ?_, by omega, fun g hg => ?_⟩, below_set2 (below_set1 hB5 (by omega) _) (by omega) _ _⟩
  · exact (((ho5.set (by omega)).set (by omega)).set (by omega)).low (by omega)
  · exact (((ho2.set (by omega)).set (by omega)).set (by omega))
  · simp [Value.ownBlock] at hg
    omega

set_option maxHeartbeats 1000000 in
theorem eqLs_any (ss : List ByteArray) (va vb : Value) (w : World) (ha : Ls w va ss) (hb : Ls w vb ss) :
    Calls Tryz.prog 10 #[va, vb] w fun e w' => e = .returned (.bool true) ∧ Below w.heap.size w w' := by
  obtain ⟨a1, c1, rfl, hn, -, hp1⟩ := ha
  obtain ⟨a2, c2, rfl, -, -, hp2⟩ := hb
  unfold maxLen at hn
  go_enter Tryz.func10, Tryz.ntmps10
  go_wp2
  go_loopw [5] (fun i w' => ∃ k : Nat, k ≤ ss.length ∧ i = .int .i64 k ∧ Below w.heap.size w w') (fun i _ => ss.length - (intOf i).toNat)
  case atStart => exact ⟨0, by omega, rfl, Below.refl _ _⟩
  case round =>
    obtain ⟨k, hk, rfl, hB⟩ := hrel
    by_cases hp : k < ss.length
    · obtain ⟨g1, o1, rfl, hS1, hg1⟩ := hp1 (by omega)
      obtain ⟨g2, o2, rfl, hS2, hg2⟩ := hp2 (by omega)
      have c1 := (hS1.up hB hg1).cell hp
      have c2 := (hS2.up hB hg2).cell hp
      go_wp2_with fail
      go_quiet (fail)
      go_wp2_with fail
      go_roundw
      case rel => exact ⟨k + 1, by omega, by go_num, below_drewN hB nq⟩
      case measure => simp [intOf]; omega
    · go_wp2_with fail
      go_ret
      exact ⟨rfl, hB⟩

set_option maxHeartbeats 1000000 in
theorem eqBatch_any (x : Ba) (hv nv hu nu : Value) (w : World) (h1 : Ls w hv x.has) (h2 : Ls w nv x.needs) (h3 : Ls w hu x.has) (h4 : Ls w nu x.needs) :
    Calls Tryz.prog 125 #[.agg #[.string x.nm, hv, nv], .agg #[.string x.nm, hu, nu]] w fun e w' => e = .returned (.bool true) ∧ Below w.heap.size w w' := by
  obtain ⟨a1, c1, rfl, -⟩ := id h1
  obtain ⟨a2, c2, rfl, -⟩ := id h2
  obtain ⟨a3, c3, rfl, -⟩ := id h3
  obtain ⟨a4, c4, rfl, -⟩ := id h4
  go_enter Tryz.func125, Tryz.ntmps125
  go_upto_region 1 with fail
  obtain ⟨W1, hW1, kP, kR, hB1, hs1⟩ : ∃ W1, (w.alloc (.cells #[.string x.nm, .slice a1 x.has.length c1, .slice a2 x.needs.length c2] 132)).alloc (.cells #[.string x.nm, .slice a3 x.has.length c3, .slice a4 x.needs.length c4] 132) = W1 ∧ CB W1 w.heap.size [.string x.nm, .slice a1 x.has.length c1, .slice a2 x.needs.length c2] ∧ CB W1 (w.heap.size + 1) [.string x.nm, .slice a3 x.has.length c3, .slice a4 x.needs.length c4] ∧ Below w.heap.size w W1 ∧ W1.heap.size = w.heap.size + 2 := ⟨_, rfl, cb2 w _ _ _ _⟩
  try rw [hW1]
  clear hW1
  obtain ⟨⟨p0, p1, p2⟩, -⟩ := kP.c3
  obtain ⟨⟨r0, r1, r2⟩, -⟩ := kR.c3
  go_wp2_with fail
  refine (eqLs_any x.has _ _ _ (h1.up hB1) (h3.up hB1)).mono ?_
  rintro e w2 ⟨rfl, hb2⟩
  have kP2 := kP.up hb2 (by omega)
  have kR2 := kR.up hb2 (by omega)
  have hB2 := up_trans hB1 hb2
  clear p0 p1 p2 r0 r1 r2 kP kR
  obtain ⟨⟨p0, p1, p2⟩, -⟩ := kP2.c3
  obtain ⟨⟨r0, r1, r2⟩, -⟩ := kR2.c3
  go_wp2_with fail
  refine (eqLs_any x.needs _ _ _ (h2.up hB2) (h4.up hB2)).mono ?_
  rintro e w3 ⟨rfl, hb3⟩
  have hB3 := up_trans hB2 hb3
  clear p0 p1 p2 r0 r1 r2
  go_wp2_with fail
  go_ret
  exact ⟨rfl, hB3⟩

set_option maxHeartbeats 1000000 in
theorem eqBatchS_any (bs : List Ba) (va vb : Value) (w : World) (ha : Bs w va bs) (hb : Bs w vb bs) :
    Calls Tryz.prog 103 #[va, vb] w fun e w' => e = .returned (.bool true) ∧ Below w.heap.size w w' := by
  obtain ⟨a1, c1, rfl, hn, hp1⟩ := ha
  obtain ⟨a2, c2, rfl, -, hp2⟩ := hb
  unfold maxLen at hn
  go_enter Tryz.func103, Tryz.ntmps103
  go_wp2
  go_loopw [5] (fun i w' => ∃ k : Nat, k ≤ bs.length ∧ i = .int .i64 k ∧ Below w.heap.size w w') (fun i _ => bs.length - (intOf i).toNat)
  case atStart => exact ⟨0, by omega, rfl, Below.refl _ _⟩
  case round =>
    obtain ⟨k, hk, rfl, hB⟩ := hrel
    by_cases hp : k < bs.length
    · obtain ⟨g1, o1, rfl, hS1, hg1⟩ := hp1 (by omega)
      obtain ⟨g2, o2, rfl, hS2, hg2⟩ := hp2 (by omega)
      obtain ⟨a3, d3, a4, d4, c3, c4, c5, l3, l4, -⟩ := ((hS1.at hp).up hB hg1).cells
      obtain ⟨a5, d5, a6, d6, e3, e4, e5, l5, l6, -⟩ := ((hS2.at hp).up hB hg2).cells
      have HQ : Hid (∀ W, Ls W (.slice a3 (bs[k]).has.length d3) (bs[k]).has → Ls W (.slice a4 (bs[k]).needs.length d4) (bs[k]).needs → Ls W (.slice a5 (bs[k]).has.length d5) (bs[k]).has → Ls W (.slice a6 (bs[k]).needs.length d6) (bs[k]).needs → Calls Tryz.prog 125 #[.agg #[.string (bs[k]).nm, .slice a3 (bs[k]).has.length d3, .slice a4 (bs[k]).needs.length d4], .agg #[.string (bs[k]).nm, .slice a5 (bs[k]).has.length d5, .slice a6 (bs[k]).needs.length d6]] W fun e w' => e = .returned (.bool true) ∧ Below W.heap.size W w') := fun W q1 q2 q3 q4 => eqBatch_any bs[k] _ _ _ _ W q1 q2 q3 q4
      generalize bs[k] = x0 at *
      go_wp2_with fail
      go_region_with (go_at_call 125; refine (HQ.out _ (by exact l3) (by exact l4) (by exact l5) (by exact l6)).mono ?_; rintro e w1 ⟨rfl, hb1⟩)
      all_goals
        have hB1 := up_trans hB.drew hb1
        clear c3 c4 c5 e3 e4 e5
        go_wp2_with fail
        go_roundw
        case rel => exact ⟨k + 1, by omega, by go_num, hB1⟩
        case measure => simp [intOf]; omega
    · go_wp2_with fail
      go_ret
      exact ⟨rfl, hB⟩

set_option maxHeartbeats 1000000 in
theorem eqBook_any (b : Bk) (va vb : Value) (w : World) (ha : BkV w va b) (hb : BkV w vb b) :
    Calls Tryz.prog 58 #[va, vb] w fun e w' => e = .returned (.bool true) ∧ Below w.heap.size w w' := by
  obtain ⟨a1, c1, a2, c2, rfl, h1, h2⟩ := ha.parts
  obtain ⟨a3, c3, a4, c4, rfl, h3, h4⟩ := hb.parts
  go_enter Tryz.func58, Tryz.ntmps58
  go_upto_region 1 with fail
  obtain ⟨W1, hW1, kP, kR, hB1, hs1⟩ : ∃ W1, (w.alloc (.cells #[.slice a1 b.things.length c1, .slice a2 b.bs.length c2] 50)).alloc (.cells #[.slice a3 b.things.length c3, .slice a4 b.bs.length c4] 50) = W1 ∧ CB W1 w.heap.size [.slice a1 b.things.length c1, .slice a2 b.bs.length c2] ∧ CB W1 (w.heap.size + 1) [.slice a3 b.things.length c3, .slice a4 b.bs.length c4] ∧ Below w.heap.size w W1 ∧ W1.heap.size = w.heap.size + 2 := ⟨_, rfl, cb2 w _ _ _ _⟩
  try rw [hW1]
  clear hW1
  obtain ⟨⟨p0, p1⟩, -⟩ := kP.c2
  obtain ⟨⟨r0, r1⟩, -⟩ := kR.c2
  go_wp2_with fail
  refine (eqLs_any b.things _ _ _ (h1.up hB1) (h3.up hB1)).mono ?_
  rintro e w2 ⟨rfl, hb2⟩
  have kP2 := kP.up hb2 (by omega)
  have kR2 := kR.up hb2 (by omega)
  have hB2 := up_trans hB1 hb2
  clear p0 p1 r0 r1 kP kR
  obtain ⟨⟨p0, p1⟩, -⟩ := kP2.c2
  obtain ⟨⟨r0, r1⟩, -⟩ := kR2.c2
  go_wp2_with fail
  refine (eqBatchS_any b.bs _ _ _ (h2.up hB2) (h4.up hB2)).mono ?_
  rintro e w3 ⟨rfl, hb3⟩
  have hB3 := up_trans hB2 hb3
  clear p0 p1 r0 r1
  go_wp2_with fail
  go_ret
  exact ⟨rfl, hB3⟩
end Go.Proofs.YtialglmnfchfmafGreatDoor
