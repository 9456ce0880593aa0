/- The program's table in memory: who can, who leaves (chapter 12). -/
import Derived.Test.YtmkpaciaollcbaaJ14
import Derived.Test.YtmkpaciaollcbaaJ7
namespace Go.Proofs.Ytmkpaciaollcbaa
open Go.RowKit

/-- The table in block tb, its rows in a row of their own behind it. -/
def Tab (w : World) (tb : Nat) (things : List ByteArray) (ts : List Tr) : Prop :=
  ∃ rv, CB w tb [rv, .int .u64 (bitsN things (freeL ts) : Nat)] ∧ w.ownsRow (tb + 1) 59 4 rv ts.length (rowsL things ts)
theorem Tab.up {w w' : World} {tb : Nat} {things : List ByteArray} {ts : List Tr} (h : Tab w tb things ts) (hb : Below w.heap.size w w') : Tab w' tb things ts := by
  obtain ⟨rv, h1, h2⟩ := h
  exact ⟨rv, h1.up hb h1.2.2, own_up h2 hb⟩
theorem Tab.drewN {w : World} {tb n : Nat} {things : List ByteArray} {ts : List Tr} (h : Tab w tb things ts) : Tab (w.drewN n) tb things ts := h
theorem Tab.lt {w : World} {tb : Nat} {things : List ByteArray} {ts : List Tr} (h : Tab w tb things ts) : tb < w.heap.size := by
  obtain ⟨rv, h1, -⟩ := h; exact h1.2.2
/-- A row's four cells. -/
theorem row_cells {w : World} {base g cap : Nat} {things : List ByteArray} {ts : List Tr} (h : w.ownsRow base 59 4 (.slice (some ⟨g, 0, none⟩) ts.length cap) ts.length (rowsL things ts)) {i : Nat} {p : Tr} (hp : ts[i]? = some p) :
    w.cell? ⟨g, i * 4, none⟩ = some (.string p.1.nm) ∧ w.cell? ⟨g, i * 4 + 1, none⟩ = some (.int .u64 (bitsN things (memS p.1.has) : Nat)) ∧ w.cell? ⟨g, i * 4 + 2, none⟩ = some (.int .u64 (bitsN things (memS p.1.needs) : Nat)) ∧ w.cell? ⟨g, i * 4 + 3, none⟩ = some (.bool p.2) := by
  have hi := (List.getElem?_eq_some_iff.1 hp).1
  refine ⟨?_, ?_, ?_, ?_⟩
  · rw [show i * 4 = i * 4 + 0 by omega, h.cellAt (i * 4 + 0) (by omega), rowsL_get things ts i 0 p hp (by omega)]; rfl
  · rw [h.cellAt (i * 4 + 1) (by omega), rowsL_get things ts i 1 p hp (by omega)]; rfl
  · rw [h.cellAt (i * 4 + 2) (by omega), rowsL_get things ts i 2 p hp (by omega)]; rfl
  · rw [h.cellAt (i * 4 + 3) (by omega), rowsL_get things ts i 3 p hp (by omega)]; rfl
theorem andNot_small (a b : Nat) (ha : a < 256) (hb : b < 512) : bits .andNot .u64 (a : Int) (b : Int) = ((a &&& (18446744073709551615 - b) : Nat) : Int) := by
  have := u64_andNot (a : Int) (b : Int) (by omega) (by omega) (by omega) (by omega)
  simpa using this

set_option maxHeartbeats 2000000 in
theorem can_any (tb at' : Nat) (things : List ByteArray) (ts : List Tr) (p : Tr) (w : World) (h : Tab w tb things ts) (h8 : things.length ≤ 8) (hp : ts[at']? = some p) (h5 : ts.length ≤ 5) :
    Calls Try.prog 25 #[.pointer (some ⟨tb, 0, none⟩), .int .i64 at'] w fun e w' => e = .returned (.bool (!p.2 && decide (bitsN things (memS p.1.needs) &&& (18446744073709551615 - (bitsN things (freeL ts) + bitsN things (memS p.1.has))) = 0))) ∧ Below w.heap.size w w' := by
  obtain ⟨rv, hC, hown⟩ := h
  have hi := (List.getElem?_eq_some_iff.1 hp).1
  obtain ⟨g, cap, rfl⟩ := own_ptr2 hown (by omega)
  obtain ⟨r0, r1, r2, r3⟩ := row_cells hown hp
  obtain ⟨t0, t1⟩ := hC.c2'
  have htl := hC.2.2
  have n1 := bitsN_small h8 (memS p.1.has)
  have n2 := bitsN_small h8 (memS p.1.needs)
  have n3 := bitsN_small h8 (freeL ts)
  generalize bitsN things (memS p.1.has) = hb at *
  generalize bitsN things (memS p.1.needs) = nb at *
  generalize bitsN things (freeL ts) = fb at *
  clear hown hC
  obtain ⟨W1, hW1, kX, hB1, hs1⟩ : ∃ W1, w.alloc (.cells #[.string p.1.nm, .int .u64 (hb : Nat), .int .u64 (nb : Nat), .bool p.2] 59) = W1 ∧ CB W1 w.heap.size [.string p.1.nm, .int .u64 (hb : Nat), .int .u64 (nb : Nat), .bool p.2] ∧ Below w.heap.size w W1 ∧ W1.heap.size = w.heap.size + 1 := ⟨_, rfl, cb1 w _ _⟩
  go_enter Try.func25, Try.ntmps25
  go_upto_region 2 with fail
  try rw [hW1]
  clear hW1 r0 r1 r2 r3
  have x1 := kX.1 1 _ rfl
  have x2 := kX.1 2 _ rfl
  have x3 := kX.1 3 _ rfl
  have f1 := (hB1.cell (p := ⟨tb, 1, none⟩) htl).trans t1
  simp only [Nat.zero_add] at x1 x2 x3
  have hadd : IntKind.u64.wrap ((fb : Int) + (hb : Int)) = ((fb + hb : Nat) : Int) := by rw [wrap_small (by omega) (by omega)]; omega
  have hand := andNot_small nb (fb + hb) n2 (by omega)
  cases hgone : p.2
  · rw [hgone] at x3
    go_wp2_with fail
    go_quiet (fail)
    go_wp2_with fail
    go_ret
    refine ⟨ret_bool ?_, below_drewN hB1 _⟩
    rw [hgone, ← Int.natCast_add, hand]
    rw [Bool.eq_iff_iff, beq_iff_eq]
    simp
  · rw [hgone] at x3
    go_wp2_with fail
    go_quiet (fail)
    go_wp2_with fail
    go_ret
    exact ⟨ret_bool (by rw [hgone]; rfl), below_drewN hB1 _⟩

/-- Two rows of different types lie apart; a row that lies apart from what turned stays. -/
theorem own_apart {w : World} {base base' e e' s s' n n' : Nat} {v v' : Value} {xs xs' : List Value} (h : w.ownsRow base e s v n xs) (h' : w.ownsRow base' e' s' v' n' xs') (hne : e ≠ e') : ∀ g, v.ownBlock = some g → some g ≠ v'.ownBlock := fun g hg hg' => by
  rcases h.2 with ⟨rfl, _⟩ | ⟨g1, cap, cur, rfl, _, hh, _⟩
  · simp [Value.ownBlock] at hg
  · rcases h'.2 with ⟨rfl, _⟩ | ⟨g2, cap', cur', rfl, _, hh', _⟩
    · simp [Value.ownBlock] at hg'
    · simp [Value.ownBlock] at hg hg'
      subst hg hg'
      rw [hh] at hh'
      simp at hh'
      exact hne hh'.2
theorem own_keep {w w' : World} {base e s n : Nat} {v : Value} {xs : List Value} {r : Option Nat} (h : w.ownsRow base e s v n xs) (hg : w.grownBy w' r) (hne : ∀ g, v.ownBlock = some g → some g ≠ r) : w'.ownsRow base e s v n xs := by
  refine ⟨h.1, ?_⟩
  rcases h.2 with h0 | ⟨g, cap, cur, hv, hb, hh, q⟩
  · exact .inl h0
  · refine .inr ⟨g, cap, cur, hv, hb, ?_, q⟩
    rw [hg.block g (Array.getElem?_eq_some_iff.1 hh).1 (hne g (by rw [hv]; rfl))]; exact hh
theorem there_row {w : World} {base g cap n : Nat} {xs : List Value} {e size : Nat} (h : w.ownsRow base e size (.slice (some ⟨g, 0, none⟩) n cap) n xs) (k : Nat) : w.frozen? ⟨g, k, none⟩ = false := h.frozenAt k
end Go.Proofs.Ytmkpaciaollcbaa

/- The laws' own helpers over lists of texts. -/
namespace Go.Proofs.Ytmkpaciaollcbaa
open Go.RowKit

set_option maxHeartbeats 1000000 in
theorem szStr_any (ss : List ByteArray) (v : Value) (l : Int) (w : World) (h : Ls w v ss) (hl : 0 ≤ l) (hl' : l ≤ 1048576) :
    Calls Try.prog 16 #[v, .int .i64 l] w fun e w' => (∃ x : Int, e = .returned (.int .i64 x) ∧ x ≤ l ∧ (0 ≤ x → (ss.length : Int) ≤ l)) ∧ w' = w := by
  obtain ⟨a, c, rfl, hn, hz, hpos⟩ := h
  unfold maxLen at hn hz
  by_cases h0 : l - ss.length < 0
  · go_enter Try.func16, Try.ntmps16
    go_wp2
    go_ret
    exact ⟨⟨_, rfl, by omega, by omega⟩, rfl⟩
  have H0 : Hid ((ss.length : Int) ≤ l) := by show _ ≤ _; omega
  go_enter Try.func16, Try.ntmps16
  go_wp2
  go_loop [1, 5] (fun x i => ∃ (k : Nat) (y : Int), k ≤ ss.length ∧ i = .int .i64 k ∧ x = .int .i64 y ∧ 0 ≤ y ∧ y ≤ l) (fun _ i => ss.length - (intOf i).toNat)
  case atStart => exact ⟨0, _, by omega, rfl, rfl, by omega, by omega⟩
  case round =>
    obtain ⟨k, y, hk, rfl, rfl, hy, hy'⟩ := hrel
    by_cases hp : k < ss.length
    · obtain ⟨b, o, rfl, hS, hb⟩ := hpos (by omega)
      have c0 := hS.cell hp
      have z0 := hz ss[k] (by simp)
      generalize ss[k] = s0 at *
      by_cases hq : y - s0.size < 0
      · go_wp2
        go_ret
        exact ⟨⟨_, rfl, by omega, by omega⟩, rfl⟩
      · go_wp2
        go_round
        case rel => exact ⟨k + 1, _, by omega, by go_num, rfl, by omega, by omega⟩
        case measure => simp [intOf]; omega
    · go_wp2
      go_ret
      exact ⟨⟨_, rfl, by omega, fun _ => H0.out⟩, rfl⟩

theorem sizeStr : (Try.prog.info? 9).map (·.size) = some 1 := by kernel_rfl
theorem run_makeStrs (n : Nat) (hn : n ≤ 1048576) : ∃ C : Array Value, C.size = n ∧ ∀ w, (Instr.makeSlice 22 (.int .i64 (n : Int)) (.int .i64 (n : Int))).run Try.prog w = .ok (.slice (some ⟨w.heap.size, 0, none⟩) n n) (w.alloc (.cells C 9)) := by
  obtain ⟨i, hi, hz⟩ := Option.map_eq_some_iff.1 infoStr
  simp only [Prod.mk.injEq] at hz
  obtain ⟨hz, hs, hb⟩ := hz
  refine ⟨madeCells (Value.string ⟨#[]⟩).cells (n * 1), by rw [size_madeCells, Nat.mul_one], fun w => ?_⟩
  have := run_make (P := Try.prog) w 22 9 i _ Try.underlying22 hi hz .i64 .i64 (n : Int) (n : Int) (by omega) (by omega) (by rw [hb]; omega) (by omega)
  simp only [Int.toNat_natCast, hs] at this
  exact this
theorem strs_store {w1 : World} {b k : Nat} {ss : List ByteArray} (hk : k < ss.length) (h : StrsAt w1 b 0 (ss.take k)) (ht : w1.there b 0 ss.length) : StrsAt (w1.setCell ⟨b, k, none⟩ (.string ss[k])) b 0 (ss.take (k + 1)) := by
  intro i s hs
  rw [Nat.zero_add]
  by_cases hi : i = k
  · subst hi
    rw [List.getElem?_take, if_pos (by omega), List.getElem?_eq_getElem hk] at hs
    obtain rfl := Option.some.inj hs
    have h1 := (ht i hk).1
    rw [Nat.zero_add] at h1
    obtain ⟨x, hx⟩ := Option.isSome_iff_exists.1 h1
    exact World.cell?_setCell_same _ _ _ hx
  · rw [World.cell?_setCell_other _ _ _ _ (by simp <;> omega)]
    have := h i s (by
      rw [List.getElem?_take] at hs ⊢
      split at hs
      · rw [if_pos (by omega)]; exact hs
      · cases hs)
    rwa [Nat.zero_add] at this
theorem there_set1 {w : World} {b n j : Nat} {u : Value} (h : w.there b 0 n) : (w.setCell ⟨b, j, none⟩ u).there b 0 n := by
  have := World.there_setCells h b j [u]
  simpa [World.setCells] using this
theorem below_set1 {B : Nat} {a w : World} {b j : Nat} (h : Below B a w) (hb : B ≤ b) (u : Value) : Below B a (w.setCell ⟨b, j, none⟩ u) := h.setCell (p := ⟨b, j, none⟩) hb u

set_option maxHeartbeats 1000000 in
theorem toStr_any (ss : List ByteArray) (v : Value) (w : World) (h : Ls w v ss) (hn : ss.length ≤ 1048576) :
    Calls Try.prog 20 #[v] w fun e w' => (∃ u, e = .returned u ∧ LsO w' w.heap.size u ss) ∧ Below w.heap.size w w' := by
  obtain ⟨a, c, rfl, hm, hz, hpos⟩ := h
  have Hz : Hid (ss.length ≤ maxLen ∧ ∀ s ∈ ss, s.size ≤ maxLen) := ⟨hm, hz⟩
  clear hm hz
  obtain ⟨C, hC, hmk⟩ := run_makeStrs ss.length hn
  have HC : Hid (C.size = ss.length) := hC
  clear hC
  go_enter Try.func20, Try.ntmps20
  go_wp2
  go_loopw [4] (fun i w' => ∃ k : Nat, k ≤ ss.length ∧ i = .int .i64 k ∧ StrsAt w' w.heap.size 0 (ss.take k) ∧ w'.there w.heap.size 0 ss.length ∧ w.heap.size < w'.heap.size ∧ Below w.heap.size w w') (fun i _ => ss.length - (intOf i).toNat)
  case atStart => exact ⟨0, by omega, rfl, fun i p hp => by simp at hp, by rw [← HC.out]; exact there_alloc _ _ _, by simp, by go_grown⟩
  case round =>
    obtain ⟨k, hk, rfl, hra, hth, hlt, hB⟩ := hrel
    by_cases hp : k < ss.length
    · obtain ⟨b, o, rfl, hS, hb⟩ := hpos (by omega)
      have c0 := (hB.cell (p := ⟨b, o + k, none⟩) hb).trans (hS.cell hp)
      have Hst : Hid (StrsAt (wr.setCell ⟨w.heap.size, k, none⟩ (.string ss[k])) w.heap.size 0 (ss.take (k + 1)) ∧ (wr.setCell ⟨w.heap.size, k, none⟩ (.string ss[k])).there w.heap.size 0 ss.length ∧ Below w.heap.size w (wr.setCell ⟨w.heap.size, k, none⟩ (.string ss[k]))) := ⟨strs_store hp hra hth, there_set1 hth, below_set1 hB (Nat.le_refl _) _⟩
      obtain ⟨⟨x0, d0⟩, f0⟩ : (∃ x, wr.cell? ⟨w.heap.size, k, none⟩ = some x) ∧ wr.frozen? ⟨w.heap.size, k, none⟩ = false := by
        have := hth k hp
        rw [Nat.zero_add] at this
        exact ⟨Option.isSome_iff_exists.1 this.1, this.2⟩
      clear hra hth
      generalize ss[k] = s0 at *
      go_wp2_with fail
      go_roundw
      case rel => exact ⟨k + 1, by omega, by go_num, Hst.out.1, Hst.out.2.1, by simpa using hlt, Hst.out.2.2⟩
      case measure => simp [intOf]; omega
    · go_wp2_with fail
      go_ret
      exact ⟨⟨_, rfl, w.heap.size, rfl, by rwa [List.take_of_length_le (by omega)] at hra, hth, Nat.le_refl _, hlt, Hz.out⟩, hB⟩

theorem LsO.set {w : World} {base r j : Nat} {v u : Value} {ss : List ByteArray} (h : LsO w base v ss) (hr : r < base) : LsO (w.setCell ⟨r, j, none⟩ u) base v ss := h.kept (grown_setCell (grown_refl _ _) _) hr
theorem LsO.shape {w : World} {base : Nat} {v : Value} {ss : List ByteArray} (h : LsO w base v ss) : ∃ b, v = .slice (some ⟨b, 0, none⟩) ss.length ss.length := by
  obtain ⟨b, rfl, -⟩ := h; exact ⟨b, rfl⟩
set_option maxHeartbeats 1000000 in
theorem eqLs_any (ss : List ByteArray) (va vb : Value) (w : World) (ha : Ls w va ss) (hb : Ls w vb ss) :
    Calls Try.prog 9 #[va, vb] w fun e w' => e = .returned (.bool true) ∧ Below w.heap.size w w' := by
  obtain ⟨a1, c1, rfl, hn, -, hp1⟩ := ha
  obtain ⟨a2, c2, rfl, -, -, hp2⟩ := hb
  unfold maxLen at hn
  go_enter Try.func9, Try.ntmps9
  go_wp2
  go_loopw [5] (fun i w' => ∃ k : Nat, k ≤ ss.length ∧ i = .int .i64 k ∧ Below w.heap.size w w') (fun i _ => ss.length - (intOf i).toNat)
  case atStart => exact ⟨0, by omega, rfl, Below.refl _ _⟩
  case round =>
    obtain ⟨k, hk, rfl, hB⟩ := hrel
    by_cases hp : k < ss.length
    · obtain ⟨g1, o1, rfl, hS1, hg1⟩ := hp1 (by omega)
      obtain ⟨g2, o2, rfl, hS2, hg2⟩ := hp2 (by omega)
      have c1 := (hS1.up hB hg1).cell hp
      have c2 := (hS2.up hB hg2).cell hp
      go_wp2_with fail
      go_quiet (fail)
      go_wp2_with fail
      go_roundw
      case rel => exact ⟨k + 1, by omega, by go_num, below_drewN hB nq⟩
      case measure => simp [intOf]; omega
    · go_wp2_with fail
      go_ret
      exact ⟨rfl, hB⟩
end Go.Proofs.Ytmkpaciaollcbaa
