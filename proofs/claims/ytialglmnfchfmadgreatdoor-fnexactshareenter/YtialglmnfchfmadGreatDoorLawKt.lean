/- The laws' copies of lists of texts and books. -/
import Derived.Test.YtialglmnfchfmadGreatDoorLawK
import Derived.Test.YtialglmnfchfmadGreatDoorK8
namespace Go.Proofs.YtialglmnfchfmadGreatDoor
open Go.RowKit

theorem sizeStr : (Tryz.prog.info? 9).map (·.size) = some 1 := by kernel_rfl
theorem run_makeStrs (n : Nat) (hn : n ≤ 1048576) : ∃ C : Array Value, C.size = n ∧ ∀ w, (Instr.makeSlice 22 (.int .i64 (n : Int)) (.int .i64 (n : Int))).run Tryz.prog w = .ok (.slice (some ⟨w.heap.size, 0, none⟩) n n) (w.alloc (.cells C 9)) := by
  obtain ⟨i, hi, hz⟩ := Option.map_eq_some_iff.1 infoStr
  simp only [Prod.mk.injEq] at hz
  obtain ⟨hz, hs, hb⟩ := hz
  refine ⟨madeCells (Value.string ⟨#[]⟩).cells (n * 1), by rw [size_madeCells, Nat.mul_one], fun w => ?_⟩
  have := run_make (P := Tryz.prog) w 22 9 i _ Tryz.underlying22 hi hz .i64 .i64 (n : Int) (n : Int) (by omega) (by omega) (by rw [hb]; omega) (by omega)
  simp only [Int.toNat_natCast, hs] at this
  exact this
theorem strs_store {w1 : World} {b k : Nat} {ss : List ByteArray} (hk : k < ss.length) (h : StrsAt w1 b 0 (ss.take k)) (ht : w1.there b 0 ss.length) : StrsAt (w1.setCell ⟨b, k, none⟩ (.string ss[k])) b 0 (ss.take (k + 1)) := by
  intro i s hs
  rw [Nat.zero_add]
  by_cases hi : i = k
  · subst hi
    rw [List.getElem?_take, if_pos (by omega), List.getElem?_eq_getElem hk] at hs
    obtain rfl := Option.some.inj hs
    have h1 := (ht i hk).1
    rw [Nat.zero_add] at h1
    obtain ⟨x, hx⟩ := Option.isSome_iff_exists.1 h1
    exact World.cell?_setCell_same _ _ _ hx
  · rw [World.cell?_setCell_other _ _ _ _ (by simp <;> omega)]
    have := h i s (by
      rw [List.getElem?_take] at hs ⊢
      split at hs
      · rw [if_pos (by omega)]; exact hs
      · cases hs)
    rwa [Nat.zero_add] at this
theorem there_set1 {w : World} {b n j : Nat} {u : Value} (h : w.there b 0 n) : (w.setCell ⟨b, j, none⟩ u).there b 0 n := by
  have := World.there_setCells h b j [u]
  simpa [World.setCells] using this
theorem below_set1 {B : Nat} {a w : World} {b j : Nat} (h : Below B a w) (hb : B ≤ b) (u : Value) : Below B a (w.setCell ⟨b, j, none⟩ u) := h.setCell (p := ⟨b, j, none⟩) hb u

set_option maxHeartbeats 1000000 in
theorem toStr_any (ss : List ByteArray) (v : Value) (w : World) (h : Ls w v ss) (hn : ss.length ≤ 1048576) :
    Calls Tryz.prog 9 #[v] w fun e w' => (∃ u, e = .returned u ∧ LsO w' w.heap.size u ss) ∧ Below w.heap.size w w' := by
  obtain ⟨a, c, rfl, hm, hz, hpos⟩ := h
  have Hz : Hid (ss.length ≤ maxLen ∧ ∀ s ∈ ss, s.size ≤ maxLen) := ⟨hm, hz⟩
  clear hm hz
  obtain ⟨C, hC, hmk⟩ := run_makeStrs ss.length hn
  have HC : Hid (C.size = ss.length) := hC
  clear hC
  go_enter Tryz.func9, Tryz.ntmps9
  go_wp2
  go_loopw [4] (fun i w' => ∃ k : Nat, k ≤ ss.length ∧ i = .int .i64 k ∧ StrsAt w' w.heap.size 0 (ss.take k) ∧ w'.there w.heap.size 0 ss.length ∧ w.heap.size < w'.heap.size ∧ Below w.heap.size w w') (fun i _ => ss.length - (intOf i).toNat)
  case atStart => exact ⟨0, by omega, rfl, fun i p hp => by simp at hp, by rw [← HC.out]; exact there_alloc _ _ _, by simp, by go_grown⟩
  case round =>
    obtain ⟨k, hk, rfl, hra, hth, hlt, hB⟩ := hrel
    by_cases hp : k < ss.length
    · obtain ⟨b, o, rfl, hS, hb⟩ := hpos (by omega)
      have c0 := (hB.cell (p := ⟨b, o + k, none⟩) hb).trans (hS.cell hp)
      have Hst : Hid (StrsAt (wr.setCell ⟨w.heap.size, k, none⟩ (.string ss[k])) w.heap.size 0 (ss.take (k + 1)) ∧ (wr.setCell ⟨w.heap.size, k, none⟩ (.string ss[k])).there w.heap.size 0 ss.length ∧ Below w.heap.size w (wr.setCell ⟨w.heap.size, k, none⟩ (.string ss[k]))) := ⟨strs_store hp hra hth, there_set1 hth, below_set1 hB (Nat.le_refl _) _⟩
      obtain ⟨⟨x0, d0⟩, f0⟩ : (∃ x, wr.cell? ⟨w.heap.size, k, none⟩ = some x) ∧ wr.frozen? ⟨w.heap.size, k, none⟩ = false := by
        have := hth k hp
        rw [Nat.zero_add] at this
        exact ⟨Option.isSome_iff_exists.1 this.1, this.2⟩
      clear hra hth
      generalize ss[k] = s0 at *
      go_wp2_with fail
      go_roundw
      case rel => exact ⟨k + 1, by omega, by go_num, Hst.out.1, Hst.out.2.1, by simpa using hlt, Hst.out.2.2⟩
      case measure => simp [intOf]; omega
    · go_wp2_with fail
      go_ret
      exact ⟨⟨_, rfl, w.heap.size, rfl, by rwa [List.take_of_length_le (by omega)] at hra, hth, Nat.le_refl _, hlt, Hz.out⟩, hB⟩

theorem sizeBat : (Tryz.prog.info? 45).map (·.size) = some 3 := by kernel_rfl
theorem sizeBk : (Tryz.prog.info? 30).map (·.size) = some 2 := by kernel_rfl
theorem LsO.set {w : World} {base r j : Nat} {v u : Value} {ss : List ByteArray} (h : LsO w base v ss) (hr : r < base) : LsO (w.setCell ⟨r, j, none⟩ u) base v ss := h.kept (grown_setCell (grown_refl _ _) _) hr
theorem LsO.shape {w : World} {base : Nat} {v : Value} {ss : List ByteArray} (h : LsO w base v ss) : ∃ b, v = .slice (some ⟨b, 0, none⟩) ss.length ss.length := by
  obtain ⟨b, rfl, -⟩ := h; exact ⟨b, rfl⟩

set_option maxHeartbeats 1000000 in
theorem toBatch_any (x : Ba) (hv nv : Value) (w : World) (h1 : Ls w hv x.has) (h2 : Ls w nv x.needs) (hn : x.has.length ≤ 1048576) (hn2 : x.needs.length ≤ 1048576) :
    Calls Tryz.prog 40 #[.agg #[.string x.nm, hv, nv]] w fun e w' => (∃ hu nu, e = .returned (.agg #[.string x.nm, hu, nu]) ∧ LsO w' w.heap.size hu x.has ∧ LsO w' w.heap.size nu x.needs) ∧ Below w.heap.size w w' := by
  obtain ⟨a1, c1, rfl, -⟩ := id h1
  obtain ⟨a2, c2, rfl, -⟩ := id h2
  go_enter Tryz.func40, Tryz.ntmps40
  go_upto_region 2 with fail
  obtain ⟨W1, hW1, kP, kR, kO, hB1, hs1⟩ : ∃ W1, ((w.alloc (.cells #[.string x.nm, .slice a1 x.has.length c1, .slice a2 x.needs.length c2] 61)).alloc (.cells #[.string ⟨#[]⟩, .slice none 0 0, .slice none 0 0] 45)).alloc (.cells #[.string ⟨#[]⟩, .slice none 0 0, .slice none 0 0] 45) = W1 ∧ CB W1 w.heap.size [.string x.nm, .slice a1 x.has.length c1, .slice a2 x.needs.length c2] ∧ CB W1 (w.heap.size + 1) [.string ⟨#[]⟩, .slice none 0 0, .slice none 0 0] ∧ CB W1 (w.heap.size + 2) [.string ⟨#[]⟩, .slice none 0 0, .slice none 0 0] ∧ Below w.heap.size w W1 ∧ W1.heap.size = w.heap.size + 3 := ⟨_, rfl, cb3 w _ _ _ _ _ _⟩
  rw [hW1]
  clear hW1
  obtain ⟨W2, hW2, kP2, kR2, kO2, hB2, hs2⟩ : ∃ W2, W1.setCell ⟨w.heap.size + 2, 0, none⟩ (.string x.nm) = W2 ∧ CB W2 w.heap.size [.string x.nm, .slice a1 x.has.length c1, .slice a2 x.needs.length c2] ∧ CB W2 (w.heap.size + 1) [.string ⟨#[]⟩, .slice none 0 0, .slice none 0 0] ∧ CB W2 (w.heap.size + 2) [.string x.nm, .slice none 0 0, .slice none 0 0] ∧ Below w.heap.size w W2 ∧ W2.heap.size = w.heap.size + 3 := ⟨_, rfl, kP.other (by omega), kR.other (by omega), kO.set (j := 0) (by simp), below_set1 hB1 (by omega) _, by simpa using hs1⟩
  obtain ⟨⟨p0, p1, p2⟩, -⟩ := kP.c3
  obtain ⟨⟨o0, o1, o2⟩, f0, f1, f2⟩ := kO.c3
  go_upto_region 3 with fail
  try rw [hW2]
  clear hW2 p0 p1 p2 o0 o1 o2 f0 f1 f2 kP kR kO hB1 hs1
  obtain ⟨⟨p0, p1, p2⟩, -⟩ := kP2.c3
  go_wp2_with fail
  refine (toStr_any x.has _ _ (h1.up hB2) hn).mono ?_
  rintro e w3 ⟨⟨hu, rfl, ho1⟩, hb3⟩
  rw [hs2] at ho1
  have hz3 := hb3.size
  have kP3 := kP2.up hb3 (by omega)
  have kR3 := kR2.up hb3 (by omega)
  have kO3 := kO2.up hb3 (by omega)
  have hB3 := up_trans hB2 hb3
  obtain ⟨b1, hb1⟩ := ho1.shape
  subst hb1
  clear p0 p1 p2 kP2 kR2 kO2 hB2 hb3
  obtain ⟨W4, hW4, kP4, kR4, kO4, ho4, hB4, hs4⟩ : ∃ W4, w3.setCell ⟨w.heap.size + 2, 1, none⟩ (.slice (some ⟨b1, 0, none⟩) x.has.length x.has.length) = W4 ∧ CB W4 w.heap.size [.string x.nm, .slice a1 x.has.length c1, .slice a2 x.needs.length c2] ∧ CB W4 (w.heap.size + 1) [.string ⟨#[]⟩, .slice none 0 0, .slice none 0 0] ∧ CB W4 (w.heap.size + 2) [.string x.nm, .slice (some ⟨b1, 0, none⟩) x.has.length x.has.length, .slice none 0 0] ∧ LsO W4 (w.heap.size + 3) (.slice (some ⟨b1, 0, none⟩) x.has.length x.has.length) x.has ∧ Below w.heap.size w W4 ∧ W4.heap.size = w3.heap.size := ⟨_, rfl, kP3.other (by omega), kR3.other (by omega), kO3.set (j := 1) (by simp), ho1.set (by omega), below_set1 hB3 (by omega) _, by simp⟩
  obtain ⟨⟨o0, o1, o2⟩, f0, f1, f2⟩ := kO3.c3
  go_upto_region 4 with fail
  try rw [hW4]
  clear hW4 o0 o1 o2 f0 f1 f2 kP3 kR3 kO3 ho1 hB3
  obtain ⟨⟨p0, p1, p2⟩, -⟩ := kP4.c3
  go_wp2_with fail
  refine (toStr_any x.needs _ _ (h2.up hB4) hn2).mono ?_
  rintro e w5 ⟨⟨nu, rfl, ho2⟩, hb5⟩
  have hz5 := hb5.size
  have kR5 := kR4.up hb5 (by omega)
  have kO5 := kO4.up hb5 (by omega)
  have ho5 := ho4.up hb5
  have ho6 := ho2.low (base' := w.heap.size + 3) (by omega)
  have hB5 := up_trans hB4 hb5
  obtain ⟨b2, hb2⟩ := ho2.shape
  subst hb2
  clear p0 p1 p2 kP4 kR4 kO4 hB4 hb5 ho4 ho2
  obtain ⟨⟨o0, o1, o2⟩, f0, f1, f2⟩ := kO5.c3
  obtain ⟨⟨r0, r1, r2⟩, g0, g1, g2⟩ := kR5.c3
  have hR6 := kR5.other (q := w.heap.size + 2) (j := 2) (u := .slice (some ⟨b2, 0, none⟩) x.needs.length x.needs.length) (by omega)
  go_wp2_with fail
  refine end_cb3 Tryz.results40 Tryz.underlying45 rfl sizeBat hR6 rfl ?_
  refine ⟨⟨_, _, rfl, ?_, ?_⟩, below_set3 (below_set1 hB5 (by omega) _) (by omega) _ _ _⟩
  · exact ((((ho5.set (by omega)).set (by omega)).set (by omega)).set (by omega)).low (by omega)
  · exact ((((ho6.set (by omega)).set (by omega)).set (by omega)).set (by omega)).low (by omega)
end Go.Proofs.YtialglmnfchfmadGreatDoor
