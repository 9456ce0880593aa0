/- The laws' helpers over lists of texts: alike, marked, held. -/
import Derived.Test.YtafgabakhaipnaaJ9
import Derived.Test.YtafgabakhaipnaaJ25
import Derived.Deep.RegionHeld
namespace Go.Proofs.Ytafgabakhaipnaa
open Go.RowKit

set_option maxHeartbeats 1000000 in
theorem eqStr_any (ss : List ByteArray) (va vb : Value) (w : World) (ha : Lst w va ss) (hb : Lst w vb ss) (hn : ss.length ≤ 1000) :
    Calls Try.prog 8 #[va, vb] w fun e w' => e = .returned (.bool true) ∧ Below w.heap.size w w' := by
  by_cases h0 : ss = []
  · subst h0
    obtain ⟨a1, c1, rfl⟩ := ha.shape
    obtain ⟨a2, c2, rfl⟩ := hb.shape
    simp only [List.length_nil]
    go_enter Try.func8, Try.ntmps8
    go_wp2
    go_rounds 1
    go_ret
    exact ⟨rfl, Below.refl _ _⟩
  rcases ha with ⟨_, h⟩ | ha
  · exact absurd h h0
  rcases hb with ⟨_, h⟩ | hb
  · exact absurd h h0
  obtain ⟨g1, c1, rfl, hS1, hg1, _, _⟩ := ha
  obtain ⟨g2, c2, rfl, hS2, hg2, _, _⟩ := hb
  go_enter Try.func8, Try.ntmps8
  go_wp2
  go_loopw [5] (fun i w' => ∃ k : Nat, k ≤ ss.length ∧ i = .int .i64 k ∧ Below w.heap.size w w') (fun i _ => ss.length - (intOf i).toNat)
  case atStart => exact ⟨0, by omega, rfl, Below.refl _ _⟩
  case round =>
    obtain ⟨k, hk, rfl, hB⟩ := hrel
    by_cases hp : k < ss.length
    · have c1 := (hB.cell (p := ⟨g1, 0 + k, none⟩) hg1).trans (hS1 k ss[k] (by simp))
      have c2 := (hB.cell (p := ⟨g2, 0 + k, none⟩) hg2).trans (hS2 k ss[k] (by simp))
      simp only [Nat.zero_add] at c1 c2
      go_wp2_with fail
      go_quiet (fail)
      go_wp2_with fail
      go_roundw
      case rel => exact ⟨k + 1, by omega, by go_num, below_drewN hB nq⟩
      case measure => simp [intOf]; omega
    · go_wp2_with fail
      go_ret
      exact ⟨rfl, hB⟩

/-- From place 0 to k the marks from m on. -/
def Marked (ys : List ByteArray) (m : Int) (k : Nat) : Prop := ∀ i : Nat, i < k → ys[i]? = some (mkB (m + i))
theorem Marked.set {ys : List ByteArray} {m : Int} {k : Nat} (h : Marked ys m k) (hk : k < ys.length) : Marked (ys.set k (mkB (m + k))) m (k + 1) := fun i hi => by
  rw [List.getElem?_set]
  by_cases e : k = i
  · subst e; rw [if_pos rfl, if_pos hk]
  · rw [if_neg e]; exact h i (by omega)

set_option maxHeartbeats 1000000 in
theorem markS_any (ss : List ByteArray) (base : Nat) (u : Value) (m : Int) (w : World) (h : OwnT w base u ss) (hn : ss.length ≤ 1000) (hm : 1 ≤ m) (hm9 : m ≤ 1000000) :
    Calls Try.prog 11 #[u, .int .i64 m] w fun e w' => e = .returned (.int .i64 (m + ss.length)) ∧ (∃ ys, ys.length = ss.length ∧ Marked ys m ss.length ∧ OwnT w' base u ys) ∧ w.grownBy w' u.ownBlock := by
  by_cases h0 : ss = []
  · subst h0
    obtain ⟨a1, c1, rfl⟩ := h.lst.shape
    simp only [List.length_nil]
    have HO : Hid (OwnT w base (.slice a1 0 c1) []) := h
    clear h
    go_enter Try.func11, Try.ntmps11
    go_wp2
    go_rounds 1
    go_ret
    exact ⟨by simp, ⟨[], rfl, fun i hi => by omega, HO.out⟩, grown_refl _ _⟩
  have hpos : 0 < ss.length := by
    rcases Nat.eq_zero_or_pos ss.length with h1 | h1
    · exact absurd (List.length_eq_zero_iff.1 h1) h0
    · exact h1
  obtain ⟨g, cap, rfl⟩ := own_ptr2 h hpos
  go_enter Try.func11, Try.ntmps11
  go_wp2
  go_loopw [1, 5] (fun kk i w' => ∃ (k : Nat) (ys : List ByteArray), k ≤ ss.length ∧ i = .int .i64 k ∧ kk = .int .i64 (m + k) ∧ ys.length = ss.length ∧ Marked ys m k ∧ w'.ownsRow base 9 1 (.slice (some ⟨g, 0, none⟩) ss.length cap) ss.length (ys.map Value.string) ∧ w.grownBy w' (some g)) (fun _ i _ => ss.length - (intOf i).toNat)
  case atStart => exact ⟨0, ss, by omega, rfl, by simp, rfl, fun i hi => by omega, h, grown_refl _ _⟩
  case round =>
    obtain ⟨k, ys, hk, rfl, rfl, hyl, hM, hown, hG⟩ := hrel
    by_cases hp : k < ss.length
    · go_wp2_with fail
      refine (mark_any (m + k) wr (by omega)).mono ?_
      rintro e w1 ⟨rfl, hB1⟩
      have hown1 := own_up hown hB1
      have hG1 := grown_trans hG (grown_below (r := some g) hB1)
      have c0 := hown1.cellAt k (by omega)
      rw [List.getElem?_map, List.getElem?_eq_getElem (by omega)] at c0
      have f0 := hown1.frozenAt k
      have hst := hown1.stored k (.string (mkB (m + k)))
      have hM' := hM.set (by omega)
      have Hst : Hid ((w1.setCell ⟨g, k, none⟩ (.string (mkB (m + k)))).ownsRow base 9 1 (.slice (some ⟨g, 0, none⟩) ss.length cap) ss.length ((ys.set k (mkB (m + k))).map Value.string) ∧ w.grownBy (w1.setCell ⟨g, k, none⟩ (.string (mkB (m + k)))) (some g)) := by
        refine ⟨?_, grown_trans hG1 hst.2⟩
        rw [List.map_set]; exact hst.1
      have HM : Hid (Marked (ys.set k (mkB (m + k))) m (k + 1)) := hM'
      have hyl' : (ys.set k (mkB (m + k))).length = ss.length := by rw [List.length_set]; exact hyl
      have Hyl : Hid ((ys.set k (mkB (m + k))).length = ss.length) := hyl'
      clear hown hB1 hG hown1 hG1 hst hM' hM hyl'
      simp only [Option.map_some] at c0
      generalize mkB (m + k) = mb at *
      go_wp2_with fail
      go_roundw
      case rel => exact ⟨k + 1, ys.set k mb, by omega, by go_num, by go_num, Hyl.out, HM.out, Hst.out.1, Hst.out.2⟩
      case measure => simp [intOf]; omega
    · obtain rfl : k = ss.length := by omega
      go_wp2_with fail
      go_ret
      exact ⟨rfl, ⟨ys, hyl, hM, by unfold OwnT; rw [hyl]; exact hown⟩, hG⟩

set_option maxHeartbeats 1000000 in
theorem heldS_any (ys : List ByteArray) (base : Nat) (u : Value) (m : Int) (w : World) (h : OwnT w base u ys) (hM : Marked ys m ys.length) (hn : ys.length ≤ 1000) (hm : 1 ≤ m) (hm9 : m ≤ 1000000) :
    Calls Try.prog 12 #[u, .int .i64 m] w fun e w' => e = .returned (.int .i64 (m + ys.length)) ∧ Below w.heap.size w w' := by
  by_cases h0 : ys = []
  · subst h0
    obtain ⟨a1, c1, rfl⟩ := h.lst.shape
    simp only [List.length_nil]
    clear h hM
    go_enter Try.func12, Try.ntmps12
    go_wp2
    go_rounds 1
    go_ret
    exact ⟨by simp, Below.refl _ _⟩
  have hpos : 0 < ys.length := by
    rcases Nat.eq_zero_or_pos ys.length with h1 | h1
    · exact absurd (List.length_eq_zero_iff.1 h1) h0
    · exact h1
  obtain ⟨g, cap, rfl⟩ := own_ptr2 h hpos
  have hg := (h.lt g rfl).2
  have hcell : ∀ k, k < ys.length → w.cell? ⟨g, k, none⟩ = some (.string (mkB (m + k))) := fun k hk => by
    rw [h.cellAt k (by omega), List.getElem?_map, hM k hk]; rfl
  have Hcell : Hid (∀ k, k < ys.length → w.cell? ⟨g, k, none⟩ = some (.string (mkB (m + k)))) := hcell
  clear hcell h hM
  go_enter Try.func12, Try.ntmps12
  go_wp2
  go_loopw [1, 5] (fun kk i w' => ∃ k : Nat, k ≤ ys.length ∧ i = .int .i64 k ∧ kk = .int .i64 (m + k) ∧ Below w.heap.size w w') (fun _ i _ => ys.length - (intOf i).toNat)
  case atStart => exact ⟨0, by omega, rfl, by simp, Below.refl _ _⟩
  case round =>
    obtain ⟨k, hk, rfl, rfl, hB⟩ := hrel
    by_cases hp : k < ys.length
    · have c0 := (hB.cell (p := ⟨g, k, none⟩) hg).trans (Hcell.out k hp)
      go_wp2_with fail
      have hS : Below w.heap.size w wr ∧ wr.cell? ⟨g, k, none⟩ = some (.string (mkB (m + k))) := ⟨hB, c0⟩
      clear c0
      go_region_held (fun w' => Below w.heap.size w w' ∧ w'.cell? ⟨g, k, none⟩ = some (.string (mkB (m + k)))) (first | exact ⟨hS.1.drew, hS.2⟩ | exact keep1 hg (by assumption) (by assumption))
        (first | (go_at_call 25; refine (mark_any (m + k) _ (by omega)).mono ?_; rintro e w1 ⟨rfl, hB1⟩))
      rename_i hHeld
      have hB3 := hHeld.1
      clear hHeld hS hB
      generalize mkB (m + k) = mb at *
      go_wp2_with fail
      go_roundw
      case rel => exact ⟨k + 1, by omega, by go_num, by go_num, hB3⟩
      case measure => simp [intOf]; omega
    · obtain rfl : k = ys.length := by omega
      go_wp2_with fail
      go_ret
      exact ⟨rfl, hB⟩
end Go.Proofs.Ytafgabakhaipnaa
