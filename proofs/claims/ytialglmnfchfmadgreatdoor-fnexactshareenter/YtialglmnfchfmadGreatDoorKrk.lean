/- The program's chapter 13: a batch put into a row: cells copied, a row spliced. -/
import Derived.Test.YtialglmnfchfmadGreatDoorKr4
import Derived.Laws.IdiomCopy
namespace Go.Proofs.YtialglmnfchfmadGreatDoor
open Go.RowKit

/-- A copy of elements of several cells: all is read before anything is written. -/
theorem run_copyN {P : Program} (w : World) (dT sT ty elem : TypeId) (size b o dLen dCap : Nat) (a : Addr) (sLen sCap : Nat) (cs : List Value)
    (hu : P.underlying dT = some (.slice elem)) (hs : (P.info? elem).map (·.size) = some size) (hn : cs.length = Nat.min sLen dLen * size)
    (hsrc : ∀ j v, cs[j]? = some v → w.cell? (a.add j) = some v) (hc : ∀ j, j < cs.length → (w.cell? ⟨b, o + j, none⟩).isSome = true) (hf : ∀ j, j < cs.length → w.frozen? ⟨b, o + j, none⟩ = false) (h1 : ∀ v ∈ cs, v.oneCell' = true) :
    (Builtin.copy_ #[dT, sT] ty #[.slice (some ⟨b, o, none⟩) dLen dCap, .slice (some a) sLen sCap]).run P w = .ok (goInt (Nat.min sLen dLen)) (w.setCells b o cs) := by
  have hl := run_loadCells_list (P := P) w a cs hsrc
  have hst := run_storeCells_cells (P := P) b o cs 0 w (by simpa using hc) (by simpa using hf) h1
  cases hq : P.info? elem with
  | none => simp [hq] at hs
  | some i =>
    have hi : i.size = size := by simpa [hq] using hs
    simp [Builtin.copy_, run_underlying hu, Builtin.lenOf, Builtin.firstCells, sizeOf, typeInfo, hq, hi, ← hn, hl, hst]
/-- A row of one's own, with more of its room. -/
theorem own_more {w : World} {base e size n m c g : Nat} {xs : List Value} (h : w.ownsRow base e size (.slice (some ⟨g, 0, none⟩) n c) n xs) (hn : n ≤ m) (hm : m ≤ c) : ∃ ys, ys.length = (m - n) * size ∧ w.ownsRow base e size (.slice (some ⟨g, 0, none⟩) m c) m (xs ++ ys) := by
  have hl := h.1
  rcases h.2 with ⟨h0, _⟩ | ⟨g', cap, cur, h', h1, h2, h3, h4, h5, h6⟩
  · simp at h0
  · obtain ⟨e1, -, rfl⟩ := Value.slice.inj h'
    obtain rfl : g = g' := by simpa using e1
    have hmul : n * size ≤ m * size := Nat.mul_le_mul_right _ hn
    have hmul2 : m * size ≤ c * size := Nat.mul_le_mul_right _ hm
    have hcl : cur.toList.length = c * size := by simpa using h5
    refine ⟨(cur.toList.take (m * size)).drop (n * size), ?_, ?_, .inr ⟨g, c, cur, rfl, h1, h2, hm, h4, h5, ?_⟩⟩
    · rw [List.length_drop, List.length_take, hcl, Nat.min_eq_left hmul2, Nat.sub_mul]
    · rw [List.length_append, hl, List.length_drop, List.length_take, hcl, Nat.min_eq_left hmul2]; omega
    · rw [← h6]
      conv => lhs; rw [← List.take_append_drop (n * size) (cur.toList.take (m * size))]
      rw [List.take_take, Nat.min_eq_left hmul]
/-- Cells written over in a row of one's own. -/
theorem own_splice {base e size n c g : Nat} : ∀ (vs : List Value) (o : Nat) (w : World) (xs : List Value), w.ownsRow base e size (.slice (some ⟨g, 0, none⟩) n c) n xs → o + vs.length ≤ xs.length →
    (w.setCells g o vs).ownsRow base e size (.slice (some ⟨g, 0, none⟩) n c) n (xs.take o ++ vs ++ xs.drop (o + vs.length)) ∧ w.grownBy (w.setCells g o vs) (some g)
  | [], o, w, xs, h, _ => by
    refine ⟨?_, grown_refl _ _⟩
    simpa [World.setCells] using h
  | v :: r, o, w, xs, h, ho => by
    obtain ⟨s1, s2⟩ := World.ownsRow.stored h o v
    simp only [List.length_cons] at ho
    obtain ⟨t1, t2⟩ := own_splice r (o + 1) (w.setCell ⟨g, o, none⟩ v) (xs.set o v) s1 (by rw [List.length_set]; omega)
    refine ⟨?_, grown_trans s2 t2⟩
    have e : (xs.set o v).take (o + 1) ++ r ++ (xs.set o v).drop (o + 1 + r.length) = xs.take o ++ (v :: r) ++ xs.drop (o + (v :: r).length) := by
      have hlt : o < xs.length := by omega
      rw [List.take_set, List.drop_set_of_lt (by omega), List.take_succ_eq_append_getElem hlt, List.set_append_right _ _ (by rw [List.length_take]; omega), List.length_take, Nat.min_eq_left (by omega), Nat.sub_self]
      simp [Nat.add_assoc, Nat.add_comm 1]
    rw [e] at t1
    exact t1
end Go.Proofs.YtialglmnfchfmadGreatDoor
