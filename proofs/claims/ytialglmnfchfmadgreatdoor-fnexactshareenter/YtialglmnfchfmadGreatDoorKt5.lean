/- Copies, as the specification's chapter 13 makes them. -/
import Derived.Test.YtialglmnfchfmadGreatDoorK10
import Derived.Test.YtialglmnfchfmadGreatDoorKt4
import Derived.Test.YtialglmnfchfmadGreatDoorKs4a
namespace Go.Proofs.YtialglmnfchfmadGreatDoor
open Go.RowKit

theorem copyW_any (b : Bk) (v : Value) (w : World) (h : BkV w v b) (hok : BookOk b) :
    Calls Tryz.prog 20 #[v] w fun e w' => (∃ v', e = .returned v' ∧ BkW w' w.heap.size v' b) ∧ Below w.heap.size w w' := by
  obtain ⟨s1, s2, s3⟩ := ok_small hok
  refine (copy11_any b v w h (by omega) (by omega) (fun y hy => by have := s3 y hy; omega)).mono ?_
  rintro e w' ⟨⟨tu, bu, ps, rfl, h1, h2, h3, -⟩, hb⟩
  exact ⟨⟨_, rfl, tu, bu, ps, rfl, h1, h2, h3⟩, hb⟩
theorem copyS_any (b : Bk) (v : Value) (w : World) (h : BkV w v b) (h1 : b.things.length ≤ 100) (h2 : b.bs.length ≤ 100) (h3 : ∀ y ∈ b.bs, y.has.length ≤ 100 ∧ y.needs.length ≤ 100) :
    Calls Tryz.prog 20 #[v] w fun e w' => (∃ v', e = .returned v' ∧ BkW w' w.heap.size v' b) ∧ Below w.heap.size w w' := by
  refine (copy11_any b v w h (by omega) (by omega) (fun y hy => by have := h3 y hy; omega)).mono ?_
  rintro e w' ⟨⟨tu, bu, ps, rfl, h1, h2, h3, -⟩, hb⟩
  exact ⟨⟨_, rfl, tu, bu, ps, rfl, h1, h2, h3⟩, hb⟩
/-- A copy, its lists apart from each other. -/
theorem copyF_any (b : Bk) (v : Value) (w : World) (h : BkV w v b) (h1 : b.things.length ≤ 100) (h2 : b.bs.length ≤ 100) (h3 : ∀ y ∈ b.bs, y.has.length ≤ 100 ∧ y.needs.length ≤ 100) :
    Calls Tryz.prog 20 #[v] w fun e w' => (∃ a1 c1 a2 c2 ps, e = .returned (.agg #[.slice a1 b.things.length c1, .slice a2 b.bs.length c2]) ∧ BsW w' w.heap.size (.slice a2 b.bs.length c2) ps ∧ ps.map (·.1) = b.bs ∧ Fam w' w.heap.size none ((.slice a1 b.things.length c1, b.things) :: famB ps)) ∧ Below w.heap.size w w' := by
  refine (copy11_any b v w h (by omega) (by omega) (fun y hy => by have := h3 y hy; omega)).mono ?_
  rintro e w' ⟨⟨tu, bu, ps, rfl, h1, h2, h3, hF, -⟩, hb⟩
  obtain ⟨a1, c1, rfl⟩ := h1.lst.shape
  obtain ⟨a2, c2, rfl⟩ := own_shape h2.1
  have hl : ps.length = b.bs.length := by rw [← h3, List.length_map]
  rw [hl] at h2
  exact ⟨⟨a1, c1, a2, c2, ps, by rw [hl], h2, h3, hF⟩, hb⟩
end Go.Proofs.YtialglmnfchfmadGreatDoor
