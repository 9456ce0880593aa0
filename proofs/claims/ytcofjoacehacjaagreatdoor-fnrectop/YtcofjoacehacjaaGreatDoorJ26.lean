/- A recipe that was drawn, as it lies. -/
import Derived.Test.YtcofjoacehacjaaGreatDoorJ12
import Derived.Test.YtcofjoacehacjaaGreatDoorJ0
import Derived.Test.YtcofjoacehacjaaGreatDoorJ8
import Derived.Test.YtcofjoacehacjaaGreatDoorJ14
namespace Go.Proofs.YtcofjoacehacjaaGreatDoor
open Go.RowKit

theorem RecAt.gr {w w' : World} {b o rb : Nat} {ps : List Ph} (h : RecAt w b o ps) (hg : w.grownBy w' (some rb)) (hne : b ≠ rb) : RecAt w' b o ps := fun i p hp j v hv => hg.cell (h i p hp j v hv) (by simpa using hne)
theorem Drawn.rec' {w : World} {B : Nat} {u : Value} {qs : List Ph} (h : Drawn w B u qs) : ∃ g c, u = .slice (some ⟨g, 0, none⟩) qs.length c ∧ RecAt w g 0 qs ∧ B ≤ g ∧ g < w.heap.size ∧ qs.length ≤ c ∧ c ≤ 9223372036854775807 ∧ Sized qs ∧ qs.length ≤ 13 := by
  obtain ⟨g, cap, rfl, hown, h13, hz⟩ := h
  refine ⟨g, cap, rfl, recAt_own hown, (hown.lt g rfl).1, (hown.lt g rfl).2, ?_, ?_, fun p hp => ?_, h13⟩
  · rcases hown.2 with ⟨h0, _⟩ | ⟨g', cap', cur, h', _, _, hc, _⟩
    · simp at h0
    · simp only [Value.slice.injEq] at h'; omega
  · rcases hown.2 with ⟨h0, _⟩ | ⟨g', cap', cur, h', _, _, _, hc, _⟩
    · simp at h0
    · simp only [Value.slice.injEq] at h'; unfold maxLen at hc; omega
  · have := hz p hp; exact ⟨this.1, this.2.1, this.2.2.1, this.2.2.2.1, this.2.2.2.2.1⟩
end Go.Proofs.YtcofjoacehacjaaGreatDoor

/- Lists of texts: handed about, of one's own. -/
namespace Go.Proofs.YtcofjoacehacjaaGreatDoor
open Go.RowKit

end Go.Proofs.YtcofjoacehacjaaGreatDoor
