/- Drawing: any recipe. -/
import Derived.Test.YtkapodkidlgkjaaDoorDu
import Derived.OwnWalk
namespace Go.Proofs.YtkapodkidlgkjaaDoor
open Go.RowKit

/-- A recipe that was drawn. -/
def Drawn (w : World) (B : Nat) (u : Value) (qs : List Ph) : Prop := ∃ g cap, u = .slice (some ⟨g, 0, none⟩) qs.length cap ∧ w.ownsRow B 32 8 u qs.length (rowP qs) ∧ qs.length ≤ 13 ∧ ∀ p ∈ qs, p.sz

set_option maxRecDepth 20000 in
set_option maxHeartbeats 2000000 in
theorem anyR_any (rb len N : Nat) (v : Value) (w : World) (hR : Rd w rb v len N) (hN : N ≤ 700000) :
    Calls Tryd.prog 43 #[.pointer (some ⟨rb, 0, none⟩)] w
      fun e w' => (∃ (u : Value) (qs : List Ph), e = .returned u ∧ Drawn w' w.heap.size u qs) ∧ Rd w' rb v len (N + 700) ∧ w.grownBy w' (some rb) := by
  have hlt := hR.lt
  go_enter Tryd.func43, Tryd.ntmps43
  go_wp2_with fail
  refine (recipe_any rb len N v w hR (by omega)).mono ?_
  rintro e w1 ⟨⟨u, ps, rfl, h1, h12, hpz, hown⟩, hR1, hG1⟩
  obtain ⟨g, cap, rfl⟩ := own_ptr2 hown (by omega)
  have hs1 := hG1.size
  clear hR
  go_wp2_with fail
  refine (pick_any rb len _ v 24 _ hR1 (by omega)).mono ?_
  rintro e w2 ⟨⟨x, rfl, hx0, hx1⟩, hR2, hg2⟩
  have hown2 := own_grown hown hg2 hlt
  have hG2 := grown_trans hG1 hg2
  have hs2 := hg2.size
  clear hown hG1 hR1 hg2 hx1
  by_cases hx : x = 0
  · subst hx
    go_wp2_with fail
    refine (spoilR_any rb len _ v ps g cap _ hR2 (by omega) (recAt_own hown2) h1 h12 hpz (hown2.lt g rfl).2).mono ?_
    rintro e w3 ⟨⟨u, qs, rfl, j1, j13, hqz, hown3⟩, hR3, hg3⟩
    obtain ⟨g3, cap3, rfl⟩ := own_ptr2 hown3 (by omega)
    have hG3 := grown_trans hG2 hg3
    clear hg3
    go_wp2_with fail
    go_ret
    exact ⟨⟨_, qs, rfl, g3, cap3, rfl, own_low hown3 (by omega), j13, hqz⟩, hR3.mono (by omega), hG3⟩
  · have hx1 : (x == 0) = false := by simpa using hx
    by_cases hy : x = 1
    · subst hy
      go_wp2_with fail
      go_ret
      exact ⟨⟨_, [], rfl, _, _, rfl, World.ownsRow_lit w2 #[] 0 (by omega) (by unfold maxLen; omega) rfl, by simp, by simp⟩, (hR2.alloc _).mono (by omega), grown_alloc hG2 _⟩
    · have hy1 : (x == 1) = false := by simpa using hy
      go_wp2_with fail
      go_ret
      exact ⟨⟨_, ps, rfl, g, cap, rfl, hown2, by omega, hpz⟩, hR2.mono (by omega), hG2⟩
theorem Drawn.kept {w w' : World} {B rb : Nat} {u : Value} {qs : List Ph} (h : Drawn w B u qs) (hg : w.grownBy w' (some rb)) (hrb : rb < B) : Drawn w' B u qs := by
  obtain ⟨g, cap, rfl, hown, r⟩ := h
  exact ⟨g, cap, rfl, own_grown hown hg hrb, r⟩
theorem Drawn.low {w : World} {B C : Nat} {u : Value} {qs : List Ph} (h : Drawn w B u qs) (hC : C ≤ B) : Drawn w C u qs := by
  obtain ⟨g, cap, rfl, hown, r⟩ := h
  exact ⟨g, cap, rfl, own_low hown hC, r⟩
end Go.Proofs.YtkapodkidlgkjaaDoor
