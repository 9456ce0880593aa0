/- The laws' helpers over what is handed to them. -/
import Derived.Test.YtkapodkidlgkjahDoorWs
namespace Go.Proofs.YtkapodkidlgkjahDoor
open Go.RowKit

theorem szS_src (ps : List Ph) (v : Value) (w : World) (h : Src w v ps) (hs : Sized ps) :
    Calls Tryd.prog 8 #[v, .int .i64 1048576] w fun e' w' => (∃ x : Int, e' = .returned (.int .i64 x) ∧ (0 ≤ x → ps.length ≤ 1048576)) ∧ Below w.heap.size w w' := by
  rcases h with ⟨a, c, rfl, rfl⟩ | ⟨b, o, c, rfl, hr, hb, hl⟩
  · refine (szS_nil a c _ w (by omega) (by omega)).mono fun e w' ⟨he, hw⟩ => ?_
    subst hw
    exact ⟨⟨_, he, fun _ => by simp⟩, Below.refl _ _⟩
  · refine (szS_any ps b o c _ w (by omega) (by omega) hr hb hs hl).mono fun e w' ⟨⟨x, he, hx, _⟩, hB⟩ => ?_
    exact ⟨⟨x, he, fun h => by have := hx h; omega⟩, hB⟩
theorem toS_src (ps : List Ph) (v : Value) (w : World) (h : Src w v ps) (hn : ps.length ≤ 1048576) :
    Calls Tryd.prog 10 #[v] w fun e w' => (∃ b, e = .returned (.slice (some ⟨b, 0, none⟩) ps.length ps.length) ∧ Own w' b ps ∧ w.heap.size ≤ b) ∧ Below w.heap.size w w' := by
  rcases h with ⟨a, c, rfl, rfl⟩ | ⟨b, o, c, rfl, hr, hb, hl⟩
  · exact (toS_nil a c w).mono fun e w' ⟨he, ho, hB⟩ => ⟨⟨_, he, ho, Nat.le_refl _⟩, hB⟩
  · exact (toS_any ps b o c w hr hb hn).mono fun e w' ⟨he, ho, hB⟩ => ⟨⟨_, he, ho, Nat.le_refl _⟩, hB⟩
theorem Own.up {w w' : World} {b : Nat} {ps : List Ph} (h : Own w b ps) (hb : Below w.heap.size w w') : Own w' b ps :=
  ⟨h.1.up hb h.2.2, there_up h.2.1 hb h.2.2, Nat.lt_of_lt_of_le h.2.2 hb.size⟩
end Go.Proofs.YtkapodkidlgkjahDoor
