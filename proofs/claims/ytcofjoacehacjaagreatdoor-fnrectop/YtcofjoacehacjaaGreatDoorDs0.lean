/- Drawing: the reader is opened; the names. -/
import Derived.Test.YtcofjoacehacjaaGreatDoorJ4
namespace Go.Proofs.YtcofjoacehacjaaGreatDoor
open Go.RowKit

theorem open_any (a : Option Addr) (n cap : Nat) (w : World) (h : BytesAt w w.heap.size (.slice a n cap) n) (hcap : n ≤ cap) (_hbig : cap ≤ maxLen) :
    Calls Tryz.prog 16 #[.slice a n cap] w
      fun e w' => (∃ (rb len : Nat) (v : Value), e = .returned (.pointer (some ⟨rb, 0, none⟩)) ∧ Rd w' rb v len 0 ∧ w.heap.size ≤ rb) ∧ Below w.heap.size w w' := by
  by_cases hn : 2000 < n
  · go_enter Tryz.func16, Tryz.ntmps16
    go_wp2_with fail
    go_ret
    exact ⟨⟨w.heap.size, 2000, _, rfl, rd_alloc w _ 2000 _ (h.cut (by omega)) (by omega), Nat.le_refl _⟩, (Below.refl _ _).alloc (Nat.le_refl _) _⟩
  · go_enter Tryz.func16, Tryz.ntmps16
    go_wp2_with fail
    go_ret
    exact ⟨⟨w.heap.size, n, _, rfl, rd_alloc w _ n _ h (by omega), Nat.le_refl _⟩, (Below.refl _ _).alloc (Nat.le_refl _) _⟩

def namesL : List ByteArray := [⟨#[98, 114, 101, 119]⟩, ⟨#[102, 49]⟩, ⟨#[102, 50]⟩, ⟨#[103]⟩, ⟨#[104]⟩, ⟨#[109, 97, 115, 104]⟩, ⟨#[114, 101, 115, 116]⟩, ⟨#[120, 45, 57]⟩]
theorem names_any (w : World) :
    Calls Tryz.prog 61 #[] w
      fun e w' => e = .returned (.slice (some ⟨w.heap.size, 0, none⟩) 8 8) ∧ w' = w.alloc (.cells (namesL.map Value.string).toArray 9) := by
  go_enter Tryz.func61, Tryz.ntmps61
  go_wp2_with fail
  go_ret
  exact ⟨rfl, rfl⟩
end Go.Proofs.YtcofjoacehacjaaGreatDoor
