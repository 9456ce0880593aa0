/- The walks over the program's table of the instance bool. -/
import Derived.Test.YtcofjoacehacjaaGreatDoorWa
import Derived.Test.YtcofjoacehacjaaGreatDoorPt
import Derived.Deep.RegionHeld
namespace Go.Proofs.YtcofjoacehacjaaGreatDoor
open Go.RowKit

def rowBB : List (ByteArray × Bool) → List Value
  | [] => []
  | r :: rest => .string r.1 :: .bool (r.2) :: rowBB rest
theorem rowBB_append (a b : List (ByteArray × Bool)) : rowBB (a ++ b) = rowBB a ++ rowBB b := by
  induction a with
  | nil => rfl
  | cons r rest ih => simp [rowBB, ih]
theorem rowBB_length (a : List (ByteArray × Bool)) : (rowBB a).length = a.length * 2 := by
  induction a with
  | nil => rfl
  | cons r rest ih => simp [rowBB, ih]; omega
theorem rowBB_at : ∀ (a : List (ByteArray × Bool)) (i : Nat) (h : i < a.length), (rowBB a)[i * 2]? = some (.string (a[i]).1) ∧ (rowBB a)[i * 2 + 1]? = some (.bool ((a[i]).2))
  | r :: rest, 0, _ => ⟨rfl, rfl⟩
  | r :: rest, i + 1, h => by
    have := rowBB_at rest i (by simpa using h)
    rw [show (i + 1) * 2 = i * 2 + 1 + 1 by omega]
    simpa [rowBB] using this
/-- The table lies in block g. -/
def TabB (w : World) (g : Nat) (rows : List (ByteArray × Bool)) : Prop := w.rangeAt g 0 (rowBB rows) ∧ g < w.heap.size
theorem TabB.up {w w' : World} {g : Nat} {rows : List (ByteArray × Bool)} (h : TabB w g rows) (hb : Below w.heap.size w w') : TabB w' g rows :=
  ⟨fun j v hv => by rw [hb.cell (p := ⟨g, 0 + j, none⟩) h.2]; exact h.1 j v hv, Nat.lt_of_lt_of_le h.2 hb.size⟩
theorem TabB.cells {w : World} {g : Nat} {rows : List (ByteArray × Bool)} (h : TabB w g rows) (i : Nat) (hi : i < rows.length) : w.cell? ⟨g, i * 2, none⟩ = some (.string (rows[i]).1) ∧ w.cell? ⟨g, i * 2 + 1, none⟩ = some (.bool ((rows[i]).2)) := by
  obtain ⟨h1, h2⟩ := rowBB_at rows i hi
  exact ⟨by simpa using h.1 _ _ h1, by simpa using h.1 _ _ h2⟩
theorem TabB.of_own {w : World} {base e g cap : Nat} {rows : List (ByteArray × Bool)} (h : w.ownsRow base e 2 (.slice (some ⟨g, 0, none⟩) rows.length cap) rows.length (rowBB rows)) : TabB w g rows := by
  refine ⟨fun j v hv => ?_, (h.lt g rfl).2⟩
  have hj : j < rows.length * 2 := by rw [← rowBB_length]; exact (List.getElem?_eq_some_iff.1 hv).1
  rw [Nat.zero_add, h.cellAt j hj]; exact hv

theorem ofB_any (rows : List (ByteArray × Bool)) (g c : Nat) (nm : ByteArray) (w : World) (hr : TabB w g rows) (hn : rows.length ≤ 1048576) :
    Calls Tryz.prog 31 #[.slice (some ⟨g, 0, none⟩) rows.length c, .string nm] w fun e w' => e = .returned (.bool (look rows nm false)) ∧ Below w.heap.size w w' := by
  have hg := hr.2
  go_enter Tryz.func31, Tryz.ntmps31
  go_wp2
  go_loopw [10] (fun i w' => ∃ k : Nat, k ≤ rows.length ∧ i = .int .i64 k ∧ noneT rows nm k ∧ Below w.heap.size w w') (fun i _ => rows.length - (intOf i).toNat)
  case atStart => exact ⟨0, by omega, rfl, fun _ _ h => by omega, Below.refl _ _⟩
  case round =>
    obtain ⟨k, hk, rfl, hal, hB⟩ := hrel
    have Hal : Hid (noneT rows nm k) := hal
    clear hal
    by_cases hp : k < rows.length
    · obtain ⟨c0, c1⟩ := hr.cells k hp
      obtain ⟨hc, hf⟩ := bcell hB
      cases hq : ((rows[k]).1.toList == nm.toList)
      · have Hq : Hid (((rows[k]).1.toList == nm.toList) = false) := hq
        go_wp2
        go_roundw
        case rel => exact ⟨k + 1, by omega, by go_num, noneT_succ Hal.out hp Hq.out, hB.alloc hB.size _⟩
        case measure => simp [intOf]; omega
      · have Hq : Hid (look rows nm false = (rows[k]).2) := look_hit false Hal.out hp hq
        go_wp2
        go_ret
        exact ⟨by show Ending.returned (.bool ((rows[k]).2)) = _; rw [Hq.out], hB.alloc hB.size _⟩
    · have Hq : Hid (look rows nm false = false) := look_miss false Hal.out hp
      go_wp2
      go_ret
      exact ⟨by show Ending.returned (.bool (false)) = _; rw [Hq.out], hB⟩
end Go.Proofs.YtcofjoacehacjaaGreatDoor
