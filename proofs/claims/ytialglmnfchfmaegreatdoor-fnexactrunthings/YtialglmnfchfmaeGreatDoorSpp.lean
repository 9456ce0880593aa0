/- Slots in plain: lists joined. -/
import Derived.Test.YtialglmnfchfmaeGreatDoorSp0
import Derived.Test.YtialglmnfchfmaeGreatDoorPr2
namespace Go.Proofs.YtialglmnfchfmaeGreatDoor

def bothL (a : List ByteArray) (b : List ByteArray) : List ByteArray := b.foldl insL a
theorem bothL_take (a b : List ByteArray) (k : Nat) (hk : k < b.length) : bothL a (b.take (k + 1)) = insL (bothL a (b.take k)) b[k] := by
  unfold bothL; rw [List.take_succ_eq_append_getElem hk, List.foldl_append]; rfl
theorem bothL_len (a : List ByteArray) : ∀ b : List ByteArray, (bothL a b).length ≤ a.length + b.length
  | [] => by simp [bothL]
  | x :: r => by
    have h1 := bothL_len (insL a x) r
    have h2 := insL_len a x
    simp only [bothL, List.foldl_cons, List.length_cons] at *
    omega
/-- The slots of a phase alone. -/
def ofL (p : Ph) : List ByteArray := if p.k = 2 then insL [p.a] p.b else [p.a]
end Go.Proofs.YtialglmnfchfmaeGreatDoor
