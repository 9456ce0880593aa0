/- Drawing: the reader is opened; the names. -/
import Derived.Test.YtmccabenfdigdaaGreatDoorB1
namespace Go.Proofs.YtmccabenfdigdaaGreatDoor
open Go.RowKit

theorem BytesAt.cut {w : World} {rb n m : Nat} {a : Option Addr} {cap : Nat} (h : BytesAt w rb (.slice a n cap) n) (hm : m ≤ n) : BytesAt w rb (.slice a m cap) m := by
  obtain ⟨a', cap', hv, h⟩ := h
  cases hv
  refine ⟨a, cap, rfl, ?_⟩
  rcases h with h | ⟨b, o, z, ha, hb, hz⟩
  · exact .inl (by omega)
  · exact .inr ⟨b, o, z, ha, hb, fun i hi => hz i (by omega)⟩
theorem BytesAt.up {w w' : World} {B rb len : Nat} {v : Value} (h : BytesAt w B v len) (hg : Below B w w') (hB : B ≤ rb) : BytesAt w' rb v len := by
  obtain ⟨a, cap, hv, h⟩ := h
  refine ⟨a, cap, hv, ?_⟩
  rcases h with h | ⟨b, o, z, ha, hb, hz⟩
  · exact .inl h
  · exact .inr ⟨b, o, z, ha, by omega, fun i hi => ⟨(hg.cell (p := ⟨b, o + i, none⟩) hb).trans (hz i hi).1, (hz i hi).2⟩⟩

theorem rd_alloc (w : World) (v : Value) (n : Nat) (t : TypeId) (h : BytesAt w w.heap.size v n) (hn : n ≤ 2000) : Rd (w.alloc (.cells #[v, .int .i64 0] t)) w.heap.size v n 0 :=
  ⟨0, Nat.le_refl _, by simp [go_sem], by simp [go_sem], by simp [go_sem], h.up ((Below.refl _ _).alloc (Nat.le_refl _) _) (Nat.le_refl _), hn⟩

theorem open_any (a : Option Addr) (n cap : Nat) (w : World) (h : BytesAt w w.heap.size (.slice a n cap) n) (hcap : n ≤ cap) (_hbig : cap ≤ maxLen) :
    Calls Tryz.prog 16 #[.slice a n cap] w
      fun e w' => (∃ (rb len : Nat) (v : Value), e = .returned (.pointer (some ⟨rb, 0, none⟩)) ∧ Rd w' rb v len 0 ∧ w.heap.size ≤ rb) ∧ Below w.heap.size w w' := by
  by_cases hn : 2000 < n
  · go_enter Tryz.func16, Tryz.ntmps16
    go_wp2_with fail
    go_ret
    exact ⟨⟨w.heap.size, 2000, _, rfl, rd_alloc w _ 2000 _ (h.cut (by omega)) (by omega), Nat.le_refl _⟩, (Below.refl _ _).alloc (Nat.le_refl _) _⟩
  · go_enter Tryz.func16, Tryz.ntmps16
    go_wp2_with fail
    go_ret
    exact ⟨⟨w.heap.size, n, _, rfl, rd_alloc w _ n _ h (by omega), Nat.le_refl _⟩, (Below.refl _ _).alloc (Nat.le_refl _) _⟩

def namesL : List ByteArray := [⟨#[98, 114, 101, 119]⟩, ⟨#[102, 49]⟩, ⟨#[102, 50]⟩, ⟨#[103]⟩, ⟨#[104]⟩, ⟨#[109, 97, 115, 104]⟩, ⟨#[114, 101, 115, 116]⟩, ⟨#[120, 45, 57]⟩]
theorem names_any (w : World) :
    Calls Tryz.prog 60 #[] w
      fun e w' => e = .returned (.slice (some ⟨w.heap.size, 0, none⟩) 8 8) ∧ w' = w.alloc (.cells (namesL.map Value.string).toArray 9) := by
  go_enter Tryz.func60, Tryz.ntmps60
  go_wp2_with fail
  go_ret
  exact ⟨rfl, rfl⟩
end Go.Proofs.YtmccabenfdigdaaGreatDoor
