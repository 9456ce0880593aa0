/- A region that draws its order and holds an append to a row of the call's own; rows kept. -/
import Derived.Test.YtkapodkidlgkjaaDoorGx
import Derived.Test.YtkapodkidlgkjaaDoorDr0
import Derived.Deep.RegionLaw
namespace Go.Proofs.YtkapodkidlgkjaaDoor
open Go.RowKit

theorem new8 (w : World) (p : Ph) (ty : TypeId) {j : Nat} {u : Value} (h : p.cells[j]? = some u) : (w.alloc (.cells #[.string p.nm, .int .i64 p.k, .string p.a, .string p.b, .int .i64 p.n, .int .i64 p.wi, .string p.t, .string p.e] ty)).cell? ((⟨w.heap.size, 0, none⟩ : Addr).add j) = some u := by
  have := (box_alloc w p ty).1 j u h
  rw [Addr.add_mid]; exact this
theorem one8 (p : Ph) : ∀ u ∈ p.cells, u.oneCell' = true := fun u hu => by
  simp only [Ph.cells, List.mem_cons, List.not_mem_nil, or_false] at hu
  rcases hu with rfl | rfl | rfl | rfl | rfl | rfl | rfl | rfl <;> rfl
end Go.Proofs.YtkapodkidlgkjaaDoor
