/- The program's words of a phase. -/
import Derived.Test.YtkfclahdofjhjahDoorPq
import Derived.Test.YtkfclahdofjhjahDoorBu
import Derived.Test.YtkfclahdofjhjahDoorRg
import Derived.Test.YtkfclahdofjhjahDoorWx
import Derived.Deep.RegionHeld
import Derived.Lib.AppendIntMem
namespace Go.Proofs.YtkfclahdofjhjahDoor
open Go.RowKit

/-- What the program's tables hold. -/
structure Tabs (w : World) : Prop where
  k1 : w.cell? ⟨1, 1, none⟩ = some (.string (kindS 1))
  k2 : w.cell? ⟨1, 2, none⟩ = some (.string (kindS 2))
  k3 : w.cell? ⟨1, 3, none⟩ = some (.string (kindS 3))
  k4 : w.cell? ⟨1, 4, none⟩ = some (.string (kindS 4))
  k5 : w.cell? ⟨1, 5, none⟩ = some (.string (kindS 5))
  lt : 1 < w.heap.size
  tab : Lib.TabIs Tryd.prog w "internal/strconv.uint64pow10" .u64 Lib.pow10Tab
theorem Tabs.up {w w' : World} (h : Tabs w) (hb : Below w.heap.size w w') : Tabs w' :=
  ⟨(hb.cell (p := ⟨1, 1, none⟩) h.lt).trans h.k1, (hb.cell (p := ⟨1, 2, none⟩) h.lt).trans h.k2, (hb.cell (p := ⟨1, 3, none⟩) h.lt).trans h.k3, (hb.cell (p := ⟨1, 4, none⟩) h.lt).trans h.k4, (hb.cell (p := ⟨1, 5, none⟩) h.lt).trans h.k5, Nat.lt_of_lt_of_le h.lt hb.size, Lib.tabBelow_of_tabIs h.tab w' hb⟩

theorem one_new (w : World) (s : ByteArray) (t : TypeId) : ∀ (j : Nat) (u : Value), [Value.string s][j]? = some u → (w.alloc (.cells #[.string s] t)).cell? ((⟨w.heap.size, 0, none⟩ : Addr).add j) = some u := fun j u hj => by
  match j, hj with
  | 0, hj => simp at hj; subst hj; simp [Addr.add]
theorem oneV (s : ByteArray) : ∀ u ∈ [Value.string s], u.oneCell' = true := fun u hu => by simp at hu; subst hu; rfl
theorem below_own {w W W' : World} {base e size n : Nat} {v : Value} {xs : List Value} (h : Below w.heap.size w W) (hown : W.ownsRow base e size v n xs) (hg : W.grownBy W' v.ownBlock) (hk : w.heap.size ≤ base) : Below w.heap.size w W' :=
  { os := hg.os.trans h.os, tape := hg.tape.trans h.tape, output := hg.output.trans h.output, size := Nat.le_trans h.size hg.size, block := fun i hi => (hg.block i (Nat.lt_of_lt_of_le hi h.size) (own_ne hown (by omega))).trans (h.block i hi) }
theorem nine_up {W w0 w1 : World} {N kn : Nat} {nm a b t e ks : ByteArray} {n wi : Int} (hN : N < W.heap.size) (hG : 1 < W.heap.size) (h : Below W.heap.size W w0 ∧ (w0.cell? ⟨N, 0, none⟩ = some (.string nm) ∧ w0.cell? ⟨N, 1, none⟩ = some (.int .i64 kn) ∧ w0.cell? ⟨N, 2, none⟩ = some (.string a) ∧ w0.cell? ⟨N, 3, none⟩ = some (.string b) ∧ w0.cell? ⟨N, 4, none⟩ = some (.int .i64 n) ∧ w0.cell? ⟨N, 5, none⟩ = some (.int .i64 wi) ∧ w0.cell? ⟨N, 6, none⟩ = some (.string t) ∧ w0.cell? ⟨N, 7, none⟩ = some (.string e)) ∧ w0.cell? ⟨1, kn, none⟩ = some (.string ks)) (hB : Below w0.heap.size w0 w1) : Below W.heap.size W w1 ∧ (w1.cell? ⟨N, 0, none⟩ = some (.string nm) ∧ w1.cell? ⟨N, 1, none⟩ = some (.int .i64 kn) ∧ w1.cell? ⟨N, 2, none⟩ = some (.string a) ∧ w1.cell? ⟨N, 3, none⟩ = some (.string b) ∧ w1.cell? ⟨N, 4, none⟩ = some (.int .i64 n) ∧ w1.cell? ⟨N, 5, none⟩ = some (.int .i64 wi) ∧ w1.cell? ⟨N, 6, none⟩ = some (.string t) ∧ w1.cell? ⟨N, 7, none⟩ = some (.string e)) ∧ w1.cell? ⟨1, kn, none⟩ = some (.string ks) := by
  obtain ⟨h1, ⟨a0, a1, a2, a3, a4, a5, a6, a7⟩, a8⟩ := h
  have hl : N < w0.heap.size := Nat.lt_of_lt_of_le hN h1.size
  have hg : 1 < w0.heap.size := Nat.lt_of_lt_of_le hG h1.size
  exact ⟨up_trans h1 hB, ⟨(hB.cell (p := ⟨N, 0, none⟩) hl).trans a0, (hB.cell (p := ⟨N, 1, none⟩) hl).trans a1, (hB.cell (p := ⟨N, 2, none⟩) hl).trans a2, (hB.cell (p := ⟨N, 3, none⟩) hl).trans a3, (hB.cell (p := ⟨N, 4, none⟩) hl).trans a4, (hB.cell (p := ⟨N, 5, none⟩) hl).trans a5, (hB.cell (p := ⟨N, 6, none⟩) hl).trans a6, (hB.cell (p := ⟨N, 7, none⟩) hl).trans a7⟩, (hB.cell (p := ⟨1, kn, none⟩) hg).trans a8⟩
theorem six_new (w : World) (cs : List Value) (T : TypeId) : ∀ (j : Nat) (u : Value), cs[j]? = some u → (w.alloc (.cells cs.toArray T)).cell? ((⟨w.heap.size, 0, none⟩ : Addr).add j) = some u := fun j u hj => by
  rw [Addr.add_mid, Nat.zero_add, World.cell?_alloc_at]
  · simpa using hj
  · rfl
theorem oneL (ss : List ByteArray) : ∀ u ∈ ss.map Value.string, u.oneCell' = true := fun u hu => by
  obtain ⟨s, _, rfl⟩ := List.mem_map.1 hu; rfl
theorem itoa_is (n : Int) (w : World) (h0 : 0 ≤ n) (h1 : n ≤ 9999) (hT : Tabs w) :
    Calls Tryd.prog 68 #[.int .i64 n] w fun e w' => e = .returned (.string (decS n)) ∧ Below w.heap.size w w' := by
  refine (Tryd.strconv_Itoa n (by omega) (by omega) w hT.tab).mono ?_
  rintro e w' ⟨rfl, k, os, rfl⟩
  refine ⟨?_, Lib.below_grow w.heap.size w (Nat.le_refl _) k os⟩
  unfold decS ofL Lib.itoa
  rw [if_neg (by omega)]
end Go.Proofs.YtkfclahdofjhjahDoor
