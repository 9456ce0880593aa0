/- Drawing: the reader is opened; slots; a phase. -/
import Derived.Test.YtkapodkidlgkjaaDoorDp0
import Derived.Test.YtkapodkidlgkjaaDoorWa
import Derived.Test.YtkapodkidlgkjaaDoorPr
namespace Go.Proofs.YtkapodkidlgkjaaDoor
open Go.RowKit

/-- A phase in a block of its own. -/
def Box (w : World) (pb : Nat) (p : Ph) : Prop := w.rangeAt pb 0 p.cells ∧ w.there pb 0 8
theorem Box.lt {w : World} {pb : Nat} {p : Ph} (h : Box w pb p) : pb < w.heap.size := World.block_lt_of_cell? w _ (h.1 0 _ rfl)
theorem Box.cells {w : World} {pb : Nat} {p : Ph} (h : Box w pb p) :
    w.cell? ⟨pb, 0, none⟩ = some (.string p.nm) ∧ w.cell? ⟨pb, 1, none⟩ = some (.int .i64 p.k) ∧ w.cell? ⟨pb, 2, none⟩ = some (.string p.a) ∧ w.cell? ⟨pb, 3, none⟩ = some (.string p.b) ∧
    w.cell? ⟨pb, 4, none⟩ = some (.int .i64 p.n) ∧ w.cell? ⟨pb, 5, none⟩ = some (.int .i64 p.wi) ∧ w.cell? ⟨pb, 6, none⟩ = some (.string p.t) ∧ w.cell? ⟨pb, 7, none⟩ = some (.string p.e) :=
  ⟨h.1 0 _ rfl, h.1 1 _ rfl, h.1 2 _ rfl, h.1 3 _ rfl, h.1 4 _ rfl, h.1 5 _ rfl, h.1 6 _ rfl, h.1 7 _ rfl⟩
theorem Box.frozen {w : World} {pb : Nat} {p : Ph} (h : Box w pb p) :
    w.frozen? ⟨pb, 0, none⟩ = false ∧ w.frozen? ⟨pb, 1, none⟩ = false ∧ w.frozen? ⟨pb, 2, none⟩ = false ∧ w.frozen? ⟨pb, 3, none⟩ = false ∧ w.frozen? ⟨pb, 4, none⟩ = false ∧ w.frozen? ⟨pb, 5, none⟩ = false ∧ w.frozen? ⟨pb, 6, none⟩ = false ∧ w.frozen? ⟨pb, 7, none⟩ = false :=
  ⟨(h.2 0 (by omega)).2, (h.2 1 (by omega)).2, (h.2 2 (by omega)).2, (h.2 3 (by omega)).2, (h.2 4 (by omega)).2, (h.2 5 (by omega)).2, (h.2 6 (by omega)).2, (h.2 7 (by omega)).2⟩
theorem Box.kept {w w' : World} {pb : Nat} {p : Ph} {r : Option Nat} (h : Box w pb p) (hg : w.grownBy w' r) (hne : some pb ≠ r) : Box w' pb p := by
  have hb := hg.block pb h.lt hne
  refine ⟨fun j v hv => ?_, fun j hj => ?_⟩
  · rw [World.cell?_of_block (w := w) (a := ⟨pb, 0 + j, none⟩) hb]; exact h.1 j v hv
  · rw [World.cell?_of_block (w := w) (a := ⟨pb, 0 + j, none⟩) hb, World.frozen?_of_block (w := w) (a := ⟨pb, 0 + j, none⟩) hb]; exact h.2 j hj
theorem box_alloc (w : World) (p : Ph) (t : TypeId) : Box (w.alloc (.cells #[.string p.nm, .int .i64 p.k, .string p.a, .string p.b, .int .i64 p.n, .int .i64 p.wi, .string p.t, .string p.e] t)) w.heap.size p := by
  have hr : (w.alloc (.cells #[.string p.nm, .int .i64 p.k, .string p.a, .string p.b, .int .i64 p.n, .int .i64 p.wi, .string p.t, .string p.e] t)).rangeAt w.heap.size 0 p.cells := by
    intro j v hv
    rw [Nat.zero_add, World.cell?_alloc_at]
    · simpa [Ph.cells] using hv
    · rfl
  refine ⟨hr, fun j hj => ⟨hr.isSome j hj, ?_⟩⟩
  simp [go_sem]
theorem range_set {w : World} {pb : Nat} {cs : List Value} {j : Nat} {u : Value} (h : w.rangeAt pb 0 cs) (hj : j < cs.length) : (w.setCell ⟨pb, j, none⟩ u).rangeAt pb 0 (cs.set j u) := by
  intro i x hx
  rw [List.getElem?_set] at hx
  by_cases e : j = i
  · subst e
    rw [if_pos rfl, if_pos hj] at hx
    obtain rfl := Option.some.inj hx
    have hc := h j cs[j] (by simp)
    rw [Nat.zero_add] at hc ⊢
    exact World.cell?_setCell_same _ _ _ hc
  · rw [if_neg e] at hx
    rw [World.cell?_setCell_other _ _ _ _ (by simp <;> omega)]
    exact h i x hx
theorem there_set {w : World} {pb n j : Nat} {u : Value} (h : w.there pb 0 n) : (w.setCell ⟨pb, j, none⟩ u).there pb 0 n := fun i hi => by
  have := World.there_setCells h pb j [u] i hi
  simpa [World.setCells] using this
theorem Box.set0 {w : World} {pb : Nat} {p : Ph} (h : Box w pb p) (s : ByteArray) : Box (w.setCell ⟨pb, 0, none⟩ (.string s)) pb { p with nm := s } := ⟨range_set h.1 (by simp [Ph.cells]), there_set h.2⟩
theorem Box.set1 {w : World} {pb : Nat} {p : Ph} (h : Box w pb p) (x : Int) : Box (w.setCell ⟨pb, 1, none⟩ (.int .i64 x)) pb { p with k := x } := ⟨range_set h.1 (by simp [Ph.cells]), there_set h.2⟩
theorem Box.set2 {w : World} {pb : Nat} {p : Ph} (h : Box w pb p) (s : ByteArray) : Box (w.setCell ⟨pb, 2, none⟩ (.string s)) pb { p with a := s } := ⟨range_set h.1 (by simp [Ph.cells]), there_set h.2⟩
theorem Box.set5 {w : World} {pb : Nat} {p : Ph} (h : Box w pb p) (x : Int) : Box (w.setCell ⟨pb, 5, none⟩ (.int .i64 x)) pb { p with wi := x } := ⟨range_set h.1 (by simp [Ph.cells]), there_set h.2⟩
theorem Box.set3 {w : World} {pb : Nat} {p : Ph} (h : Box w pb p) (s : ByteArray) : Box (w.setCell ⟨pb, 3, none⟩ (.string s)) pb { p with b := s } := ⟨range_set h.1 (by simp [Ph.cells]), there_set h.2⟩
theorem Box.set4 {w : World} {pb : Nat} {p : Ph} (h : Box w pb p) (x : Int) : Box (w.setCell ⟨pb, 4, none⟩ (.int .i64 x)) pb { p with n := x } := ⟨range_set h.1 (by simp [Ph.cells]), there_set h.2⟩
theorem Box.set6 {w : World} {pb : Nat} {p : Ph} (h : Box w pb p) (s : ByteArray) : Box (w.setCell ⟨pb, 6, none⟩ (.string s)) pb { p with t := s } := ⟨range_set h.1 (by simp [Ph.cells]), there_set h.2⟩
theorem Box.set7 {w : World} {pb : Nat} {p : Ph} (h : Box w pb p) (s : ByteArray) : Box (w.setCell ⟨pb, 7, none⟩ (.string s)) pb { p with e := s } := ⟨range_set h.1 (by simp [Ph.cells]), there_set h.2⟩
theorem Box.other {w : World} {pb qb j : Nat} {p : Ph} {u : Value} (h : Box w pb p) (hne : pb ≠ qb) : Box (w.setCell ⟨qb, j, none⟩ u) pb p :=
  h.kept (r := some qb) ⟨rfl, rfl, rfl, by simp, fun i _ hr => Below.heap_setCell _ _ _ _ (fun e => hr (by rw [e]))⟩ (by simpa using hne)

/-- A phase copied whole into its block. -/
theorem Box.copy {w : World} {pb : Nat} {p : Ph} (h : Box w pb p) (q : Ph) : Box ((((((((w.setCell ⟨pb, 0, none⟩ (.string q.nm)).setCell ⟨pb, 1, none⟩ (.int .i64 q.k)).setCell ⟨pb, 2, none⟩ (.string q.a)).setCell ⟨pb, 3, none⟩ (.string q.b)).setCell ⟨pb, 4, none⟩ (.int .i64 q.n)).setCell ⟨pb, 5, none⟩ (.int .i64 q.wi)).setCell ⟨pb, 6, none⟩ (.string q.t)).setCell ⟨pb, 7, none⟩ (.string q.e)) pb q :=
  (((((((h.set0 q.nm).set1 q.k).set2 q.a).set3 q.b).set4 q.n).set5 q.wi).set6 q.t).set7 q.e
theorem sizeRecPhase : (Tryd.prog.info? 32).map (·.size) = some 8 := by kernel_rfl
/-- What a function hands back that lies in its result's block. -/
theorem ret_box {fn : Func} {q : Tmp} (h : fn.results = #[.cell q 32]) {tmps : Array Value} {Z : World} {rk : Nat} {p : Ph} (ht : tmps.getD q undef = .pointer (some ⟨rk, 0, none⟩)) (hZ : Box Z rk p) :
    (results fn tmps).run Tryd.prog Z = .ok (.agg #[.string p.nm, .int .i64 p.k, .string p.a, .string p.b, .int .i64 p.n, .int .i64 p.wi, .string p.t, .string p.e]) Z := by
  have hl := run_loadVar_mid (P := Tryd.prog) Z rk 0 32 p.cells _ hZ.1 Tryd.underlying32 rfl sizeRecPhase
  have ha : (asAddr (.pointer (some ⟨rk, 0, none⟩))).run Tryd.prog Z = .ok ⟨rk, 0, none⟩ Z := by simp [go_sem]
  have ht' : tmps[q]?.getD undef = .pointer (some ⟨rk, 0, none⟩) := by simpa using ht
  simp only [results, h]
  simp [Sem.run_bind, Result.andThen, ht', ha, hl, Ph.cells]

def slotsL : List ByteArray := [⟨#[115, 49]⟩, ⟨#[115, 49]⟩, ⟨#[115, 50]⟩, ⟨#[115, 51]⟩, ⟨#[107, 101, 103]⟩]
end Go.Proofs.YtkapodkidlgkjaaDoor
