/- Drawing: a recipe, where a run of it is, and how a phase goes. -/
import Derived.Test.YtkapodkidlgkjaaDoorDx0
import Derived.Test.YtkapodkidlgkjaaDoorDw
import Derived.Test.YtkapodkidlgkjaaDoorWg2
import Derived.Deep.RegionHeld
import Derived.Deep.DeepCutAuto
namespace Go.Proofs.YtkapodkidlgkjaaDoor
open Go.RowKit

theorem below_gr2 {w a b : World} {x : Nat} (h : Below w.heap.size w a) (hg : a.grownBy b (some x)) (hx : w.heap.size ≤ x) : Below w.heap.size w b :=
  { os := hg.os.trans h.os, tape := hg.tape.trans h.tape, output := hg.output.trans h.output, size := Nat.le_trans h.size hg.size, block := fun i hi => (hg.block i (Nat.lt_of_lt_of_le hi h.size) (by simp; omega)).trans (h.block i hi) }
/-- What lies where while a run is drawn: the two results' blocks, the state's block, the recipe. -/
structure GJ (w W : World) (g q : Nat) (qs : List Ph) (s : St) : Prop where
  a : CB W w.heap.size St.none.cells
  b : CB W (w.heap.size + 1) [.int .i64 0, .bool false]
  s : CB W q s.cells
  r : RecAt W g 0 qs
  bel : Below w.heap.size w W
variable {w W X : World} {g q rb : Nat} {qs : List Ph} {s : St}
theorem GJ.up (h : GJ w W g q qs s) (hg : g < q) (hb : Below W.heap.size W X) : GJ w X g q qs s :=
  ⟨h.a.up hb h.a.2.2, h.b.up hb h.b.2.2, h.s.up hb h.s.2.2, h.r.up hb (Nat.lt_trans hg h.s.2.2), up_trans h.bel hb⟩
theorem GJ.gr (h : GJ w W g q qs s) (h1 : w.heap.size + 2 ≤ rb) (h2 : rb < g) (h3 : g < q) (hb : W.grownBy X (some rb)) : GJ w X g q qs s :=
  ⟨h.a.kept hb (by simp; omega), h.b.kept hb (by simp; omega), h.s.kept hb (by simp; omega), h.r.gr hb (by omega), below_gr2 h.bel hb (by omega)⟩
theorem GJ.drew (h : GJ w W g q qs s) : GJ w W.drew g q qs s := ⟨h.a, h.b, h.s, h.r, h.bel.drew⟩
theorem GJ.alloc (h : GJ w W g q qs s) (hg : g < q) (o : Obj) : GJ w (W.alloc o) g q qs s := h.up hg ((Below.refl _ _).alloc (Nat.le_refl _) _)
theorem GJ.set (h : GJ w W g q qs s) (h1 : w.heap.size + 2 ≤ g) (h3 : g < q) {r : Nat} (hr : q < r) (x0 x1 x2 : Value) : GJ w (((W.setCell ⟨r, 0, none⟩ x0).setCell ⟨r, 1, none⟩ x1).setCell ⟨r, 2, none⟩ x2) g q qs s :=
  ⟨h.a.otherCopy (by omega) [x0, x1, x2], h.b.otherCopy (by omega) [x0, x1, x2], h.s.otherCopy (by omega) [x0, x1, x2], h.r.up (below_set3 (Below.refl r W) (Nat.le_refl _) x0 x1 x2) (by omega), below_set3 h.bel (by omega) x0 x1 x2⟩
theorem GJ.copy (h : GJ w W g q qs s) (h1 : w.heap.size + 2 ≤ g) (h3 : g < q) (z : St) : GJ w (((W.setCell ⟨q, 0, none⟩ (.string z.nm)).setCell ⟨q, 1, none⟩ (.int .i64 z.now)).setCell ⟨q, 2, none⟩ (.int .i64 z.left)) g q qs z :=
  ⟨h.a.otherCopy (by omega) z.cells, h.b.otherCopy (by omega) z.cells, h.s.copy z.cells rfl, h.r.up (below_set3 (Below.refl q W) (Nat.le_refl _) _ _ _) h3, below_set3 h.bel (by omega) _ _ _⟩
theorem GJ.set0 (h : GJ w W g q qs s) (h1 : w.heap.size + 2 ≤ g) (h3 : g < q) (nm : ByteArray) : GJ w (W.setCell ⟨q, 0, none⟩ (.string nm)) g q qs ⟨nm, s.now, s.left⟩ :=
  ⟨h.a.other (by omega), h.b.other (by omega), h.s.set (j := 0) (by simp [St.cells]), h.r.up ((Below.refl q W).setCell (p := ⟨q, 0, none⟩) (Nat.le_refl _) _) h3, h.bel.setCell (p := ⟨q, 0, none⟩) (by show _ ≤ q; omega) _⟩
theorem GJ.set1 (h : GJ w W g q qs s) (h1 : w.heap.size + 2 ≤ g) (h3 : g < q) (n : Int) : GJ w (W.setCell ⟨q, 1, none⟩ (.int .i64 n)) g q qs ⟨s.nm, n, s.left⟩ :=
  ⟨h.a.other (by omega), h.b.other (by omega), h.s.set (j := 1) (by simp [St.cells]), h.r.up ((Below.refl q W).setCell (p := ⟨q, 1, none⟩) (Nat.le_refl _) _) h3, h.bel.setCell (p := ⟨q, 1, none⟩) (by show _ ≤ q; omega) _⟩
theorem Rd.set3 {len N : Nat} {v : Value} (h : Rd W rb v len N) {r : Nat} (hr : rb < r) (x0 x1 x2 : Value) : Rd (((W.setCell ⟨r, 0, none⟩ x0).setCell ⟨r, 1, none⟩ x1).setCell ⟨r, 2, none⟩ x2) rb v len N := ((h.setCell hr).setCell hr).setCell hr
theorem ret_t2c {P : Program} {fn : Func} {q0 q1 q2 : Tmp} {T U : TypeId} (h : fn.results = #[.tmp q0, .cell q1 T, .cell q2 U]) {d e : TypeDesc} (hu : P.underlying T = some d) (hd : d.isRow = true) (hu' : P.underlying U = some e) (he : e.isRow = true) {tmps : Array Value} {Z : World} {r k : Nat} {cs ds : List Value}
    (hi : (P.info? T).map (·.size) = some cs.length) (hi' : (P.info? U).map (·.size) = some ds.length) {v : Value} (hv : tmps.getD q0 undef = v) (ht : tmps.getD q1 undef = .pointer (some ⟨r, 0, none⟩)) (ht' : tmps.getD q2 undef = .pointer (some ⟨k, 0, none⟩)) (hZ : CB Z r cs) (hZ' : CB Z k ds) :
    (results fn tmps).run P Z = .ok (.tuple #[v, .agg cs.toArray, .agg ds.toArray]) Z := by
  have hl := run_loadVar_mid (P := P) Z r 0 T cs d hZ.1 hu hd hi
  have hl' := run_loadVar_mid (P := P) Z k 0 U ds e hZ'.1 hu' he hi'
  have ha : ∀ r, (asAddr (.pointer (some ⟨r, 0, none⟩))).run P Z = .ok ⟨r, 0, none⟩ Z := fun r => by simp [go_sem]
  have h0 : tmps[q0]?.getD undef = v := by simpa using hv
  have h1 : tmps[q1]?.getD undef = .pointer (some ⟨r, 0, none⟩) := by simpa using ht
  have h2 : tmps[q2]?.getD undef = .pointer (some ⟨k, 0, none⟩) := by simpa using ht'
  simp only [results, h]
  simp [Sem.run_bind, Result.andThen, h0, h1, h2, ha, hl, hl']
end Go.Proofs.YtkapodkidlgkjaaDoor
