/- Structs in blocks of their own: their cells, copied, kept, handed back. -/
import Derived.Test.YtkfclahdofjhjahDoorPr
import Derived.Test.YtkfclahdofjhjahDoorWa
namespace Go.Proofs.YtkfclahdofjhjahDoor
open Go.RowKit

theorem below_copies (b : Nat) : ∀ (vs : List Value) (o : Nat) (W w' : World) (B : Nat), Below B W w' → B ≤ b → Below B W (w'.setCells b o vs)
  | [], _, _, _, _, h, _ => h
  | v :: r, o, W, w', B, h, hB => by
    rw [World.setCells]
    exact below_copies b r (o + 1) W _ B (h.setCell (p := ⟨b, o, none⟩) hB v) hB
theorem World.size_setCells' {b : Nat} : ∀ {vs : List Value} {o : Nat} {w : World}, (w.setCells b o vs).heap.size = w.heap.size
  | [], _, _ => rfl
  | v :: r, o, w => by rw [World.setCells, World.size_setCells']; simp
theorem World.grownBy.refl' (w : World) {r : Option Nat} : w.grownBy w r := ⟨rfl, rfl, rfl, Nat.le_refl _, fun _ _ _ => rfl⟩
theorem grown_copies (b : Nat) : ∀ (vs : List Value) (o : Nat) (W w' : World) (r : Option Nat), W.grownBy w' r → r = some b → W.grownBy (w'.setCells b o vs) r
  | [], _, _, _, _, h, _ => h
  | v :: s, o, W, w', r, h, hr => by
    rw [World.setCells]
    refine grown_copies b s (o + 1) W _ r ⟨h.os, h.tape, h.output, Nat.le_trans h.size (by simp), fun i hi hne => ?_⟩ hr
    rw [Below.heap_setCell _ _ _ _ (fun e => hne (by rw [hr, e]))]
    exact h.block i hi hne
/-- The cells of one struct, in a block of its own, which may be written. -/
def CB (w : World) (b : Nat) (cs : List Value) : Prop := w.rangeAt b 0 cs ∧ w.there b 0 cs.length ∧ b < w.heap.size
theorem CB.kept {w w' : World} {b : Nat} {cs : List Value} {r : Option Nat} (h : CB w b cs) (hg : w.grownBy w' r) (hne : some b ≠ r) : CB w' b cs := by
  have hb := hg.block b h.2.2 hne
  refine ⟨fun j v hv => ?_, fun j hj => ?_, Nat.lt_of_lt_of_le h.2.2 hg.size⟩
  · rw [World.cell?_of_block (w := w) (a := ⟨b, 0 + j, none⟩) hb]; exact h.1 j v hv
  · rw [World.cell?_of_block (w := w) (a := ⟨b, 0 + j, none⟩) hb, World.frozen?_of_block (w := w) (a := ⟨b, 0 + j, none⟩) hb]; exact h.2.1 j hj
theorem CB.up {w w' : World} {b B : Nat} {cs : List Value} (h : CB w b cs) (hb : Below B w w') (hB : b < B) : CB w' b cs := by
  have hk := hb.block b hB
  refine ⟨fun j v hv => ?_, fun j hj => ?_, Nat.lt_of_lt_of_le h.2.2 hb.size⟩
  · rw [World.cell?_of_block (w := w) (a := ⟨b, 0 + j, none⟩) hk]; exact h.1 j v hv
  · rw [World.cell?_of_block (w := w) (a := ⟨b, 0 + j, none⟩) hk, World.frozen?_of_block (w := w) (a := ⟨b, 0 + j, none⟩) hk]; exact h.2.1 j hj
theorem cb_alloc (w : World) (cs : List Value) (t : TypeId) : CB (w.alloc (.cells cs.toArray t)) w.heap.size cs := by
  have hr : (w.alloc (.cells cs.toArray t)).rangeAt w.heap.size 0 cs := by
    intro j v hv
    rw [Nat.zero_add, World.cell?_alloc_at]
    · simpa using hv
    · rfl
  refine ⟨hr, fun j hj => ⟨hr.isSome j hj, ?_⟩, by simp⟩
  simp [go_sem]
theorem cb_range_set {w : World} {b : Nat} {cs : List Value} {j : Nat} {u : Value} (h : w.rangeAt b 0 cs) (hj : j < cs.length) : (w.setCell ⟨b, j, none⟩ u).rangeAt b 0 (cs.set j u) := by
  intro i x hx
  rw [List.getElem?_set] at hx
  by_cases e : j = i
  · subst e
    rw [if_pos rfl, if_pos hj] at hx
    obtain rfl := Option.some.inj hx
    have hc := h j cs[j] (by simp)
    rw [Nat.zero_add] at hc ⊢
    exact World.cell?_setCell_same _ _ _ hc
  · rw [if_neg e] at hx
    rw [World.cell?_setCell_other _ _ _ _ (by simp <;> omega)]
    exact h i x hx
theorem CB.set {w : World} {b j : Nat} {cs : List Value} {u : Value} (h : CB w b cs) (hj : j < cs.length) : CB (w.setCell ⟨b, j, none⟩ u) b (cs.set j u) := by
  refine ⟨cb_range_set h.1 hj, fun i hi => ?_, by simpa using h.2.2⟩
  have := World.there_setCells h.2.1 b j [u] i (by simpa using hi)
  simpa [World.setCells] using this
theorem CB.other {w : World} {b q j : Nat} {cs : List Value} {u : Value} (h : CB w b cs) (hne : b ≠ q) : CB (w.setCell ⟨q, j, none⟩ u) b cs :=
  h.kept (r := some q) ⟨rfl, rfl, rfl, by simp, fun i _ hr => Below.heap_setCell _ _ _ _ (fun e => hr (by rw [e]))⟩ (by simpa using hne)
theorem CB.c2 {w : World} {b : Nat} {x0 x1 : Value} (h : CB w b [x0, x1]) : (w.cell? ⟨b, 0, none⟩ = some x0 ∧ w.cell? ⟨b, 1, none⟩ = some x1) ∧ w.frozen? ⟨b, 0, none⟩ = false ∧ w.frozen? ⟨b, 1, none⟩ = false :=
  ⟨⟨h.1 0 _ rfl, h.1 1 _ rfl⟩, (h.2.1 0 (by simp)).2, (h.2.1 1 (by simp)).2⟩
theorem CB.c3 {w : World} {b : Nat} {x0 x1 x2 : Value} (h : CB w b [x0, x1, x2]) : (w.cell? ⟨b, 0, none⟩ = some x0 ∧ w.cell? ⟨b, 1, none⟩ = some x1 ∧ w.cell? ⟨b, 2, none⟩ = some x2) ∧ w.frozen? ⟨b, 0, none⟩ = false ∧ w.frozen? ⟨b, 1, none⟩ = false ∧ w.frozen? ⟨b, 2, none⟩ = false :=
  ⟨⟨h.1 0 _ rfl, h.1 1 _ rfl, h.1 2 _ rfl⟩, (h.2.1 0 (by simp)).2, (h.2.1 1 (by simp)).2, (h.2.1 2 (by simp)).2⟩
theorem CB.c8 {w : World} {b : Nat} {x0 x1 x2 x3 x4 x5 x6 x7 : Value} (h : CB w b [x0, x1, x2, x3, x4, x5, x6, x7]) :
    (w.cell? ⟨b, 0, none⟩ = some x0 ∧ w.cell? ⟨b, 1, none⟩ = some x1 ∧ w.cell? ⟨b, 2, none⟩ = some x2 ∧ w.cell? ⟨b, 3, none⟩ = some x3 ∧ w.cell? ⟨b, 4, none⟩ = some x4 ∧ w.cell? ⟨b, 5, none⟩ = some x5 ∧ w.cell? ⟨b, 6, none⟩ = some x6 ∧ w.cell? ⟨b, 7, none⟩ = some x7) ∧
    w.frozen? ⟨b, 0, none⟩ = false ∧ w.frozen? ⟨b, 1, none⟩ = false ∧ w.frozen? ⟨b, 2, none⟩ = false ∧ w.frozen? ⟨b, 3, none⟩ = false ∧ w.frozen? ⟨b, 4, none⟩ = false ∧ w.frozen? ⟨b, 5, none⟩ = false ∧ w.frozen? ⟨b, 6, none⟩ = false ∧ w.frozen? ⟨b, 7, none⟩ = false :=
  ⟨⟨h.1 0 _ rfl, h.1 1 _ rfl, h.1 2 _ rfl, h.1 3 _ rfl, h.1 4 _ rfl, h.1 5 _ rfl, h.1 6 _ rfl, h.1 7 _ rfl⟩, (h.2.1 0 (by simp)).2, (h.2.1 1 (by simp)).2, (h.2.1 2 (by simp)).2, (h.2.1 3 (by simp)).2, (h.2.1 4 (by simp)).2, (h.2.1 5 (by simp)).2, (h.2.1 6 (by simp)).2, (h.2.1 7 (by simp)).2⟩
/-- A struct stored whole. -/
theorem CB.copy {w : World} {b : Nat} {ys : List Value} (h : CB w b ys) (xs : List Value) (hl : xs.length = ys.length) : CB (w.setCells b 0 xs) b xs :=
  ⟨World.rangeAt_setCells_same _ _ _ _ (by rw [hl]; exact h.2.1), World.there_setCells (by rw [hl]; exact h.2.1) _ _ _, by rw [World.size_setCells']; exact h.2.2⟩
theorem below_copy {B : Nat} {a w : World} {b : Nat} (h : Below B a w) (hb : B ≤ b) (xs : List Value) : Below B a (w.setCells b 0 xs) := below_copies b xs 0 a w B h hb
theorem CB.otherCopy {w : World} {b q : Nat} {ys : List Value} (h : CB w b ys) (hne : b ≠ q) (xs : List Value) : CB (w.setCells q 0 xs) b ys :=
  h.kept (r := some q) (grown_copies q xs 0 w w (some q) (World.grownBy.refl' w) rfl) (by simpa using hne)
/-- The struct that lies there may be stored into. -/
theorem CB.room {w : World} {b : Nat} {ys : List Value} (h : CB w b ys) {n : Nat} (hn : n = ys.length) : w.there b 0 n := by subst hn; exact h.2.1
theorem CB.copy2 {w : World} {b : Nat} {y0 y1 : Value} (h : CB w b [y0, y1]) (x0 x1 : Value) : CB ((w.setCell ⟨b, 0, none⟩ x0).setCell ⟨b, 1, none⟩ x1) b [x0, x1] := h.copy [x0, x1] rfl
theorem CB.copy3 {w : World} {b : Nat} {y0 y1 y2 : Value} (h : CB w b [y0, y1, y2]) (x0 x1 x2 : Value) : CB (((w.setCell ⟨b, 0, none⟩ x0).setCell ⟨b, 1, none⟩ x1).setCell ⟨b, 2, none⟩ x2) b [x0, x1, x2] := h.copy [x0, x1, x2] rfl
theorem CB.copy8 {w : World} {b : Nat} {y0 y1 y2 y3 y4 y5 y6 y7 : Value} (h : CB w b [y0, y1, y2, y3, y4, y5, y6, y7]) (x0 x1 x2 x3 x4 x5 x6 x7 : Value) :
    CB ((((((((w.setCell ⟨b, 0, none⟩ x0).setCell ⟨b, 1, none⟩ x1).setCell ⟨b, 2, none⟩ x2).setCell ⟨b, 3, none⟩ x3).setCell ⟨b, 4, none⟩ x4).setCell ⟨b, 5, none⟩ x5).setCell ⟨b, 6, none⟩ x6).setCell ⟨b, 7, none⟩ x7) b [x0, x1, x2, x3, x4, x5, x6, x7] := h.copy [x0, x1, x2, x3, x4, x5, x6, x7] rfl
theorem below_set2 {B : Nat} {a w : World} {b : Nat} (h : Below B a w) (hb : B ≤ b) (x0 x1 : Value) : Below B a ((w.setCell ⟨b, 0, none⟩ x0).setCell ⟨b, 1, none⟩ x1) := below_copy h hb [x0, x1]
theorem below_set3 {B : Nat} {a w : World} {b : Nat} (h : Below B a w) (hb : B ≤ b) (x0 x1 x2 : Value) : Below B a (((w.setCell ⟨b, 0, none⟩ x0).setCell ⟨b, 1, none⟩ x1).setCell ⟨b, 2, none⟩ x2) := below_copy h hb [x0, x1, x2]
theorem below_set8 {B : Nat} {a w : World} {b : Nat} (h : Below B a w) (hb : B ≤ b) (x0 x1 x2 x3 x4 x5 x6 x7 : Value) :
    Below B a ((((((((w.setCell ⟨b, 0, none⟩ x0).setCell ⟨b, 1, none⟩ x1).setCell ⟨b, 2, none⟩ x2).setCell ⟨b, 3, none⟩ x3).setCell ⟨b, 4, none⟩ x4).setCell ⟨b, 5, none⟩ x5).setCell ⟨b, 6, none⟩ x6).setCell ⟨b, 7, none⟩ x7) := below_copy h hb [x0, x1, x2, x3, x4, x5, x6, x7]
/-- What a function hands back that lies in its result's block. -/
theorem ret_cb {P : Program} {fn : Func} {q : Tmp} {T : TypeId} (h : fn.results = #[.cell q T]) {d : TypeDesc} (hu : P.underlying T = some d) (hd : d.isRow = true) {tmps : Array Value} {Z : World} {rk : Nat} {cs : List Value} (hi : (P.info? T).map (·.size) = some cs.length)
    (ht : tmps.getD q undef = .pointer (some ⟨rk, 0, none⟩)) (hZ : CB Z rk cs) : (results fn tmps).run P Z = .ok (.agg cs.toArray) Z := by
  have hl := run_loadVar_mid (P := P) Z rk 0 T cs d hZ.1 hu hd hi
  have ha : (asAddr (.pointer (some ⟨rk, 0, none⟩))).run P Z = .ok ⟨rk, 0, none⟩ Z := by simp [go_sem]
  have ht' : tmps[q]?.getD undef = .pointer (some ⟨rk, 0, none⟩) := by simpa using ht
  simp only [results, h]
  simp [Sem.run_bind, Result.andThen, ht', ha, hl]
/-- The same, beside a second result that is a temporary. -/
theorem ret_cb2 {P : Program} {fn : Func} {q q2 : Tmp} {T : TypeId} (h : fn.results = #[.cell q T, .tmp q2]) {d : TypeDesc} (hu : P.underlying T = some d) (hd : d.isRow = true) {tmps : Array Value} {Z : World} {rk : Nat} {cs : List Value} (hi : (P.info? T).map (·.size) = some cs.length)
    {v : Value} (ht : tmps.getD q undef = .pointer (some ⟨rk, 0, none⟩)) (hv : tmps.getD q2 undef = v) (hZ : CB Z rk cs) : (results fn tmps).run P Z = .ok (.tuple #[.agg cs.toArray, v]) Z := by
  have hl := run_loadVar_mid (P := P) Z rk 0 T cs d hZ.1 hu hd hi
  have ha : (asAddr (.pointer (some ⟨rk, 0, none⟩))).run P Z = .ok ⟨rk, 0, none⟩ Z := by simp [go_sem]
  have ht' : tmps[q]?.getD undef = .pointer (some ⟨rk, 0, none⟩) := by simpa using ht
  have hv' : tmps[q2]?.getD undef = v := by simpa using hv
  simp only [results, h]
  simp [Sem.run_bind, Result.andThen, ht', hv', ha, hl]
/-- One, two, three structs laid one behind the other. -/
theorem cb1 (w : World) (x : List Value) (t : TypeId) : CB (w.alloc (.cells x.toArray t)) w.heap.size x ∧ Below w.heap.size w (w.alloc (.cells x.toArray t)) ∧ (w.alloc (.cells x.toArray t)).heap.size = w.heap.size + 1 :=
  ⟨cb_alloc w x t, (Below.refl _ _).alloc (Nat.le_refl _) _, by simp⟩
theorem cb2 (w : World) (x y : List Value) (t u : TypeId) : CB ((w.alloc (.cells x.toArray t)).alloc (.cells y.toArray u)) w.heap.size x ∧ CB ((w.alloc (.cells x.toArray t)).alloc (.cells y.toArray u)) (w.heap.size + 1) y ∧
    Below w.heap.size w ((w.alloc (.cells x.toArray t)).alloc (.cells y.toArray u)) ∧ ((w.alloc (.cells x.toArray t)).alloc (.cells y.toArray u)).heap.size = w.heap.size + 2 := by
  obtain ⟨h1, hb, hs⟩ := cb1 w x t
  obtain ⟨h2, hb2, hs2⟩ := cb1 (w.alloc (.cells x.toArray t)) y u
  refine ⟨h1.up hb2 (by rw [hs]; omega), by rw [hs] at h2; exact h2, hb.trans (hb2.mono (by rw [hs]; omega)), by rw [hs2, hs]⟩
theorem cb3 (w : World) (x y z : List Value) (t u v : TypeId) : CB (((w.alloc (.cells x.toArray t)).alloc (.cells y.toArray u)).alloc (.cells z.toArray v)) w.heap.size x ∧ CB (((w.alloc (.cells x.toArray t)).alloc (.cells y.toArray u)).alloc (.cells z.toArray v)) (w.heap.size + 1) y ∧
    CB (((w.alloc (.cells x.toArray t)).alloc (.cells y.toArray u)).alloc (.cells z.toArray v)) (w.heap.size + 2) z ∧
    Below w.heap.size w (((w.alloc (.cells x.toArray t)).alloc (.cells y.toArray u)).alloc (.cells z.toArray v)) ∧ (((w.alloc (.cells x.toArray t)).alloc (.cells y.toArray u)).alloc (.cells z.toArray v)).heap.size = w.heap.size + 3 := by
  obtain ⟨h1, h2, hb, hs⟩ := cb2 w x y t u
  obtain ⟨h3, hb3, hs3⟩ := cb1 ((w.alloc (.cells x.toArray t)).alloc (.cells y.toArray u)) z v
  refine ⟨h1.up hb3 (by rw [hs]; omega), h2.up hb3 (by rw [hs]; omega), by rw [hs] at h3; exact h3, hb.trans (hb3.mono (by rw [hs]; omega)), by rw [hs3, hs]⟩
theorem sizeP : (Tryd.prog.info? 63).map (·.size) = some 8 := by kernel_rfl
end Go.Proofs.YtkfclahdofjhjahDoor
