/- Worlds that grow, rows of one's own, lists of texts, structs in blocks: what all walks share. -/
import Derived.Test.YtafgabakhaipnaaJ0
import Derived.Laws.Bits64
import Derived.BigQuiet
import Derived.Deep.QuietTactic
import Derived.Deep.DeepCutAuto
import Derived.Deep.RegionLaw
import Derived.Deep.RegionHeld
import Derived.Deep.RegionWith
import Derived.Test.YtafgabakhaipnaaJ7
namespace Go.Proofs.Ytafgabakhaipnaa
open Go.RowKit

theorem grown_trans {a b c : World} {r : Option Nat} (h : a.grownBy b r) (k : b.grownBy c r) : a.grownBy c r :=
  ⟨k.os.trans h.os, k.tape.trans h.tape, k.output.trans h.output, Nat.le_trans h.size k.size, fun i hi hr => (k.block i (Nat.lt_of_lt_of_le hi h.size) hr).trans (h.block i hi hr)⟩
theorem grown_refl (a : World) (r : Option Nat) : a.grownBy a r := ⟨rfl, rfl, rfl, Nat.le_refl _, fun _ _ _ => rfl⟩
theorem grown_drew {a b : World} {r : Option Nat} (h : a.grownBy b r) : a.grownBy b.drew r := ⟨h.os, h.tape, h.output, h.size, h.block⟩
theorem grown_below {a b : World} {r : Option Nat} (h : Below a.heap.size a b) : a.grownBy b r := ⟨h.os, h.tape, h.output, h.size, fun i hi _ => h.block i hi⟩
theorem grown_alloc {a b : World} {r : Option Nat} (h : a.grownBy b r) (o : Obj) : a.grownBy (b.alloc o) r := grown_trans h (grown_below ((Below.refl _ _).alloc (Nat.le_refl _) _))
theorem grown_setCell {a b : World} {rb off : Nat} (h : a.grownBy b (some rb)) (u : Value) : a.grownBy (b.setCell ⟨rb, off, none⟩ u) (some rb) :=
  grown_trans h ⟨rfl, rfl, rfl, by simp, fun i _ hr => Below.heap_setCell _ _ _ _ (fun e => hr (by rw [e]))⟩
theorem grown_drewN {a b : World} {r : Option Nat} (h : a.grownBy b r) (n : Nat) : a.grownBy (b.drewN n) r := ⟨h.os, h.tape, h.output, h.size, h.block⟩
/-- A list of texts in block g from cell o on. -/
def StrsAt (w : World) (g o : Nat) (ss : List ByteArray) : Prop := ∀ (i : Nat) (s : ByteArray), ss[i]? = some s → w.cell? ⟨g, o + i, none⟩ = some (.string s)
theorem StrsAt.kept {w w' : World} {g o rb : Nat} {ss : List ByteArray} (h : StrsAt w g o ss) (hg : w.grownBy w' (some rb)) (hne : g ≠ rb) : StrsAt w' g o ss :=
  fun i s hs => hg.cell (h i s hs) (by simpa using hne)
theorem below_copies (b : Nat) : ∀ (vs : List Value) (o : Nat) (W w' : World) (B : Nat), Below B W w' → B ≤ b → Below B W (w'.setCells b o vs)
  | [], _, _, _, _, h, _ => h
  | v :: r, o, W, w', B, h, hB => by
    rw [World.setCells]
    exact below_copies b r (o + 1) W _ B (h.setCell (p := ⟨b, o, none⟩) hB v) hB
theorem World.size_setCells' {b : Nat} : ∀ {vs : List Value} {o : Nat} {w : World}, (w.setCells b o vs).heap.size = w.heap.size
  | [], _, _ => rfl
  | v :: r, o, w => by rw [World.setCells, World.size_setCells']; simp
theorem World.grownBy.refl' (w : World) {r : Option Nat} : w.grownBy w r := ⟨rfl, rfl, rfl, Nat.le_refl _, fun _ _ _ => rfl⟩
theorem grown_copies (b : Nat) : ∀ (vs : List Value) (o : Nat) (W w' : World) (r : Option Nat), W.grownBy w' r → r = some b → W.grownBy (w'.setCells b o vs) r
  | [], _, _, _, _, h, _ => h
  | v :: s, o, W, w', r, h, hr => by
    rw [World.setCells]
    refine grown_copies b s (o + 1) W _ r ⟨h.os, h.tape, h.output, Nat.le_trans h.size (by simp), fun i hi hne => ?_⟩ hr
    rw [Below.heap_setCell _ _ _ _ (fun e => hne (by rw [hr, e]))]
    exact h.block i hi hne
/-- The cells of one struct, in a block of its own, which may be written. -/
def CB (w : World) (b : Nat) (cs : List Value) : Prop := w.rangeAt b 0 cs ∧ w.there b 0 cs.length ∧ b < w.heap.size
theorem CB.kept {w w' : World} {b : Nat} {cs : List Value} {r : Option Nat} (h : CB w b cs) (hg : w.grownBy w' r) (hne : some b ≠ r) : CB w' b cs := by
  have hb := hg.block b h.2.2 hne
  refine ⟨fun j v hv => ?_, fun j hj => ?_, Nat.lt_of_lt_of_le h.2.2 hg.size⟩
  · rw [World.cell?_of_block (w := w) (a := ⟨b, 0 + j, none⟩) hb]; exact h.1 j v hv
  · rw [World.cell?_of_block (w := w) (a := ⟨b, 0 + j, none⟩) hb, World.frozen?_of_block (w := w) (a := ⟨b, 0 + j, none⟩) hb]; exact h.2.1 j hj
theorem CB.up {w w' : World} {b B : Nat} {cs : List Value} (h : CB w b cs) (hb : Below B w w') (hB : b < B) : CB w' b cs := by
  have hk := hb.block b hB
  refine ⟨fun j v hv => ?_, fun j hj => ?_, Nat.lt_of_lt_of_le h.2.2 hb.size⟩
  · rw [World.cell?_of_block (w := w) (a := ⟨b, 0 + j, none⟩) hk]; exact h.1 j v hv
  · rw [World.cell?_of_block (w := w) (a := ⟨b, 0 + j, none⟩) hk, World.frozen?_of_block (w := w) (a := ⟨b, 0 + j, none⟩) hk]; exact h.2.1 j hj
theorem cb_alloc (w : World) (cs : List Value) (t : TypeId) : CB (w.alloc (.cells cs.toArray t)) w.heap.size cs := by
  have hr : (w.alloc (.cells cs.toArray t)).rangeAt w.heap.size 0 cs := by
    intro j v hv
    rw [Nat.zero_add, World.cell?_alloc_at]
    · simpa using hv
    · rfl
  refine ⟨hr, fun j hj => ⟨hr.isSome j hj, ?_⟩, by simp⟩
  simp [go_sem]
theorem cb_range_set {w : World} {b : Nat} {cs : List Value} {j : Nat} {u : Value} (h : w.rangeAt b 0 cs) (hj : j < cs.length) : (w.setCell ⟨b, j, none⟩ u).rangeAt b 0 (cs.set j u) := by
  intro i x hx
  rw [List.getElem?_set] at hx
  by_cases e : j = i
  · subst e
    rw [if_pos rfl, if_pos hj] at hx
    obtain rfl := Option.some.inj hx
    have hc := h j cs[j] (by simp)
    rw [Nat.zero_add] at hc ⊢
    exact World.cell?_setCell_same _ _ _ hc
  · rw [if_neg e] at hx
    rw [World.cell?_setCell_other _ _ _ _ (by simp <;> omega)]
    exact h i x hx
theorem CB.set {w : World} {b j : Nat} {cs : List Value} {u : Value} (h : CB w b cs) (hj : j < cs.length) : CB (w.setCell ⟨b, j, none⟩ u) b (cs.set j u) := by
  refine ⟨cb_range_set h.1 hj, fun i hi => ?_, by simpa using h.2.2⟩
  have := World.there_setCells h.2.1 b j [u] i (by simpa using hi)
  simpa [World.setCells] using this
theorem CB.other {w : World} {b q j : Nat} {cs : List Value} {u : Value} (h : CB w b cs) (hne : b ≠ q) : CB (w.setCell ⟨q, j, none⟩ u) b cs :=
  h.kept (r := some q) ⟨rfl, rfl, rfl, by simp, fun i _ hr => Below.heap_setCell _ _ _ _ (fun e => hr (by rw [e]))⟩ (by simpa using hne)
theorem CB.c2 {w : World} {b : Nat} {x0 x1 : Value} (h : CB w b [x0, x1]) : (w.cell? ⟨b, 0, none⟩ = some x0 ∧ w.cell? ⟨b, 1, none⟩ = some x1) ∧ w.frozen? ⟨b, 0, none⟩ = false ∧ w.frozen? ⟨b, 1, none⟩ = false :=
  ⟨⟨h.1 0 _ rfl, h.1 1 _ rfl⟩, (h.2.1 0 (by simp)).2, (h.2.1 1 (by simp)).2⟩
theorem CB.c3 {w : World} {b : Nat} {x0 x1 x2 : Value} (h : CB w b [x0, x1, x2]) : (w.cell? ⟨b, 0, none⟩ = some x0 ∧ w.cell? ⟨b, 1, none⟩ = some x1 ∧ w.cell? ⟨b, 2, none⟩ = some x2) ∧ w.frozen? ⟨b, 0, none⟩ = false ∧ w.frozen? ⟨b, 1, none⟩ = false ∧ w.frozen? ⟨b, 2, none⟩ = false :=
  ⟨⟨h.1 0 _ rfl, h.1 1 _ rfl, h.1 2 _ rfl⟩, (h.2.1 0 (by simp)).2, (h.2.1 1 (by simp)).2, (h.2.1 2 (by simp)).2⟩
theorem CB.c8 {w : World} {b : Nat} {x0 x1 x2 x3 x4 x5 x6 x7 : Value} (h : CB w b [x0, x1, x2, x3, x4, x5, x6, x7]) :
    (w.cell? ⟨b, 0, none⟩ = some x0 ∧ w.cell? ⟨b, 1, none⟩ = some x1 ∧ w.cell? ⟨b, 2, none⟩ = some x2 ∧ w.cell? ⟨b, 3, none⟩ = some x3 ∧ w.cell? ⟨b, 4, none⟩ = some x4 ∧ w.cell? ⟨b, 5, none⟩ = some x5 ∧ w.cell? ⟨b, 6, none⟩ = some x6 ∧ w.cell? ⟨b, 7, none⟩ = some x7) ∧
    w.frozen? ⟨b, 0, none⟩ = false ∧ w.frozen? ⟨b, 1, none⟩ = false ∧ w.frozen? ⟨b, 2, none⟩ = false ∧ w.frozen? ⟨b, 3, none⟩ = false ∧ w.frozen? ⟨b, 4, none⟩ = false ∧ w.frozen? ⟨b, 5, none⟩ = false ∧ w.frozen? ⟨b, 6, none⟩ = false ∧ w.frozen? ⟨b, 7, none⟩ = false :=
  ⟨⟨h.1 0 _ rfl, h.1 1 _ rfl, h.1 2 _ rfl, h.1 3 _ rfl, h.1 4 _ rfl, h.1 5 _ rfl, h.1 6 _ rfl, h.1 7 _ rfl⟩, (h.2.1 0 (by simp)).2, (h.2.1 1 (by simp)).2, (h.2.1 2 (by simp)).2, (h.2.1 3 (by simp)).2, (h.2.1 4 (by simp)).2, (h.2.1 5 (by simp)).2, (h.2.1 6 (by simp)).2, (h.2.1 7 (by simp)).2⟩
/-- A struct stored whole. -/
theorem CB.copy {w : World} {b : Nat} {ys : List Value} (h : CB w b ys) (xs : List Value) (hl : xs.length = ys.length) : CB (w.setCells b 0 xs) b xs :=
  ⟨World.rangeAt_setCells_same _ _ _ _ (by rw [hl]; exact h.2.1), World.there_setCells (by rw [hl]; exact h.2.1) _ _ _, by rw [World.size_setCells']; exact h.2.2⟩
theorem below_copy {B : Nat} {a w : World} {b : Nat} (h : Below B a w) (hb : B ≤ b) (xs : List Value) : Below B a (w.setCells b 0 xs) := below_copies b xs 0 a w B h hb
theorem CB.otherCopy {w : World} {b q : Nat} {ys : List Value} (h : CB w b ys) (hne : b ≠ q) (xs : List Value) : CB (w.setCells q 0 xs) b ys :=
  h.kept (r := some q) (grown_copies q xs 0 w w (some q) (World.grownBy.refl' w) rfl) (by simpa using hne)
/-- The struct that lies there may be stored into. -/
theorem CB.room {w : World} {b : Nat} {ys : List Value} (h : CB w b ys) {n : Nat} (hn : n = ys.length) : w.there b 0 n := by subst hn; exact h.2.1
theorem CB.copy2 {w : World} {b : Nat} {y0 y1 : Value} (h : CB w b [y0, y1]) (x0 x1 : Value) : CB ((w.setCell ⟨b, 0, none⟩ x0).setCell ⟨b, 1, none⟩ x1) b [x0, x1] := h.copy [x0, x1] rfl
theorem CB.copy3 {w : World} {b : Nat} {y0 y1 y2 : Value} (h : CB w b [y0, y1, y2]) (x0 x1 x2 : Value) : CB (((w.setCell ⟨b, 0, none⟩ x0).setCell ⟨b, 1, none⟩ x1).setCell ⟨b, 2, none⟩ x2) b [x0, x1, x2] := h.copy [x0, x1, x2] rfl
theorem CB.copy8 {w : World} {b : Nat} {y0 y1 y2 y3 y4 y5 y6 y7 : Value} (h : CB w b [y0, y1, y2, y3, y4, y5, y6, y7]) (x0 x1 x2 x3 x4 x5 x6 x7 : Value) :
    CB ((((((((w.setCell ⟨b, 0, none⟩ x0).setCell ⟨b, 1, none⟩ x1).setCell ⟨b, 2, none⟩ x2).setCell ⟨b, 3, none⟩ x3).setCell ⟨b, 4, none⟩ x4).setCell ⟨b, 5, none⟩ x5).setCell ⟨b, 6, none⟩ x6).setCell ⟨b, 7, none⟩ x7) b [x0, x1, x2, x3, x4, x5, x6, x7] := h.copy [x0, x1, x2, x3, x4, x5, x6, x7] rfl
theorem below_set2 {B : Nat} {a w : World} {b : Nat} (h : Below B a w) (hb : B ≤ b) (x0 x1 : Value) : Below B a ((w.setCell ⟨b, 0, none⟩ x0).setCell ⟨b, 1, none⟩ x1) := below_copy h hb [x0, x1]
theorem below_set3 {B : Nat} {a w : World} {b : Nat} (h : Below B a w) (hb : B ≤ b) (x0 x1 x2 : Value) : Below B a (((w.setCell ⟨b, 0, none⟩ x0).setCell ⟨b, 1, none⟩ x1).setCell ⟨b, 2, none⟩ x2) := below_copy h hb [x0, x1, x2]
theorem below_set8 {B : Nat} {a w : World} {b : Nat} (h : Below B a w) (hb : B ≤ b) (x0 x1 x2 x3 x4 x5 x6 x7 : Value) :
    Below B a ((((((((w.setCell ⟨b, 0, none⟩ x0).setCell ⟨b, 1, none⟩ x1).setCell ⟨b, 2, none⟩ x2).setCell ⟨b, 3, none⟩ x3).setCell ⟨b, 4, none⟩ x4).setCell ⟨b, 5, none⟩ x5).setCell ⟨b, 6, none⟩ x6).setCell ⟨b, 7, none⟩ x7) := below_copy h hb [x0, x1, x2, x3, x4, x5, x6, x7]
/-- What a function hands back that lies in its result's block. -/
theorem ret_cb {P : Program} {fn : Func} {q : Tmp} {T : TypeId} (h : fn.results = #[.cell q T]) {d : TypeDesc} (hu : P.underlying T = some d) (hd : d.isRow = true) {tmps : Array Value} {Z : World} {rk : Nat} {cs : List Value} (hi : (P.info? T).map (·.size) = some cs.length)
    (ht : tmps.getD q undef = .pointer (some ⟨rk, 0, none⟩)) (hZ : CB Z rk cs) : (results fn tmps).run P Z = .ok (.agg cs.toArray) Z := by
  have hl := run_loadVar_mid (P := P) Z rk 0 T cs d hZ.1 hu hd hi
  have ha : (asAddr (.pointer (some ⟨rk, 0, none⟩))).run P Z = .ok ⟨rk, 0, none⟩ Z := by simp [go_sem]
  have ht' : tmps[q]?.getD undef = .pointer (some ⟨rk, 0, none⟩) := by simpa using ht
  simp only [results, h]
  simp [Sem.run_bind, Result.andThen, ht', ha, hl]
/-- The same, beside a second result that is a temporary. -/
theorem ret_cb2 {P : Program} {fn : Func} {q q2 : Tmp} {T : TypeId} (h : fn.results = #[.cell q T, .tmp q2]) {d : TypeDesc} (hu : P.underlying T = some d) (hd : d.isRow = true) {tmps : Array Value} {Z : World} {rk : Nat} {cs : List Value} (hi : (P.info? T).map (·.size) = some cs.length)
    {v : Value} (ht : tmps.getD q undef = .pointer (some ⟨rk, 0, none⟩)) (hv : tmps.getD q2 undef = v) (hZ : CB Z rk cs) : (results fn tmps).run P Z = .ok (.tuple #[.agg cs.toArray, v]) Z := by
  have hl := run_loadVar_mid (P := P) Z rk 0 T cs d hZ.1 hu hd hi
  have ha : (asAddr (.pointer (some ⟨rk, 0, none⟩))).run P Z = .ok ⟨rk, 0, none⟩ Z := by simp [go_sem]
  have ht' : tmps[q]?.getD undef = .pointer (some ⟨rk, 0, none⟩) := by simpa using ht
  have hv' : tmps[q2]?.getD undef = v := by simpa using hv
  simp only [results, h]
  simp [Sem.run_bind, Result.andThen, ht', hv', ha, hl]
/-- One, two, three structs laid one behind the other. -/
theorem cb1 (w : World) (x : List Value) (t : TypeId) : CB (w.alloc (.cells x.toArray t)) w.heap.size x ∧ Below w.heap.size w (w.alloc (.cells x.toArray t)) ∧ (w.alloc (.cells x.toArray t)).heap.size = w.heap.size + 1 :=
  ⟨cb_alloc w x t, (Below.refl _ _).alloc (Nat.le_refl _) _, by simp⟩
theorem cb2 (w : World) (x y : List Value) (t u : TypeId) : CB ((w.alloc (.cells x.toArray t)).alloc (.cells y.toArray u)) w.heap.size x ∧ CB ((w.alloc (.cells x.toArray t)).alloc (.cells y.toArray u)) (w.heap.size + 1) y ∧
    Below w.heap.size w ((w.alloc (.cells x.toArray t)).alloc (.cells y.toArray u)) ∧ ((w.alloc (.cells x.toArray t)).alloc (.cells y.toArray u)).heap.size = w.heap.size + 2 := by
  obtain ⟨h1, hb, hs⟩ := cb1 w x t
  obtain ⟨h2, hb2, hs2⟩ := cb1 (w.alloc (.cells x.toArray t)) y u
  refine ⟨h1.up hb2 (by rw [hs]; omega), by rw [hs] at h2; exact h2, hb.trans (hb2.mono (by rw [hs]; omega)), by rw [hs2, hs]⟩
theorem cb3 (w : World) (x y z : List Value) (t u v : TypeId) : CB (((w.alloc (.cells x.toArray t)).alloc (.cells y.toArray u)).alloc (.cells z.toArray v)) w.heap.size x ∧ CB (((w.alloc (.cells x.toArray t)).alloc (.cells y.toArray u)).alloc (.cells z.toArray v)) (w.heap.size + 1) y ∧
    CB (((w.alloc (.cells x.toArray t)).alloc (.cells y.toArray u)).alloc (.cells z.toArray v)) (w.heap.size + 2) z ∧
    Below w.heap.size w (((w.alloc (.cells x.toArray t)).alloc (.cells y.toArray u)).alloc (.cells z.toArray v)) ∧ (((w.alloc (.cells x.toArray t)).alloc (.cells y.toArray u)).alloc (.cells z.toArray v)).heap.size = w.heap.size + 3 := by
  obtain ⟨h1, h2, hb, hs⟩ := cb2 w x y t u
  obtain ⟨h3, hb3, hs3⟩ := cb1 ((w.alloc (.cells x.toArray t)).alloc (.cells y.toArray u)) z v
  refine ⟨h1.up hb3 (by rw [hs]; omega), h2.up hb3 (by rw [hs]; omega), by rw [hs] at h3; exact h3, hb.trans (hb3.mono (by rw [hs]; omega)), by rw [hs3, hs]⟩
theorem cbE1 (w : World) (x : List Value) (t : TypeId) : ∃ W, w.alloc (.cells x.toArray t) = W ∧ CB W w.heap.size x ∧ Below w.heap.size w W ∧ W.heap.size = w.heap.size + 1 := ⟨_, rfl, cb1 w x t⟩
theorem cbE2 (w : World) (x : List Value) (t : TypeId) (y : List Value) (u : TypeId) : ∃ W, (w.alloc (.cells x.toArray t)).alloc (.cells y.toArray u) = W ∧ CB W w.heap.size x ∧ CB W (w.heap.size + 1) y ∧ Below w.heap.size w W ∧ W.heap.size = w.heap.size + 2 := ⟨_, rfl, cb2 w x y t u⟩
theorem cbE3 (w : World) (x : List Value) (t : TypeId) (y : List Value) (u : TypeId) (z : List Value) (v : TypeId) : ∃ W, ((w.alloc (.cells x.toArray t)).alloc (.cells y.toArray u)).alloc (.cells z.toArray v) = W ∧ CB W w.heap.size x ∧ CB W (w.heap.size + 1) y ∧ CB W (w.heap.size + 2) z ∧ Below w.heap.size w W ∧ W.heap.size = w.heap.size + 3 := ⟨_, rfl, cb3 w x y z t u v⟩
theorem own_ptr {w : World} {base e size n : Nat} {v : Value} {xs : List Value} (h : w.ownsRow base e size v n xs) (hn : 0 < n) : ∃ g cap, v = .slice (some ⟨g, 0, none⟩) n cap := by
  rcases h.2 with ⟨_, h0⟩ | ⟨g, cap, _, hv, _⟩
  · omega
  · exact ⟨g, cap, hv⟩
theorem own_up {W w' : World} {base e size n : Nat} {v : Value} {xs : List Value} (h : W.ownsRow base e size v n xs) (hb : Below W.heap.size W w') : w'.ownsRow base e size v n xs := by
  refine ⟨h.1, ?_⟩
  rcases h.2 with h0 | ⟨g, cap, cur, hv, hg, hh, r⟩
  · exact .inl h0
  · refine .inr ⟨g, cap, cur, hv, hg, ?_, r⟩
    rw [hb.block g (Array.getElem?_eq_some_iff.1 hh).1]; exact hh
theorem new2 (w : World) (a b : Value) (ty : TypeId) {j : Nat} {u : Value} (h : [a, b][j]? = some u) : (w.alloc (.cells #[a, b] ty)).cell? ((⟨w.heap.size, 0, none⟩ : Addr).add j) = some u := by
  match j, h with
  | 0, h => simp at h; subst h; simp [Addr.add]
  | 1, h => simp at h; subst h; simp [Addr.add]
theorem one2 {s : ByteArray} {x u : Value} (hx : x.oneCell' = true) (h : u ∈ [Value.string s, x]) : u.oneCell' = true := by
  simp at h; rcases h with rfl | rfl
  · rfl
  · exact hx
theorem grown_setNew {a b : World} {r : Option Nat} {pb off : Nat} (h : a.grownBy b r) (hp : a.heap.size ≤ pb) (u : Value) : a.grownBy (b.setCell ⟨pb, off, none⟩ u) r :=
  ⟨h.os, h.tape, h.output, by simpa using h.size, fun i hi hr => (Below.heap_setCell _ _ _ _ (by simp; omega)).trans (h.block i hi hr)⟩
theorem infoStr : (Try.prog.info? 9).map (fun i => (i.zero, i.size, i.bytes)) = some (some (.string ⟨#[]⟩), 1, 16) := by kernel_rfl
theorem StrsAt.alloc {w : World} {g o : Nat} {ss : List ByteArray} (h : StrsAt w g o ss) (ob : Obj) : StrsAt (w.alloc ob) g o ss := fun i s hs => by
  have := h i s hs
  rw [World.cell?_alloc_lt _ _ _ (World.block_lt_of_cell? w _ this)]; exact this
theorem news_of {w : World} {g o : Nat} {ss : List ByteArray} (h : StrsAt w g o ss) : ∀ (j : Nat) (u : Value), (ss.map Value.string)[j]? = some u → w.cell? ((⟨g, o, none⟩ : Addr).add j) = some u := fun j u hu => by
  rw [List.getElem?_map, Option.map_eq_some_iff] at hu
  obtain ⟨s, hs, rfl⟩ := hu
  rw [Addr.add_mid]; exact h j s hs
theorem oneS (ss : List ByteArray) : ∀ u ∈ ss.map Value.string, u.oneCell' = true := fun u hu => by
  obtain ⟨s, _, rfl⟩ := List.mem_map.1 hu; rfl
theorem own_ptr2 {w : World} {base e size n : Nat} {v : Value} {xs : List Value} (h : w.ownsRow base e size v n xs) (hn : 0 < n) : ∃ g cap, v = .slice (some ⟨g, 0, none⟩) n cap := by
  rcases h.2 with ⟨_, h0⟩ | ⟨g, cap, _, hv, _⟩
  · omega
  · exact ⟨g, cap, hv⟩
theorem strs_of_own {w : World} {base e g n cap : Nat} {ss : List ByteArray} (h : w.ownsRow base e 1 (.slice (some ⟨g, 0, none⟩) n cap) n (ss.map Value.string)) (hn : ss.length = n) : StrsAt w g 0 ss := fun i s hs => by
  have hi : i < ss.length := (List.getElem?_eq_some_iff.1 hs).1
  rw [Nat.zero_add, h.cellAt i (by omega), List.getElem?_map, hs]; rfl
theorem grown_new {a b c : World} {r : Option Nat} {k : Nat} (h : a.grownBy b r) (hg : b.grownBy c (some k)) (hk : a.heap.size ≤ k) : a.grownBy c r :=
  ⟨hg.os.trans h.os, hg.tape.trans h.tape, hg.output.trans h.output, Nat.le_trans h.size hg.size, fun i hi hr => (hg.block i (Nat.lt_of_lt_of_le hi h.size) (by simp; omega)).trans (h.block i hi hr)⟩
theorem StrsAt.other {w : World} {g o pb off : Nat} {u : Value} {ss : List ByteArray} (h : StrsAt w g o ss) (hne : g ≠ pb) : StrsAt (w.setCell ⟨pb, off, none⟩ u) g o ss := fun i s hs => by
  rw [World.cell?_setCell_other _ _ _ _ (by simp <;> omega)]; exact h i s hs
theorem step_append_own {P : Program} {ops : Array Oper} {o : Oper} {a : Act} {w : World} {K : Act → World → Prop} {Q : Exit → Act → World → Prop} {E : Prop}
    (hg : o.guard = none) (s x : Operand) (t : TypeId) (hop : o.op = Op.call { callee := Callee.builtin Builtin.append, args := #[s, x], argTypes := #[t, t] })
    (base : Nat) (e : TypeId) (i : TypeInfo) (z : Value) (size bytes : Nat) (ht : P.underlying t = some (.slice e)) (hi : P.info? e = some i) (hz : i.zero = some z)
    (hsize : i.size = size) (hby : i.bytes = bytes) (hzs : z.cells.size = size) (hsz : 0 < size)
    (v : Value) (n : Nat) (xs : List Value) (hs : a.eval s = v) (hown : w.ownsRow base e size v n xs)
    (ad : Addr) (m c : Nat) (news : List Value) (hx : a.eval x = .slice (some ad) m c) (hl : news.length = m * size) (hnews : ∀ j u, news[j]? = some u → w.cell? (ad.add j) = some u) (h1 : ∀ u ∈ news, u.oneCell' = true)
    (h63 : n + m ≤ maxLen) (hbytes : (n + m) * bytes ≤ 140737488355328) (hbase : base ≤ w.heap.size)
    (hK : ∀ v' w', w'.ownsRow base e size v' (n + m) (xs ++ news) → w.grownBy w' v.ownBlock → K (a.put o.dst v') w') :
    if Region.wanted o (yielded ops a.tmps) = true then Oper.wp P o a w K Q else E := by
  have hw : Region.wanted o (yielded ops a.tmps) = true := by simp [Region.wanted, hg]
  rw [if_pos hw]
  obtain ⟨v', w', hr, h2, h3, _⟩ := run_append_own (P := P) w base t o.type e i z size bytes ht hi hz hsize hby hzs hsz v n xs hown ad m c news hl hnews h1 h63 hbytes hbase
  unfold Oper.wp
  simp [execOp, hop, resolve, invoke, builtin, hs, hx, hr, Result.andThen]
  exact hK v' w' h2 h3
theorem own_grown {w w' : World} {base e size n rb : Nat} {v : Value} {xs : List Value} (h : w.ownsRow base e size v n xs) (hg : w.grownBy w' (some rb)) (hrb : rb < base) : w'.ownsRow base e size v n xs := by
  refine ⟨h.1, ?_⟩
  rcases h.2 with h0 | ⟨g, cap, cur, hv, hb, hh, r⟩
  · exact .inl h0
  · refine .inr ⟨g, cap, cur, hv, hb, ?_, r⟩
    rw [hg.block g (Array.getElem?_eq_some_iff.1 hh).1 (by simp; omega)]; exact hh
theorem own_low {w : World} {base base' e size n : Nat} {v : Value} {xs : List Value} (h : w.ownsRow base e size v n xs) (hb : base' ≤ base) : w.ownsRow base' e size v n xs := by
  refine ⟨h.1, ?_⟩
  rcases h.2 with h0 | ⟨g, cap, cur, hv, hg, r⟩
  · exact .inl h0
  · exact .inr ⟨g, cap, cur, hv, Nat.le_trans hb hg, r⟩
theorem own_ne {w : World} {base e size n b : Nat} {v : Value} {xs : List Value} (h : w.ownsRow base e size v n xs) (hb : b < base) : some b ≠ v.ownBlock := fun e => by
  have := (h.lt b e.symm).1; omega
theorem grown_own {a b c : World} {r : Option Nat} {base e size n : Nat} {v : Value} {xs : List Value} (h : a.grownBy b r) (hown : b.ownsRow base e size v n xs) (hg : b.grownBy c v.ownBlock) (hk : a.heap.size ≤ base) : a.grownBy c r :=
  ⟨hg.os.trans h.os, hg.tape.trans h.tape, hg.output.trans h.output, Nat.le_trans h.size hg.size, fun i hi hr => (hg.block i (Nat.lt_of_lt_of_le hi h.size) (own_ne hown (by omega))).trans (h.block i hi hr)⟩
theorem StrsAt.own {w w' : World} {g o base e size n : Nat} {u : Value} {xs : List Value} {ss : List ByteArray} (h : StrsAt w g o ss) (hown : w.ownsRow base e size u n xs) (hg : w.grownBy w' u.ownBlock) (hk : g < base) : StrsAt w' g o ss :=
  fun i s hs => hg.cell (h i s hs) (own_ne hown hk)
theorem StrsAt.drew {w : World} {g o : Nat} {ss : List ByteArray} (h : StrsAt w g o ss) : StrsAt w.drew g o ss := h
theorem own_drew {w : World} {base e size n : Nat} {v : Value} {xs : List Value} (h : w.ownsRow base e size v n xs) : w.drew.ownsRow base e size v n xs := h
theorem StrsAt.drop {w : World} {g o : Nat} {ss : List ByteArray} (h : StrsAt w g o ss) (k : Nat) : StrsAt w g (o + k) (ss.drop k) := fun i s hs => by
  rw [List.getElem?_drop] at hs
  rw [Nat.add_assoc]; exact h (k + i) s hs
theorem StrsAt.take {w : World} {g o : Nat} {ss : List ByteArray} (h : StrsAt w g o ss) (k : Nat) : StrsAt w g o (ss.take k) := fun i s hs => by
  rw [List.getElem?_take] at hs
  split at hs
  · exact h i s hs
  · cases hs
/-- A list of texts, handed about as a slice. -/
def Txt (w : World) (v : Value) (ss : List ByteArray) : Prop := ∃ g c, v = .slice (some ⟨g, 0, none⟩) ss.length c ∧ StrsAt w g 0 ss ∧ g < w.heap.size ∧ ss.length ≤ c ∧ c ≤ maxLen
theorem Txt.up {w w' : World} {v : Value} {ss : List ByteArray} (h : Txt w v ss) (hb : Below w.heap.size w w') : Txt w' v ss := by
  obtain ⟨g, c, rfl, hS, hg, r⟩ := h
  exact ⟨g, c, rfl, fun i s hs => (hb.cell (p := ⟨g, 0 + i, none⟩) hg).trans (hS i s hs), Nat.lt_of_lt_of_le hg hb.size, r⟩
theorem Txt.own {w : World} {base e n : Nat} {v : Value} {ss : List ByteArray} (h : w.ownsRow base e 1 v n (ss.map Value.string)) (hn : ss.length = n) (hv : ∃ g c, v = .slice (some ⟨g, 0, none⟩) n c) : Txt w v ss := by
  obtain ⟨g, c, rfl⟩ := hv
  refine ⟨g, c, by rw [hn], strs_of_own h hn, (h.lt g rfl).2, ?_, ?_⟩
  · rcases h.2 with ⟨h0, _⟩ | ⟨g', cap', cur, h', _, _, hc, _⟩
    · cases h0
    · cases h'; omega
  · rcases h.2 with ⟨h0, _⟩ | ⟨g', cap', cur, h', _, _, _, hc, _⟩
    · cases h0
    · cases h'; exact hc
theorem below_own {w W W' : World} {base e size n : Nat} {v : Value} {xs : List Value} (h : Below w.heap.size w W) (hown : W.ownsRow base e size v n xs) (hg : W.grownBy W' v.ownBlock) (hk : w.heap.size ≤ base) : Below w.heap.size w W' :=
  { os := hg.os.trans h.os, tape := hg.tape.trans h.tape, output := hg.output.trans h.output, size := Nat.le_trans h.size hg.size, block := fun i hi => (hg.block i (Nat.lt_of_lt_of_le hi h.size) (own_ne hown (by omega))).trans (h.block i hi) }
theorem one_new (w : World) (s : ByteArray) (t : TypeId) : ∀ (j : Nat) (u : Value), [Value.string s][j]? = some u → (w.alloc (.cells #[.string s] t)).cell? ((⟨w.heap.size, 0, none⟩ : Addr).add j) = some u := fun j u hj => by
  match j, hj with
  | 0, hj => simp at hj; subst hj; simp [Addr.add]
theorem one_old {w : World} {b : Nat} {s : ByteArray} (h : w.cell? ⟨b, 0, none⟩ = some (.string s)) : ∀ (j : Nat) (u : Value), [Value.string s][j]? = some u → w.cell? ((⟨b, 0, none⟩ : Addr).add j) = some u := fun j u hj => by
  match j, hj with
  | 0, hj => simp at hj; subst hj; rw [Addr.add_mid]; exact h
theorem oneV (s : ByteArray) : ∀ u ∈ [Value.string s], u.oneCell' = true := fun u hu => by simp at hu; subst hu; rfl
def Lst (w : World) (v : Value) (ss : List ByteArray) : Prop := (v = .slice none 0 0 ∧ ss = []) ∨ Txt w v ss
theorem Lst.up {w w' : World} {v : Value} {ss : List ByteArray} (h : Lst w v ss) (hb : Below w.heap.size w w') : Lst w' v ss := by
  rcases h with h | h
  · exact .inl h
  · exact .inr (h.up hb)
/-- The names of a list, whatever it is. -/
theorem Lst.shape {w : World} {v : Value} {ss : List ByteArray} (h : Lst w v ss) : ∃ a c, v = .slice a ss.length c := by
  rcases h with ⟨rfl, rfl⟩ | ⟨g, c, rfl, _⟩
  · exact ⟨none, 0, rfl⟩
  · exact ⟨_, _, rfl⟩
/-- A list of its own. -/
def OwnT (w : World) (base : Nat) (u : Value) (ss : List ByteArray) : Prop := w.ownsRow base 9 1 u ss.length (ss.map Value.string)
theorem OwnT.lst {w : World} {base : Nat} {u : Value} {ss : List ByteArray} (h : OwnT w base u ss) : Lst w u ss := by
  rcases h.2 with ⟨h0, h1⟩ | ⟨g, cap, cur, hv, _⟩
  · exact .inl ⟨h0, List.length_eq_zero_iff.1 h1⟩
  · exact .inr (Txt.own h rfl ⟨g, cap, hv⟩)
theorem below_gr {w a b : World} {x : Nat} (h : Below w.heap.size w a) (hg : a.grownBy b (some x)) (hx : w.heap.size ≤ x) : Below w.heap.size w b :=
  { os := hg.os.trans h.os, tape := hg.tape.trans h.tape, output := hg.output.trans h.output, size := Nat.le_trans h.size hg.size, block := fun i hi => (hg.block i (Nat.lt_of_lt_of_le hi h.size) (by simp; omega)).trans (h.block i hi) }
theorem Lst.grown {w w' : World} {r : Option Nat} {v : Value} {ss : List ByteArray} (h : Lst w v ss) (hg : w.grownBy w' r) (hne : ∀ g, v.ownBlock = some g → some g ≠ r) : Lst w' v ss := by
  rcases h with h | ⟨g, c, rfl, hS, hlt, rest⟩
  · exact .inl h
  · exact .inr ⟨g, c, rfl, fun i s hs => hg.cell (hS i s hs) (hne g rfl), Nat.lt_of_lt_of_le hlt hg.size, rest⟩
theorem Lst.lt {w : World} {v : Value} {ss : List ByteArray} (h : Lst w v ss) : ∀ g, v.ownBlock = some g → g < w.heap.size := by
  intro g hg
  rcases h with ⟨rfl, _⟩ | ⟨g', c, rfl, _, hlt, _⟩
  · simp [Value.ownBlock] at hg
  · simp [Value.ownBlock] at hg; omega
theorem OwnT.up {w w' : World} {base : Nat} {u : Value} {ss : List ByteArray} (h : OwnT w base u ss) (hb : Below w.heap.size w w') : OwnT w' base u ss := own_up h hb
theorem below_setCells (b : Nat) : ∀ (vs : List Value) (o : Nat) (W w' : World) (B : Nat), Below B W w' → B ≤ b → Below B W (w'.setCells b o vs)
  | [], _, _, _, _, h, _ => h
  | v :: r, o, W, w', B, h, hB => by
    rw [World.setCells]
    exact below_setCells b r (o + 1) W _ B (h.setCell (p := ⟨b, o, none⟩) hB v) hB
theorem cellOf_alloc (w : World) (C : Array Value) (t : TypeId) (j : Nat) (hj : j < C.size) : ((w.alloc (.cells C t)).cell? ⟨w.heap.size, j, none⟩).isSome = true ∧ (w.alloc (.cells C t)).frozen? ⟨w.heap.size, j, none⟩ = false := by
  constructor
  · simp [hj, go_sem]
  · simp [go_sem]
theorem there_alloc (w : World) (C : Array Value) (t : TypeId) : (w.alloc (.cells C t)).there w.heap.size 0 C.size := fun j hj => by
  simpa using cellOf_alloc w C t j hj
theorem there_up {w w' : World} {b o n B : Nat} (h : w.there b o n) (hb : Below B w w') (hB : b < B) : w'.there b o n := fun j hj => by
  rw [hb.cell (p := ⟨b, o + j, none⟩) hB, hb.frozen (p := ⟨b, o + j, none⟩) hB]; exact h j hj
theorem size_setCells (w1 : World) (b o : Nat) (vs : List Value) : w1.heap.size ≤ (w1.setCells b o vs).heap.size := (below_setCells b vs o w1 w1 0 (Below.refl _ _) (Nat.zero_le _)).size
theorem keep1 {W w0 w1 : World} {b o : Nat} {x : Value} (hb : b < W.heap.size) (h : Below W.heap.size W w0 ∧ w0.cell? ⟨b, o, none⟩ = some x) (hB : Below w0.heap.size w0 w1) : Below W.heap.size W w1 ∧ w1.cell? ⟨b, o, none⟩ = some x :=
  ⟨up_trans h.1 hB, (hB.cell (p := ⟨b, o, none⟩) (Nat.lt_of_lt_of_le hb h.1.size)).trans h.2⟩
theorem below_drewN {a b : World} {B : Nat} (h : Below B a b) (n : Nat) : Below B a (b.drewN n) := { os := h.os, tape := h.tape, output := h.output, size := h.size, block := h.block }
end Go.Proofs.Ytafgabakhaipnaa

/- Runs carried over, 15: a call by its contract, beside others who only leave. -/
namespace Go.Proofs.Ytafgabakhaipnaa
open Go.Conc

section
variable {P : Program} {X : Nat → Prop} {s : Nat → Bool}

/-- What a contract says of the emptied worlds, of an end in one of them up to the tape. -/
def Told (P : Program) (X : Nat → Prop) (w : World) (R : World → Value → World → Prop) (fe : Frame) (ue : World) : Prop :=
  ∃ τ d u0 v, R (pzT X w τ d) v u0 ∧ fe.leaving P u0 (.returned v) ∧ Full (fun _ => False) u0 ue
theorem told_full {w : World} {R : World → Value → World → Prop} (fe : Frame) (u v : World) (h : Full (fun _ => False) u v) (k : Told P X w R fe u) : Told P X w R fe v := by
  obtain ⟨τ, d, u0, x, h1, h2, h3⟩ := k
  exact ⟨τ, d, u0, x, h1, h2, h3.trans h⟩

theorem noview_run (S : SetOk P s) {fr fe : Frame} {seg : List Frame} {u ue : World} : ∀ (N : Nat), FrOk P s fr → (∀ c ∈ seg, FrOk P s c) → Full (fun _ => False) u u → runN P N (lone fr (seg ++ [c0 P]) u) = .next (lone fe [c0 P] ue) → Full (fun _ => False) ue ue := fun N h hr hf hrun => by
  obtain ⟨ve, q1, q2⟩ := shift S N h hr hf hrun
  rw [hrun, Stepped.next.injEq] at q1
  obtain ⟨_, _, e⟩ := lone_inj q1
  rw [← e] at q2
  exact q2

/-- A call whose contract holds in the emptied world on every tape is carried out beside leavers. -/
theorem calls_run (S : SetOk P s) {f : FuncId} (hf : s f = true) {args : Array Value} {w : World} (hb : Base X w) {R : World → Value → World → Prop}
    (hc : ∀ τ d, Calls P f args (pzT X w τ d) fun e u' => ∃ v, e = .returned v ∧ R (pzT X w τ d) v u') (bw : List Frame) :
    Run P X (Left P X s (Told P X w R) bw) (G (Frame.enter P f args .normal) bw) w := by
  have h0 := enter_ok S hf args
  have hst : St P X s Rtn (Told P X w R) (Frame.enter P f args .normal) [] w := ⟨h0, by simp, hb, fun τ d => by
    obtain ⟨e, u', fr, ⟨v, rfl, hR⟩, ⟨N, hN⟩, _, hl⟩ := hc τ d [c0 P]
    have hs : Sim X 0 w (pzT X w τ d) := sim_pz hb (fun i q hi => by omega)
    have hfu : Full (fun _ => False) (pzT X w τ d) (pzT X w τ d) := fun n => ⟨rfl, fun _ h => h.elim, fun _ _ => rfl, fun _ h => h.elim, hs.pendU, rfl, rfl, fun _ _ _ => rfl⟩
    exact ⟨N, fr, u', hN, hl.1, τ, d, u', v, hR, hl, noview_run S N h0 (seg := []) (by simp) hfu hN⟩⟩
  exact run_of_st S told_full bw hst
end
end Go.Proofs.Ytafgabakhaipnaa

/- Runs carried over, 16: the return to the caller. -/
namespace Go.Proofs.Ytafgabakhaipnaa
open Go.Conc

section
variable {P : Program} {X : Nat → Prop} {s : Nat → Bool} {α β : Type}

/-- A term that leaves the world as it is, where it comes to a value. -/
def Keeps (P : Program) (q : Sem α) : Prop := ∀ w es a w' es', q.runT P w es = (.ok a w', es') → w' = w
theorem keeps_pure (a : α) : Keeps P (Pure.pure a : Sem α) := fun w es a w' es' h => by cases h; rfl
theorem keeps_halt (k : Halt) : Keeps P (Sem.halt k : Sem α) := fun w es a w' es' h => by cases h
theorem keeps_bind {q : Sem α} {f : α → Sem β} (h : Keeps P q) (hf : ∀ a, Keeps P (f a)) : Keeps P (q >>= f) := fun w es a w' es' hr => by
  have hr : (q.bind f).runT P w es = _ := hr
  rw [Sem.runT_bind'] at hr
  match hq : q.runT P w es, hr with
  | (.ok b w1, e1), hr => rw [hf b _ _ _ _ _ hr, h _ _ _ _ _ hq]
  | (.halt k w1, e1), hr => cases hr
theorem keeps_program {f : Program → Sem α} (h : Keeps P (f P)) : Keeps P (program >>= f) := fun w es a w' es' hr => h w es a w' es' hr
theorem keeps_load (a : Addr) (m : Mode) : Keeps P (load a m) := fun w es v w' es' hr => by
  simp only [load, Sem.runT] at hr
  split at hr
  · cases hr; rfl
  · split at hr
    · cases hr; rfl
    · cases hr
theorem keeps_und (t : TypeId) : Keeps P (underlying t) := by
  unfold underlying
  refine keeps_program ?_
  split <;> first | exact keeps_pure _ | exact keeps_halt _
theorem keeps_info (t : TypeId) : Keeps P (typeInfo t) := by
  unfold typeInfo
  refine keeps_program ?_
  split <;> first | exact keeps_pure _ | exact keeps_halt _
theorem keeps_loads (a : Addr) : ∀ (n i : Nat) (acc : Array Value), Keeps P (loadCellsFrom a i n acc)
  | 0, _, _ => keeps_pure _
  | n + 1, i, _ => keeps_bind (keeps_load _ _) (fun _ => keeps_loads a n (i + 1) _)
theorem keeps_loadVar (t : TypeId) (a : Addr) : Keeps P (loadVar t a) := by
  unfold loadVar
  refine keeps_bind (by unfold isAgg; refine keeps_bind (keeps_und t) (fun _ => ?_); split <;> exact keeps_pure _) (fun b => ?_)
  split
  · exact keeps_bind (keeps_bind (keeps_info t) (fun _ => keeps_pure _)) (fun n => keeps_bind (keeps_loads a _ _ _) (fun _ => keeps_pure _))
  · exact keeps_load _ _
theorem keeps_addr (v : Value) : Keeps P (asAddr v) := by
  unfold asAddr
  split
  · exact keeps_pure _
  · exact fun w es a w' es' hr => by cases hr
  · exact keeps_halt _
theorem keeps_results (fn : Func) (tmps : Array Value) : Keeps P (results fn tmps) := by
  unfold results
  refine keeps_bind ?_ (fun _ => keeps_pure _)
  rw [Array.mapM_eq_mapM_toList]
  refine keeps_bind (f := fun l => Pure.pure (List.toArray l)) ?_ (fun _ => keeps_pure _)
  induction fn.results.toList with
  | nil => exact keeps_pure _
  | cons x l ih =>
    rw [List.mapM_cons]
    refine keeps_bind ?_ (fun _ => keeps_bind ih (fun _ => keeps_pure _))
    split
    · exact keeps_pure _
    · exact keeps_bind (keeps_addr _) (fun _ => keeps_loadVar _ _)

theorem res_at {Y : Nat → Prop} {fn : Func} {tmps : Array Value} {x y : World} {v : Value} {es : Array Event} (hs : Sim Y 0 x y) (h : (results fn tmps).runT P y #[] = (.ok v y, es)) :
    (results fn tmps).runT P x #[] = (.ok v x, es) ∧ ∀ e ∈ es, Fine Y e := by
  have ha := s_results (P := P) (X := Y) fn tmps 0 x y #[] hs (.inr (by rw [h]; exact Nat.le_refl _))
  rw [h] at ha
  obtain ⟨hev, x', hx, _⟩ := ha
  have e := keeps_results fn tmps _ _ _ _ _ hx
  rw [e] at hx
  exact ⟨hx, fun e he => (hev e he).elim (fun h => by simp at h) id⟩
/-- The call's value goes to the caller; what the contract says holds of the emptied world. -/
theorem left_ret {w : World} {R : World → Value → World → Prop} {c : Frame} {cs : List Frame} {g : Goroutine} {w' : World} (h : Left P X s (Told P X w R) (c :: cs) g w') :
    ∃ v, (∀ d, ∃ es, stepG P true g (w'.at d) = .go (G (c.finish v) cs) (w'.at d) es ∧ ∀ e ∈ es, Fine X e) ∧ Base X w' ∧ ∀ τ d, ∃ τ0 d0 u0, R (pzT X w τ0 d0) v u0 ∧ Full (fun _ => False) u0 (pzT X w' τ d) := by
  obtain ⟨fe, rfl, hm, hok, hb, hT⟩ := h
  have at_u : ∀ {fn : Func} {u0 : World} {v : Value}, (results fn fe.tmps).run P u0 = .ok v u0 → ∃ es, (results fn fe.tmps).runT P u0 #[] = (.ok v u0, es) := fun {fn u0 v} hr => by
    have e := Sem.runT_fst P (results fn fe.tmps) u0 #[]
    rw [hr] at e
    exact ⟨_, Prod.ext e rfl⟩
  obtain ⟨τ0, d0, u0, v, hR, ⟨_, _, _, fn, hfn, hres⟩, hfu⟩ := hT (fun _ _ => 0) 0
  obtain ⟨es, e0⟩ := at_u hres
  have e1 := (res_at (hfu.symm 0) e0).1
  refine ⟨v, fun d => ?_, hb, fun τ d => ?_⟩
  · have hs : Sim X 0 (w'.at d) (pzT X w' (fun _ _ => 0) 0) := sim_pz (hb.at d) (fun i q hi => by omega)
    obtain ⟨e2, hfine⟩ := res_at hs e1
    refine ⟨seen P fe.fn es ++ #[], ?_, fun e he => ?_⟩
    · simp only [stepG, G, hm, unwind, hok.defers, hfn, e2, doReturn, hok.kind, GStep.after]
    · rw [Array.append_empty] at he
      exact hfine e (mem_seen he)
  · obtain ⟨τ1, d1, u1, v1, hR1, ⟨_, _, _, fn1, hfn1, hres1⟩, hfu1⟩ := hT τ d
    rw [hfn] at hfn1
    cases hfn1
    obtain ⟨es1, f0⟩ := at_u hres1
    have f1 := (res_at (hfu1.symm 0) f0).1
    have hs0 : ∀ (τ : Nat → Question → Nat) (d : Nat), Sim X 0 w' (pzT X w' τ d) := fun τ d => sim_pz hb (fun i q hi => by omega)
    have hy : Sim (fun _ => False) 0 (pzT X w' (fun _ _ => 0) 0) (pzT X w' τ d) := ⟨rfl, fun _ h => h.elim, fun _ _ => rfl, fun _ h => h.elim, (hs0 _ _).pendU, rfl, rfl, fun i q hi => by omega⟩
    have f2 := (res_at hy f1).1
    rw [e1] at f2
    have hv : v = v1 := by cases f2; rfl
    subst hv
    exact ⟨τ1, d1, u1, hR1, hfu1⟩
end
end Go.Proofs.Ytafgabakhaipnaa

/- Runs carried over, 17: a list of functions that call no others than their texts name and the list holds, by a look at the program. -/
namespace Go.Proofs.Ytafgabakhaipnaa
open Go.Conc

def setCheck (P : Program) (l : List Nat) : Bool := (l.all fun f => match P.funcs[f]? with
  | some fn => (match fn.body with | some b => codeOk P (fun g => l.contains g) b | none => false) && !(fn.name == "runtime.NumGoroutine")
  | none => false) && P.funcs.all fun f => (f.body.map readies).all (·.all (· < gN))
theorem step_of {P : Program} (h : (P.funcs.all fun f => (f.body.map readies).all (·.all (· < gN))) = true) (g : Nat) (hg : gN ≤ g) : P.stepOf g = none := by
  unfold Program.stepOf
  rw [Array.findIdx?_eq_none_iff]
  intro f hf
  have h1 := Array.all_eq_true'.1 h f hf
  cases hb : f.body with
  | none => rfl
  | some b =>
    rw [hb] at h1
    simp only [Option.map_some, Option.all_some, List.all_eq_true, decide_eq_true_eq] at h1
    simp only [Option.map_some, Option.any_some]
    cases hc : (readies b).contains g with
    | false => rfl
    | true => have := h1 g (by simpa using hc); omega
theorem setOk_of {P : Program} {l : List Nat} (h : setCheck P l = true) : SetOk P (fun g => l.contains g) := ⟨fun f hf => by
  have hm : f ∈ l := by simpa using hf
  have h1 := List.all_eq_true.1 (Bool.and_eq_true_iff.1 h).1 f hm
  cases hfn : P.funcs[f]? with
  | none => simp only [hfn] at h1; cases h1
  | some fn =>
    simp only [hfn, Bool.and_eq_true] at h1
    cases hb : fn.body with
    | none => simp only [hb] at h1; cases h1.1
    | some b =>
      simp only [hb] at h1
      exact ⟨fn, b, rfl, hb, h1.1, by simpa using h1.2⟩, step_of (Bool.and_eq_true_iff.1 h).2⟩
end Go.Proofs.Ytafgabakhaipnaa
